/- P00: a part of the proof that the last text tells. -/
import Derived.Test.YtdhophglnhcjbaaGreatDoorProg
import Derived.Maps.OwnSet
import Derived.StringKeys
import Derived.DeepKeys5
import Derived.WalkKit
import Derived.WalkSpells
import Derived.WalkLawsBesides
import Derived.Deep.QuietTactic
import Derived.BigQuiet
import Derived.Below
import Derived.RangeFuncNested
import Derived.RangeFuncBound
import Derived.RangeFuncCalls
import Derived.RangeFuncLeaves
import Derived.Shelf.Abstract
import Derived.Shelf.RegionOpen
import Derived.OwnWalkIn
import Derived.TacticsInMore
import Derived.LoopNIn
import Derived.LoopIn
import Derived.Maps.OwnIn
import Derived.Sort.QuietIn
set_option linter.all false
namespace Go.Proofs.YtdhophglnhcjbaaGreatDoor
theorem A7{α:Type}{a:α}:some a≠none:=Option.some_ne_none _
namespace Cf
structure St where
 at_:Nat
 used:Nat
 pool:List ByteArray
abbrev Er:=Nat×Nat
abbrev R(α:Type):=Except Er (α×St)
def beL(l:List UInt8):Nat:=l.foldl (fun n c=>n*256+c.toNat) 0
def A9(f:ByteArray)(k:Nat)(st:St):R Nat:=
 if st.at_+k≤f.size then .ok (beL ((f.data.toList.drop st.at_).take k),{st with at_:=st.at_+k})else .error (2,f.size)
def name(f:ByteArray)(st:St):R ByteArray:=
 match A9 f 1 st with
 | .error e=> .error e
 | .ok (n,st1)=>if n≤st.used∧n<st.pool.length then .ok (st.pool.getD n ByteArray.empty,{st1 with used:=max st.used (n+1)})else .error (5,st.at_)
structure Ty where
 kind:Nat
 name:ByteArray
structure R9 where
 name:ByteArray
 ty:Ty
structure In where
 op:Nat
 a:Int
 cls:ByteArray
 mem:ByteArray
structure Hd where
 from_:Nat
 to:Nat
 at_:Nat
 cls:ByteArray
structure Me where
 name:ByteArray
 params:List Ty
 ret:Ty
 stack:Nat
 locals:Nat
 code:List In
 handlers:List Hd
structure Cl where
 name:ByteArray
 super:ByteArray
 fields:List R9
 methods:List Me
def o7(k:Nat):Bool:=k==2||k==4
def T9(f:ByteArray)(b:Bool)(st:St):R ByteArray:=if b then name f st else .ok (ByteArray.empty,st)
def kind(f:ByteArray)(st:St):R Ty:=
 match A9 f 1 st with
 | .error e=> .error e
 | .ok (k,st1)=>
   if 4<k then .error (3,st.at_)else
   match T9 f (o7 k) st1 with
   | .error e=> .error e
   | .ok (n,st2)=> .ok (⟨k,n⟩,st2)
def L5(op:Nat):Nat:=if op=0 then 4 else if op=2∨op=3 then 1 else if 12≤op∧op≤15 then 2 else 0
def Z4(op:Nat):Bool:=(16≤op&&op≤19)||op==22||op==28||op==29
def b7(op:Nat):Bool:=17≤op&&op≤19
def T8(w n:Nat):Int:=if w=4∧2147483648≤n then(n:Int)-4294967296 else n
def O3(f:ByteArray)(st:St):R In:=
 match A9 f 1 st with
 | .error e=> .error e
 | .ok (op,st1)=>
   if 32≤op then .error (3,st.at_)else
   match A9 f (L5 op) st1 with
   | .error e=> .error e
   | .ok (n,st2)=>
     match T9 f (Z4 op) st2 with
     | .error e=> .error e
     | .ok (c,st3)=>
       match T9 f (b7 op) st3 with
       | .error e=> .error e
       | .ok (m,st4)=> .ok (⟨op,T8 (L5 op) n,c,m⟩,st4)
def V3(f:ByteArray)(st:St):R Hd:=
 match A9 f 2 st with
 | .error e=> .error e
 | .ok (a,st1)=>
   match A9 f 2 st1 with
   | .error e=> .error e
   | .ok (b,st2)=>
     match A9 f 2 st2 with
     | .error e=> .error e
     | .ok (c,st3)=>
       match name f st3 with
       | .error e=> .error e
       | .ok (n,st4)=> .ok (⟨a,b,c,n⟩,st4)
def Y6(f:ByteArray)(st:St):R R9:=
 match name f st with
 | .error e=> .error e
 | .ok (n,st1)=>
   match kind f st1 with
   | .error e=> .error e
   | .ok (t,st2)=> .ok (⟨n,t⟩,st2)
def D7{α:Type}(p:St→R α):Nat→St→R (List α)
 |0,st=> .ok ([],st)
 |k+1,st=>
  match p st with
  | .error e=> .error e
  | .ok (x,st1)=>
    match D7 p k st1 with
    | .error e=> .error e
    | .ok (l,st2)=> .ok (x::l,st2)
def D5{α:Type}(f:ByteArray)(w:Nat)(p:St→R α)(st:St):R (List α):=
 match A9 f w st with
 | .error e=> .error e
 | .ok (n,st1)=>D7 p n st1
def meth(f:ByteArray)(st:St):R Me:=
 match name f st with
 | .error e=> .error e
 | .ok (n,st1)=>
   match D5 f 1 (kind f) st1 with
   | .error e=> .error e
   | .ok (ps,st2)=>
     match kind f st2 with
     | .error e=> .error e
     | .ok (r,st3)=>
       match A9 f 1 st3 with
       | .error e=> .error e
       | .ok (s,st4)=>
         match A9 f 1 st4 with
         | .error e=> .error e
         | .ok (l,st5)=>
           match D5 f 2 (O3 f) st5 with
           | .error e=> .error e
           | .ok (c,st6)=>
             match D5 f 1 (V3 f) st6 with
             | .error e=> .error e
             | .ok (h,st7)=> .ok (⟨n,ps,r,s,l,c,h⟩,st7)
def cls(f:ByteArray)(st:St):R Cl:=
 match name f st with
 | .error e=> .error e
 | .ok (n,st1)=>
   match name f st1 with
   | .error e=> .error e
   | .ok (s,st2)=>
     match D5 f 1 (Y6 f) st2 with
     | .error e=> .error e
     | .ok (fs,st3)=>
       match D5 f 1 (meth f) st3 with
       | .error e=> .error e
       | .ok (ms,st4)=> .ok (⟨n,s,fs,ms⟩,st4)
def j1(c:UInt8):Bool:=(97≤c&&c≤122)||(65≤c&&c≤90)||(48≤c&&c≤57)
def F4(s:ByteArray):Bool:=decide (1≤s.size)&&decide (s.size≤12)&&s.data.toList.all j1
def V2(f:ByteArray)(st:St):R ByteArray:=
 match A9 f 1 st with
 | .error e=> .error e
 | .ok (k,st1)=>
   if st1.at_+k≤f.size then
    let s:=f.extract st1.at_ (st1.at_+k)
    if F4 s&& !st.pool.contains s then .ok (s,{st1 with at_:=st1.at_+k})else .error (4,st.at_)
   else .error (2,f.size)
def K0(f:ByteArray)(st:St):R Unit:=
 match V2 f st with
 | .error e=> .error e
 | .ok (s,st1)=> .ok ((),{st1 with pool:=st1.pool++ [s]})
def I8(f:ByteArray)(c:Nat)(i:Nat)(st:St):R Unit:=
 match A9 f 1 st with
 | .error e=> .error e
 | .ok (n,st1)=>if n=c then .ok ((),st1)else .error (3,i)
def F7(f:ByteArray):Except Er Cl:=
 if 2048<f.size then .error (1,0)else
 match I8 f 87 0 ⟨0,0,[]⟩with
 | .error e=> .error e
 | .ok (_,st1)=>
   match I8 f 49 1 st1 with
   | .error e=> .error e
   | .ok (_,st2)=>
     match D5 f 1 (K0 f) st2 with
     | .error e=> .error e
     | .ok (_,st3)=>
       match cls f st3 with
       | .error e=> .error e
       | .ok (c,st4)=>
         if st4.used<st4.pool.length then .error (5,f.size)else
         if st4.at_<f.size then .error (6,st4.at_)else .ok c
structure Inv(f:ByteArray)(st:St):Prop where
 fits:f.size≤2048
 at_:st.at_≤f.size
 used:st.used≤st.pool.length
 pool:st.pool.length≤255
end Cf
abbrev mV(m:Cf.Me)(pa:Option Addr)(pk:Nat)(ca:Option Addr)(ck:Nat)(ha:Option Addr)(hk:Nat):Array Value:= #[.string m.name, .slice pa m.params.length pk, .int .i64 m.ret.kind, .string m.ret.name, .int .i64 m.stack, .int .i64 m.locals, .slice ca m.code.length ck, .slice ha m.handlers.length hk]
abbrev mZ:Array Value:= #[.string ⟨#[]⟩, .slice none 0 0, .int .i64 0, .string ⟨#[]⟩, .int .i64 0, .int .i64 0, .slice none 0 0, .slice none 0 0]
namespace Cf
def D4:ByteArray:=⟨#[79,98,106,101,99,116]⟩
def F9:ByteArray:=⟨#[84,104,114,111,119]⟩
def a8a:ByteArray:=⟨#[78,105,108]⟩
def a7M:ByteArray:=⟨#[73,110,100,101,120]⟩
def a7U:ByteArray:=⟨#[83,105,122,101]⟩
def a7V:ByteArray:=⟨#[67,97,115,116]⟩
def a7T:ByteArray:=⟨#[90,101,114,111]⟩
def a7A:ByteArray:=⟨#[77,101,109,111,114,121]⟩
def a7N:ByteArray:=⟨#[68,101,112,116,104]⟩
def C3:ByteArray:=⟨#[]⟩
def a1S(n s:ByteArray):Cl:=⟨n,s,[],[]⟩
def A5:List Cl:=[a1S D4 C3,a1S F9 D4,a1S a8a F9,a1S a7M F9,a1S a7U F9,a1S a7V F9,a1S a7T F9,a1S a7A F9,a1S a7N F9]
def a7K:Cl:=⟨C3,C3,[],[]⟩
def cl(l:List Cl)(i:Nat):Cl:=l.getD i a7K
def C5(l:List Cl)(n:ByteArray):Option Nat:=l.findIdx? fun c=>decide (c.name=n)
def D8(l:List Cl):Nat→ByteArray→List Nat
 |0,_=> []
 |k+1,n=>match C5 l n with
  |none=> []
  |some i=>i::D8 l k (cl l i).super
def up(l:List Cl)(n:ByteArray):List Nat:=D8 l l.length n
def I4(a b:Ty):Bool:=decide (a.kind=b.kind)&&decide (a.name=b.name)
theorem a1m(a b:Ty):I4 a b=true↔a=b:=by
 cases a;cases b;simp[I4]
theorem a4u(a:Ty):I4 a a=true:=(a1m a a).2 rfl
def Y3:List Ty→List Ty→Bool
 | [],[]=>true
 |a::l,b::m=>I4 a b&&Y3 l m
 |_,_=>false
theorem a5r:∀(l m:List Ty),Y3 l m=true↔l=m
 | [],[]=>by simp[Y3]
 | [],_::_=>by simp[Y3]
 |_::_,[]=>by simp[Y3]
 |a::l,b::m=>by simp[Y3,a1m,a5r l m]
variable {l m:List Cl}
variable {n:ByteArray}
variable {i:Nat}
theorem L4(h:C5 l n=some i):i<l.length∧(cl l i).name=n∧∀j,j<i→(cl l j).name≠n:=by
 unfold C5 at h;obtain⟨hi,hp,hn⟩:=List.findIdx?_eq_some_iff_getElem.1 h;refine⟨hi,?_,fun j hj=> ?_⟩
 ·unfold cl;rw[List.getD_eq_getElem?_getD,List.getElem?_eq_getElem hi];simpa using hp
 ·have:=hn j hj;unfold cl;rw[List.getD_eq_getElem?_getD,List.getElem?_eq_getElem (by omega)];simpa using this
theorem a5p(h:C5 l n=none):∀j,j<l.length→(cl l j).name≠n:=by
 intro j hj;unfold C5 at h;have:=List.findIdx?_eq_none_iff.1 h l[j] (List.getElem_mem hj);unfold cl;rw[List.getD_eq_getElem?_getD,List.getElem?_eq_getElem hj];simpa using this
theorem a5H(hi:i<l.length)(hn:(cl l i).name=n)(hf:∀j,j<i→(cl l j).name≠n):C5 l n=some i:=by
 cases h:C5 l n with
 |none=>exact absurd hn (a5p h i hi)
 |some k=>
  obtain⟨h1,h2,h3⟩:=L4 h;rcases Nat.lt_trichotomy k i with h4|h4|h4
  ·exact absurd h2 (hf k h4)
  ·rw[h4]
  ·exact absurd hn (h3 i h4)
theorem L9(h:i<l.length):cl (l++m) i=cl l i:=by
 unfold cl;simp[List.getElem?_append_left h]
theorem a5d:cl (l++m) (l.length+i)=cl m i:=by
 unfold cl;simp[List.getElem?_append_right]
theorem U3(h:i<l.length):cl l i=l[i]:=by
 unfold cl;simp[h]
def t9(l:List Cl):Prop:=∀i j,i<l.length→j<l.length→(cl l i).name=(cl l j).name→i=j
theorem a5q(h:t9 l)(hi:i<l.length):C5 l (cl l i).name=some i:=
 a5H hi rfl (fun j hj e=>by have:=h j i (by omega) hi e;omega)
def o6(p:Nat→Bool)(n:Nat):Option Nat:=(List.range n).find? p
variable {p q:Nat→Bool}
theorem a5f{n:Nat}(h:o6 p n=none):∀i,i<n→p i=false:=by
 intro i hi;have:=List.find?_eq_none.1 h i (List.mem_range.2 hi);simpa using this
theorem b2m{n:Nat}(h:∀i,i<n→p i=q i):o6 p n=o6 q n:=by
 unfold o6
 have:∀l:List Nat,(∀i∈l,i<n)→l.find? p=l.find? q:=by
  intro l;induction l with
  |nil=>intro _;rfl
  |cons a l ih=>
   intro hl;simp only[List.find?_cons,h a (hl a (by simp))];rw[ih (fun i hi=>hl i (by simp[hi]))]
 exact this _ (fun i hi=>List.mem_range.1 hi)
def V0:List (Nat→Bool)→Nat→Nat→Except Er Unit
 | [],_,_=> .ok ()
 |p::ps,n,e=>match o6 p n with
  |some i=> .error (e,i)
  |none=>V0 ps n (e+1)
theorem a3q{ps qs:List (Nat→Bool)}{n e:Nat}(h:∀i,i<n→p i=q i)(hr:(∀i,i<n→q i=false)→V0 ps n (e+1)=V0 qs n (e+1)):V0 (p::ps) n e=V0 (q::qs) n e:=by
 simp only[V0,b2m h];cases hq:o6 q n with
 |some i=>rfl
 |none=>exact hr (a5f hq)
def E2(l:List Cl)(n:ByteArray):Bool:=(C5 l n).isSome
def twP(l:List Cl)(i:Nat):Bool:=decide (C5 l (cl l i).name≠some i)
def nsP(l:List Cl)(i:Nat):Bool:= !E2 l (cl l i).super
def loP(l:List Cl)(i:Nat):Bool:=(D8 l l.length (cl l i).super).any fun k=>decide ((cl l k).name=(cl l i).name)
def R7(l:List Cl)(t:Ty):Bool:=if t.kind=2∨t.kind=4 then E2 l t.name else decide (t.kind≠0)
def g8(l:List Cl)(m:Me):Bool:=m.params.any (fun p=> !R7 l p)||m.handlers.any (fun h=> !E2 l h.cls)||(decide (m.ret.kind≠0)&& !R7 l m.ret)
def tyP(l:List Cl)(i:Nat):Bool:=(cl l i).fields.any (fun f=> !R7 l f.ty)||(cl l i).methods.any (g8 l)
def X7(c:Cl)(n:ByteArray):Option Nat:=c.fields.findIdx? fun f=>decide (f.name=n)
def N8(c:Cl)(n:ByteArray):Option Nat:=c.methods.findIdx? fun m=>decide (m.name=n)
def R0(l:List Cl)(c n:ByteArray):Option (Nat×Nat):=(up l c).findSome? fun k=>(X7 (cl l k) n).map fun i=>(k,i)
def mbP(l:List Cl)(i:Nat):Bool:=
 (List.range (cl l i).fields.length).any (fun j=>(R0 l (cl l i).super ((cl l i).fields.getD j ⟨C3,0,C3⟩).name).isSome||decide (X7 (cl l i) ((cl l i).fields.getD j ⟨C3,0,C3⟩).name≠some j))||
 (List.range (cl l i).methods.length).any (fun j=>decide (N8 (cl l i) (((cl l i).methods.map (·.name)).getD j C3)≠some j))
def a0B(m o:Me):Bool:=I4 m.ret o.ret&&Y3 m.params o.params
def a1w(c:Cl)(n:ByteArray):Option Me:=c.methods.find? fun m=>decide (m.name=n)
def ovP(l:List Cl)(i:Nat):Bool:=
 (up l (cl l i).super).any fun k=>(cl l i).methods.any fun m=>match a1w (cl l k) m.name with
   |none=>false
   |some o=> !a0B m o
def twR(fs:List Cl)(i:Nat):Bool:=(C5 (A5++fs.take i) (cl fs i).name).isSome
def S9(l:List Cl)(t:Ty):Bool:=decide (t.name=C3)||E2 l t.name
def a2z(l:List Cl)(m:Me):Bool:= !(S9 l m.ret&&m.params.all (fun p=>S9 l p&&decide (p.kind≠0))&&m.handlers.all (fun h=>E2 l h.cls))
def y9(l:List Cl)(c:Cl):Bool:=c.fields.any (fun f=> !S9 l f.ty||decide (f.ty.kind=0))||c.methods.any (a2z l)
def a0w(l:List Cl)(n:ByteArray):List R9:=(up l n).reverse.flatMap fun k=>(cl l k).fields
variable {α:Type}
def Y4(f:α→ByteArray):List α→Bool
 | []=>false
 |x::xs=>xs.any (fun y=>decide (f y=f x))||Y4 f xs
def mbR(l:List Cl)(c:Cl):Bool:=Y4 (·.name) c.methods||Y4 (·.name) c.fields||c.fields.any (fun f=>(a0w l c.super).any fun g=>decide (f.name=g.name))
def ovR(l:List Cl)(c:Cl):Bool:=
 c.methods.any fun m=>(up l c.super).any fun k=>(cl l k).methods.any fun o=>decide (o.name=m.name)&&(!Y3 m.params o.params|| !I4 o.ret m.ret)
def y6(t:Ty):Prop:=t.kind≤4∧(t.name=C3↔¬(t.kind=2∨t.kind=4))∧(t.name≠C3→F4 t.name=true)
structure a0I(c:Cl):Prop where
 name:F4 c.name=true
 super:F4 c.super=true
 fields:∀f∈c.fields,F4 f.name=true∧y6 f.ty
 methods:∀m∈c.methods,F4 m.name=true∧y6 m.ret∧(∀p∈m.params,y6 p)∧∀h∈m.handlers,F4 h.cls=true
theorem a4v(f:α→ByteArray)(d:α):∀l:List α,Y4 f l=true↔∃i j,i<j∧j<l.length∧f (l.getD i d)=f (l.getD j d)
 | []=>by simp[Y4]
 |x::xs=>by
  simp only[Y4,Bool.or_eq_true,List.any_eq_true,decide_eq_true_eq,a4v f d xs];constructor
  ·rintro(⟨y,hy,e⟩|⟨i,j,h1,h2,h3⟩)
   ·obtain⟨q,hq,rfl⟩:=List.getElem_of_mem hy;exact⟨0,q+1,by omega,by simpa using hq,by simp[e,hq]⟩
   ·exact⟨i+1,j+1,by omega,by simpa using h2,by simpa using h3⟩
  ·rintro⟨i,j,h1,h2,h3⟩;obtain⟨j,rfl⟩:∃q,j=q+1:=⟨j-1,by omega⟩
   have hj:j<xs.length:=by simpa using h2
   cases i with
   |zero=>
    left;refine⟨xs[j],List.getElem_mem hj,?_⟩;simpa[hj]using h3.symm
   |succ i=>right;exact⟨i,j,by omega,hj,by simpa using h3⟩
theorem a6e(fs:List Cl)(i:Nat)(hi:i<fs.length):twP (A5++fs) (A5.length+i)=twR fs i:=by
 have hb:A5.length=9:=rfl;have hc:cl (A5++fs) (A5.length+i)=cl fs i:=a5d;have hlt:A5.length+i<(A5++fs).length:=by simp;omega
 rw[Bool.eq_iff_iff];unfold twP twR;rw[hc];simp only[decide_eq_true_eq,ne_eq,Option.isSome_iff_exists]
 have htake:∀j,j<A5.length+i→cl (A5++fs.take i) j=cl (A5++fs) j:=by
  intro j hj;unfold cl;have:A5++fs.take i=(A5++fs).take (A5.length+i):=(List.take_length_add_append i).symm;rw[this,List.getD_eq_getElem?_getD,List.getD_eq_getElem?_getD,List.getElem?_take,if_pos hj]
 have hlen:(A5++fs.take i).length=A5.length+i:=by simp;omega
 constructor
 ·intro hne;cases hf:C5 (A5++fs) (cl fs i).name with
  |none=>exact absurd (by rw[hc]) (a5p hf _ hlt)
  |some k=>
   obtain⟨h1,h2,h3⟩:=L4 hf
   have hk:k<A5.length+i:=by
    rcases Nat.lt_trichotomy k (A5.length+i)with h|h|h
    ·exact h
    ·subst h;exact absurd hf hne
    ·exact absurd (by rw[hc]) (h3 _ h)
   exact⟨k,a5H (by omega) (by rw[htake k hk];exact h2) (fun j hj=>by rw[htake j (by omega)];exact h3 j hj)⟩
 ·rintro⟨k,hk⟩ he;obtain⟨h1,h2,h3⟩:=L4 hk;obtain⟨g1,g2,g3⟩:=L4 he;rw[hlen]at h1;exact g3 k h1 (by rw[←htake k h1];exact h2)
theorem a6N{t:Ty}(h:y6 t):R7 l t=(S9 l t&&decide (t.kind≠0)):=by
 obtain⟨h1,h2,h3⟩:=h;unfold R7 S9;by_cases hk:t.kind=2∨t.kind=4
 ·have hn:t.name≠C3:=fun e=>(h2.1 e) hk
  have h0:t.kind≠0:=by omega
  simp[hk,hn,h0]
 ·have hn:=h2.2 hk;rw[if_neg hk,hn];simp
theorem b8m{m:Me}(hr:y6 m.ret)(hp:∀p∈m.params,y6 p):g8 l m=a2z l m:=by
 have h1:(decide (m.ret.kind≠0)&& !R7 l m.ret)= !S9 l m.ret:=by
  rw[a6N hr];by_cases h0:m.ret.kind=0
  ·have:=hr.2.1.2 (by omega);simp[h0,S9,this]
  ·simp[h0]
 have h2:m.params.any (fun p=> !R7 l p)= !m.params.all (fun p=>S9 l p&&decide (p.kind≠0)):=by
  rw[List.not_all_eq_any_not]
  have:∀q:List Ty,(∀p∈q,y6 p)→q.any (fun p=> !R7 l p)=q.any (fun p=> !(S9 l p&&decide (p.kind≠0))):=by
   intro q;induction q with
   |nil=>intro _;rfl
   |cons a q ih=>intro h;simp only[List.any_cons,a6N (h a (by simp))];rw[ih (fun p hp=>h p (by simp[hp]))]
  exact this _ hp
 have h3:m.handlers.any (fun h=> !E2 l h.cls)= !m.handlers.all (fun h=>E2 l h.cls):=by rw[List.not_all_eq_any_not]
 unfold g8 a2z;rw[h1,h2,h3];cases S9 l m.ret<;>cases m.params.all (fun p=>S9 l p&&decide (p.kind≠0))<;>cases m.handlers.all (fun h=>E2 l h.cls)<;>rfl
theorem a3G{p q:α→Bool}:∀{l:List α},(∀x∈l,p x=q x)→l.any p=l.any q
 | [],_=>rfl
 |a::l,h=>by simp only[List.any_cons,h a (by simp)];rw[a3G (fun x hx=>h x (by simp[hx]))]
theorem b9H(h:a0I (cl l i)):tyP l i=y9 l (cl l i):=by
 unfold tyP y9;congr 1
 ·exact a3G fun f hf=>by
   rw[a6N (h.fields f hf).2];cases S9 l f.ty<;>by_cases h0:f.ty.kind=0<;>simp[h0]
 ·exact a3G fun m hm=>b8m (h.methods m hm).2.1 (h.methods m hm).2.2.1
theorem a8u(f:α→ByteArray)(d:α)(l:List α)(j:Nat)(hj:j<l.length):(l.findIdx? fun x=>decide (f x=f (l.getD j d)))=some j↔∀i,i<j→f (l.getD i d)≠f (l.getD j d):=by
 rw[List.findIdx?_eq_some_iff_getElem];have hg:∀i (h:i<l.length),l.getD i d=l[i]:=fun i h=>by simp[h]
 constructor
 ·rintro⟨_,_,h⟩ i hi;have:=h i hi;rw[hg i (by omega)];simpa using this
 ·intro h;refine⟨hj,by rw[hg j hj];simp,fun i hi=> ?_⟩;have:=h i hi;rw[hg i (by omega)]at this;simpa using this
theorem a9u(f:α→ByteArray)(d:α)(l:List α):Y4 f l=(List.range l.length).any (fun j=>decide ((l.findIdx? fun x=>decide (f x=f (l.getD j d)))≠some j)):=by
 rw[Bool.eq_iff_iff,a4v f d];simp only[List.any_eq_true,List.mem_range,decide_eq_true_eq,ne_eq];constructor
 ·rintro⟨i,j,h1,h2,h3⟩;exact⟨j,h2,fun e=>(a8u f d l j h2).1 e i h1 h3⟩
 ·rintro⟨j,hj,h⟩;rw[a8u f d l j hj]at h;simp only[Classical.not_forall,Decidable.not_not]at h;obtain⟨i,h1,h2⟩:=h;exact⟨i,j,h1,hj,h2⟩
theorem b9B(p q:α→Bool)(l:List α):l.any (fun x=>p x||q x)=(l.any p||l.any q):=by
 induction l with
 |nil=>rfl
 |cons a l ih=>simp only[List.any_cons,ih];cases p a<;>cases q a<;>simp
theorem a9N(p:α→Bool)(d:α)(l:List α):(List.range l.length).any (fun j=>p (l.getD j d))=l.any p:=by
 rw[Bool.eq_iff_iff];simp only[List.any_eq_true,List.mem_range];constructor
 ·rintro⟨j,hj,h⟩;exact⟨l[j],List.getElem_mem hj,by simpa[hj]using h⟩
 ·rintro⟨x,hx,h⟩;obtain⟨j,hj,rfl⟩:=List.getElem_of_mem hx;exact⟨j,hj,by simpa[hj]using h⟩
theorem a8p(p:α→Bool)(l:List α):(l.findIdx? p).isSome=l.any p:=by
 rw[Bool.eq_iff_iff,Option.isSome_iff_ne_none,ne_eq,List.findIdx?_eq_none_iff,List.any_eq_true];simp
theorem b2R(l:List Cl)(c n:ByteArray):(R0 l c n).isSome=(a0w l c).any fun g=>decide (n=g.name):=by
 rw[Bool.eq_iff_iff];unfold R0 a0w;simp only[List.any_eq_true,List.mem_flatMap,List.mem_reverse,decide_eq_true_eq,List.isSome_findSome?];constructor
 ·rintro⟨k,hk,h⟩;simp only[Option.isSome_map,X7,a8p,List.any_eq_true,decide_eq_true_eq]at h;obtain⟨f,hf,e⟩:=h;exact⟨f,⟨k,hk,hf⟩,e.symm⟩
 ·rintro⟨f,⟨k,hk,hf⟩,e⟩;refine⟨k,hk,?_⟩;simp only[Option.isSome_map,X7,a8p,List.any_eq_true,decide_eq_true_eq];exact⟨f,hf,e.symm⟩
theorem b9N:mbP l i=mbR l (cl l i):=by
 unfold mbP mbR;rw[b9B]
 have h1:(List.range (cl l i).fields.length).any (fun j=>(R0 l (cl l i).super ((cl l i).fields.getD j ⟨C3,0,C3⟩).name).isSome)=(cl l i).fields.any (fun f=>(a0w l (cl l i).super).any fun g=>decide (f.name=g.name)):=by
  rw[a9N (fun f:R9=>(R0 l (cl l i).super f.name).isSome) ⟨C3,0,C3⟩];exact a3G fun f _=>b2R l _ _
 have h2:=a9u (fun f:R9=>f.name) ⟨C3,0,C3⟩ (cl l i).fields
 have h3:Y4 (fun m:Me=>m.name) (cl l i).methods=(List.range (cl l i).methods.length).any (fun j=>decide (N8 (cl l i) (((cl l i).methods.map (·.name)).getD j C3)≠some j)):=by
  rw[a9u (fun m:Me=>m.name) ⟨C3,[],⟨0,C3⟩,0,0,[],[]⟩];refine a3G fun j hj=> ?_
  have hj:=List.mem_range.1 hj;unfold N8;simp[hj]
 rw[h1,←h3];have h4:(List.range (cl l i).fields.length).any (fun j=>decide (X7 (cl l i) ((cl l i).fields.getD j ⟨C3,0,C3⟩).name≠some j))=Y4 (fun f:R9=>f.name) (cl l i).fields:=by rw[h2];rfl
 rw[h4];cases Y4 (fun m:Me=>m.name) (cl l i).methods<;>cases Y4 (fun f:R9=>f.name) (cl l i).fields<;>cases (cl l i).fields.any (fun f=>(a0w l (cl l i).super).any fun g=>decide (f.name=g.name))<;>rfl
theorem b4e(f:α→ByteArray){l:List α}(h:Y4 f l=false){x:α}(hx:x∈l):l.find? (fun y=>decide (f y=f x))=some x:=by
 induction l with
 |nil=>cases hx
 |cons a l ih=>
  simp only[Y4,Bool.or_eq_false_iff,List.any_eq_false,decide_eq_true_eq]at h;rcases List.mem_cons.1 hx with rfl|hx
  ·simp
  ·have:f a≠f x:=fun e=>h.1 x hx e.symm
   simp only[List.find?_cons,this,decide_false];exact ih h.2 hx
theorem b9K(h:∀k∈up l (cl l i).super,Y4 (fun m:Me=>m.name) (cl l k).methods=false):ovP l i=ovR l (cl l i):=by
 rw[Bool.eq_iff_iff];unfold ovP ovR;simp only[List.any_eq_true];constructor
 ·rintro⟨k,hk,m,hm,h1⟩;refine⟨m,hm,k,hk,?_⟩;cases ho:a1w (cl l k) m.name with
  |none=>rw[ho]at h1;cases h1
  |some o=>
   rw[ho]at h1;have hmem:=List.mem_of_find?_eq_some ho;have hn:=List.find?_some ho;refine⟨o,hmem,?_⟩;simp only[Bool.and_eq_true];refine⟨hn,?_⟩;simp only[a0B,Bool.not_eq_true',Bool.and_eq_false_iff]at h1;simp only[Bool.or_eq_true,Bool.not_eq_true'];rcases h1 with h1|h1
   ·right;cases hq:I4 o.ret m.ret with
    |false=>rfl
    |true=>rw[(a1m _ _).1 hq,a4u]at h1;cases h1
   ·left;exact h1
 ·rintro⟨m,hm,k,hk,o,ho,h1⟩;refine⟨k,hk,m,hm,?_⟩;simp only[Bool.and_eq_true,decide_eq_true_eq,Bool.or_eq_true,Bool.not_eq_true']at h1;have hf:=b4e (fun m:Me=>m.name) (h k hk) ho;rw[h1.1]at hf;unfold a1w;rw[hf];simp only[a0B,Bool.not_eq_true',Bool.and_eq_false_iff];rcases h1.2 with h2|h2
  ·right;exact h2
  ·left;cases hq:I4 m.ret o.ret with
   |false=>rfl
   |true=>rw[(a1m _ _).1 hq,a4u]at h2;cases h2
theorem a1W:∀(k:Nat) (n:ByteArray),∀i∈D8 l k n,i<l.length
 |0,_,i,h=>by cases h
 |k+1,n,i,h=>by
  simp only[D8]at h;cases hf:C5 l n with
  |none=>rw[hf]at h;cases h
  |some j=>
   rw[hf]at h;rcases List.mem_cons.1 h with rfl|h
   ·exact(L4 hf).1
   ·exact a1W k _ i h
def P7(fs:List Cl):Except Er Unit:=
 V0 [fun i=>twP (A5++fs) (9+i),fun i=>nsP (A5++fs) (9+i),fun i=>loP (A5++fs) (9+i),fun i=>tyP (A5++fs) (9+i),fun i=>mbP (A5++fs) (9+i),fun i=>ovP (A5++fs) (9+i)] fs.length 7
def Z7(fs:List Cl):Except Er Unit:=
 V0 [twR fs,fun i=> !E2 (A5++fs) (cl fs i).super,fun i=>(up (A5++fs) (cl fs i).super).any fun k=>decide ((cl (A5++fs) k).name=(cl fs i).name),fun i=>y9 (A5++fs) (cl fs i),fun i=>mbR (A5++fs) (cl fs i),fun i=>ovR (A5++fs) (cl fs i)] fs.length 7
theorem R4(fs:List Cl)(i:Nat):cl (A5++fs) (9+i)=cl fs i:=a5d (l:=A5)
theorem b1q(fs:List Cl)(hok:∀c∈fs,a0I c):P7 fs=Z7 fs:=by
 have hcl:∀i,i<fs.length→a0I (cl fs i):=fun i hi=>by rw[U3 hi];exact hok _ (List.getElem_mem hi)
 unfold P7 Z7;refine a3q (fun i hi=>a6e fs i hi) fun h1=> ?_
 refine a3q (fun i hi=>by simp only[nsP,R4]) fun h2=> ?_
 refine a3q (fun i hi=>by simp only[loP,R4,up]) fun h3=> ?_
 refine a3q (fun i hi=>by rw[b9H (by rw[R4];exact hcl i hi),R4]) fun h4=> ?_
 refine a3q (fun i hi=>by rw[b9N,R4]) fun h5=> ?_
 refine a3q (fun i hi=> ?_) fun _=>rfl
 rw[b9K,R4];intro k hk;have hk:=a1W _ _ k hk;by_cases h9:k<9
 ·have:(cl (A5++fs) k).methods=[]:=by
   rw[L9 (by exact h9)];have:k=0∨k=1∨k=2∨k=3∨k=4∨k=5∨k=6∨k=7∨k=8:=by omega
   rcases this with rfl|rfl|rfl|rfl|rfl|rfl|rfl|rfl|rfl<;>rfl
  rw[this];rfl
 ·obtain⟨j,rfl⟩:∃j,k=9+j:=⟨k-9,by omega⟩
  rw[R4];have hj:j<fs.length:=by simp at hk;have:A5.length=9:=rfl;omega
  have:=h5 j hj;unfold mbR at this;simp only[Bool.or_eq_false_iff]at this;exact this.1.1
end Cf
open Go.RowKit Cf
namespace Kx
abbrev DK:=DataW Unit
abbrev Ky:=List UInt8
def P4(s:ByteArray):Ky:=s.data.toList
theorem b5R{s t:ByteArray}(h:P4 s=P4 t):s=t:=ByteArray.ext (Array.toList_inj.1 h)
def M5(c n:ByteArray):Ky:=keyBytes [.string c.data.toList, .string n.data.toList]
theorem b1i{a b:Ky}(h:a≠b):Lit.string a≠Lit.string b:=fun e=>h (by injection e)
def F6(D:DK)(p:Ky×Nat):DK:=if Maps.has D (.string p.1)then D else D.put (.string p.1) (.lit (.int .i64 p.2))
def P2(l:List (Ky×Nat)):DK:=l.foldl F6 (.map [])
def L2(l:List (Ky×Nat))(k:Ky):Option Nat:=(l.find? fun p=>decide (p.1=k)).map (·.2)
structure a3M(l:List (Ky×Nat))(D:DK):Prop where
 tidy:Maps.Tidy D
 has:∀k,Maps.has D (.string k)=(L2 l k).isSome
 at_:∀k,D.atKey (.string k) (.lit (.int .i64 0))= .lit (.int .i64 ((L2 l k).getD 0))
theorem a2n(l m:List (Ky×Nat))(k:Ky):L2 (l++m) k=(L2 l k).or (L2 m k):=by
 unfold L2;rw[List.find?_append];cases l.find? (fun p=>decide (p.1=k))<;>simp
theorem a4s(p:Ky×Nat)(k:Ky):L2 [p] k=if p.1=k then some p.2 else none:=by
 unfold L2;by_cases h:p.1=k<;>simp[h]
theorem a3M.step{l:List (Ky×Nat)}{D:DK}(h:a3M l D)(p:Ky×Nat):a3M (l++ [p]) (F6 D p):=by
 have hk:WideAt.IsKeyLit (.string p.1):=trivial;unfold F6;by_cases hh:Maps.has D (.string p.1)=true
 ·rw[if_pos hh];have hs:(L2 l p.1).isSome=true:=by rw[←h.has];exact hh
  have e:∀k,L2 (l++ [p]) k=L2 l k:=by
   intro k;rw[a2n,a4s];by_cases e:p.1=k
   ·rw[←e];cases hq:L2 l p.1 with
    |none=>rw[hq]at hs;cases hs
    |some a=>rfl
   ·rw[if_neg e];cases L2 l k<;>rfl
  exact⟨h.tidy,fun k=>by rw[e,h.has],fun k=>by rw[e,h.at_]⟩
 ·rw[if_neg hh]
  have hn:L2 l p.1=none:=by
   cases hq:L2 l p.1 with
   |none=>rfl
   |some a=>exact absurd (by rw[h.has,hq];rfl) hh
  refine⟨h.tidy.put hk _,fun k=> ?_,fun k=> ?_⟩
  ·rw[a2n,a4s];by_cases e:k=p.1
   ·subst e;rw[Maps.has_put_same h.tidy.isMap hk,hn];simp
   ·rw[Maps.has_put_other (b1i e),h.has,if_neg (fun e'=>e e'.symm)];cases L2 l k<;>rfl
  ·rw[a2n,a4s];by_cases e:k=p.1
   ·subst e;rw[Maps.atKey_put_same h.tidy.isMap hk,hn];simp
   ·rw[Maps.atKey_put_other (b1i e),h.at_,if_neg (fun e'=>e e'.symm)];cases L2 l k<;>rfl
theorem a8P:∀(m l:List (Ky×Nat)) (D:DK),a3M l D→a3M (l++m) (m.foldl F6 D)
 | [],l,D,h=>by simpa using h
 |p::m,l,D,h=>by
  have:=a8P m (l++ [p]) (F6 D p) (h.step p);simpa using this
theorem a3K(l:List (Ky×Nat)):a3M l (P2 l):=
 a8P l [] (.map []) ⟨Maps.tidy_empty,fun k=>rfl,fun k=>rfl⟩
theorem b6m(l:List (Ky×Nat))(p:Ky×Nat):P2 (l++ [p])=F6 (P2 l) p:=by
 unfold P2;rw[List.foldl_append];rfl
def X5(L:List Cl):List (Ky×Nat):=(List.range L.length).map fun i=>(P4 (cl L i).name,i)
theorem a9a(L:List Cl)(c:Cl):X5 (L++ [c])=X5 L++ [(P4 c.name,L.length)]:=by
 unfold X5;rw[List.length_append,List.length_singleton,List.range_succ,List.map_append];congr 1
 ·refine List.map_congr_left (fun i hi=> ?_);rw[L9 (List.mem_range.1 hi)]
 ·simp only[List.map_cons,List.map_nil];rw[show cl (L++ [c]) L.length=c from by have:=a5d (l:=L) (m:=[c]) (i:=0);simpa[cl]using this]
theorem b4O(L:List Cl)(c:Cl)(n:ByteArray):C5 (L++ [c]) n=(C5 L n).or (if c.name=n then some L.length else none):=by
 unfold C5;rw[List.findIdx?_append];congr 1
 by_cases h:c.name=n<;>simp[List.findIdx?_cons,h]
theorem b0Q(n:ByteArray):∀(m L:List Cl),L2 (X5 L) (P4 n)=C5 L n→L2 (X5 (L++m)) (P4 n)=C5 (L++m) n
 | [],L,h=>by simpa using h
 |c::m,L,h=>by
  have:=b0Q n m (L++ [c]) (by
   rw[a9a,a2n,a4s,b4O,h];by_cases e:c.name=n
   ·rw[if_pos e,if_pos (by rw[e])]
   ·rw[if_neg (fun e'=>e (b5R e')),if_neg e])
  simpa using this
theorem a6U(L:List Cl)(n:ByteArray):L2 (X5 L) (P4 n)=C5 L n:=b0Q n L [] rfl
def I5(c:Cl)(ns:List ByteArray):List (Ky×Nat):=(List.range ns.length).map fun i=>(M5 c.name (ns.getD i C3),i)
def N6(f:Cl→List ByteArray)(L:List Cl):List (Ky×Nat):=L.flatMap fun c=>I5 c (f c)
theorem a9C(f:Cl→List ByteArray)(L:List Cl)(c:Cl):N6 f (L++ [c])=N6 f L++I5 c (f c):=by
 unfold N6;simp[List.flatMap_append]
def K5(c:Cl):List ByteArray:=c.fields.map (·.name)
def G2(c:Cl):List ByteArray:=c.methods.map (·.name)
theorem c1b:laidOutB Tryz.prog=true:=by kernel_rfl
theorem Nat.lt_of_ble_eq_true'{a b:Nat}(h:Nat.ble (a+1) b=true):a<b:=Nat.le_of_ble_eq_true h
theorem c1a:WideMaps.KeyLaw Tryz.prog 255:=deep_law_gate c1b (Nat.le_of_ble_eq_true (by kernel_rfl)) (Nat.lt_of_ble_eq_true' (by kernel_rfl)) (by kernel_rfl) (by kernel_rfl)
theorem a3Y:Maps.Keyed Tryz.prog 255:=Maps.Keyed.of_law c1a
theorem a3X:Maps.Keyed Tryz.prog 9:=Maps.Keyed.of_law (WideMaps.string_law Tryz.underlying9)
theorem b7n:Tryz.prog.keyType 255=true:=by kernel_rfl
theorem b1w:Tryz.prog.cellsOf 255=2:=by kernel_rfl
theorem b9z:Tryz.prog.cellsOf 9=1:=by kernel_rfl
theorem b8S:Tryz.prog.types.size=(Tryz.prog.types.size-1)+1:=by kernel_rfl
theorem b9I:∃d,Tryz.prog.types.size+1=d+1+1:=⟨Tryz.prog.types.size-1,congrArg (·+1) b8S⟩
theorem a2S(c n:ByteArray)(hc:c.size≤maxLen)(hn:n.size≤maxLen):keyOf Tryz.prog 255 (.agg #[.string c, .string n])=some (.string (M5 c n)):=by
 obtain⟨d,hd⟩:=b9I;unfold keyOf;rw[Tryz.underlying255,b7n];simp only[Value.formed,Tryz.underlying255,b1w,hd];simp[Program.keyLits,Tryz.underlying255,Tryz.underlying9,b1w,b9z,Value.cells,hc,hn,M5]
theorem b0v{c n c' n':ByteArray}(hc:c.size≤maxLen)(hn:n.size≤maxLen)(hc':c'.size≤maxLen)(hn':n'.size≤maxLen)(h:M5 c n=M5 c' n'):c=c'∧n=n':=by
 have h1:=a2S c n hc hn;have h2:=a2S c' n' hc' hn';rw[←h]at h2;have:=a3Y.inj h1 h2;simp only[Value.agg.injEq,Array.mk.injEq,List.cons.injEq,Value.string.injEq,and_true]at this;exact this
end Kx
theorem lz{α:Type}:(∀{xs:List α} {i:Nat} (h:i<xs.toArray.size),xs.toArray[i]=xs[i]'(by simpa using h))∧(∀(a:α) (l:List α) (h:0<(a::l).length),(a::l)[0]=a)∧(∀(a:α) (l:List α) (i:Nat) (h:i+1<(a::l).length),(a::l)[i+1]=l[i]'(by simpa using h))∧(∀(l:List α) (i:Nat) (a:α),l.toArray.setIfInBounds i a=(l.set i a).toArray)∧(∀{x:α} {xs:List α} {a:α},(x::xs).set 0 a=a::xs)∧(∀{x:α} {xs:List α} {i:Nat} {a:α},(x::xs).set (i+1) a=x::xs.set i a):=
 ⟨fun _=>by simp,fun _ _ _=>rfl,fun _ _ _ _=>rfl,fun _ _ _=>by simp,rfl,rfl⟩
variable {w w1 w2:World}
variable {row:Option Nat}
theorem C7{r1:Option Nat}(h:w.grownBy w1 row)(h1:w1.grownBy w2 r1)(hr:∀k,r1=some k→w.heap.size≤k∨some k=row):w.grownBy w2 row:=
 ⟨h1.os.trans h.os,h1.tape.trans h.tape,h1.output.trans h.output,Nat.le_trans h.size h1.size,fun k hk hne=>
  (h1.block k (Nat.lt_of_lt_of_le hk h.size) (fun e=>by rcases hr k e.symm with h2|h2;omega;exact hne h2)).trans (h.block k hk hne)⟩
theorem A1(h:w.grownBy w1 row)(h1:w1.grownBy w2 row):w.grownBy w2 row:=
 C7 h h1 (fun _ e=> .inr e.symm)
theorem K2(h:w.grownBy w1 row)(h1:w1.grownBy w2 none):w.grownBy w2 row:=
 C7 h h1 (fun _ e=>by cases e)
theorem b1d(h:w.grownBy w1 none):w.grownBy w1 row:=
 ⟨h.os,h.tape,h.output,h.size,fun k hk _=>h.block k hk (by simp)⟩
theorem G1(w:World)(row:Option Nat):w.grownBy w row:=⟨rfl,rfl,rfl,Nat.le_refl _,fun _ _ _=>rfl⟩
theorem F0(w:World)(n:Nat)(row:Option Nat):w.grownBy (w.drewN n) row:=⟨rfl,rfl,rfl,Nat.le_refl _,fun _ _ _=>rfl⟩
theorem B8(w:World)(row:Option Nat):w.grownBy w.drew row:=⟨rfl,rfl,rfl,Nat.le_refl _,fun _ _ _=>rfl⟩
theorem A6(w:World)(a:Addr)(v:Value):w.grownBy (w.setCell a v) (some a.block):=
 ⟨rfl,rfl,rfl,by simp[World.setCell],fun k _ hk=>heap_setCell_other w a k v (fun e=>hk (by simp[e]))⟩
theorem A2(w:World)(o:Obj)(row:Option Nat):w.grownBy (w.alloc o) row:=World.grownBy_alloc w o row
def A3(w:World)(g:Nat)(cs:Array Value)(t:TypeId):Prop:=w.heap[g]? =some (.cells cs t (0,0))
variable {g:Nat}
variable {cs:Array Value}
variable {t:TypeId}
theorem A3.lt(h:A3 w g cs t):g<w.heap.size:=(Array.getElem?_eq_some_iff.1 h).1
theorem A3.keep(h:A3 w g cs t)(hg:w.grownBy w1 row)(hr:some g≠row):A3 w1 g cs t:=
 (hg.block g h.lt hr).trans h
theorem A3.new(w:World)(cs:Array Value)(t:TypeId):A3 (w.alloc (.cells cs t)) w.heap.size cs t:=heap_alloc_new w _
theorem A3.cell(h:A3 w g cs t)(j:Nat)(v:Value)(hv:cs[j]? =some v):w.cell? ⟨g,j,none⟩=some v:=by
 rw[cell_of_row w g j _ _ _ h];exact hv
theorem A3.frozen(h:A3 w g cs t)(j:Nat):w.frozen? ⟨g,j,none⟩=false:=frozen_of_row w g j _ _ h
theorem A3.set(h:A3 w g cs t)(j:Nat)(v:Value):A3 (w.setCell ⟨g,j,none⟩ v) g (cs.setIfInBounds j v) t:=
 heap_setCell_same w g j _ _ _ h
structure Rd(w:World)(b:Nat)(f:ByteArray)(pv:Value)(st:St):Prop where
 inv:Inv f st
 blk:A3 w b #[.string f, .int .i64 st.at_,pv, .int .i64 st.used] 199
 own:w.ownsRow (b+1) 9 1 pv st.pool.length (st.pool.map Value.string)
section
variable{w w':World}{b k:Nat}{f:ByteArray}{pv:Value}{st:St}
theorem Rd.poolNe(h:Rd w b f pv st):pv.ownBlock≠some b:=by
 cases hv:pv.ownBlock with
 |none=>simp
 |some g=>have:=(h.own.lt g hv).1;simp;omega
theorem Rd.poolLt(h:Rd w b f pv st)(hk:w.heap.size≤k):pv.ownBlock≠some k:=by
 cases hv:pv.ownBlock with
 |none=>simp
 |some g=>have:=(h.own.lt g hv).2;simp;omega
theorem Rd.lt(h:Rd w b f pv st):b<w.heap.size:=h.blk.lt
theorem Rd.keep(h:Rd w b f pv st)(hg:w.grownBy w' none):Rd w' b f pv st:=
 ⟨h.inv,h.blk.keep hg (by simp),h.own.kept hg (by cases hv:pv.ownBlock<;>simp)⟩
theorem Rd.keepAt(h:Rd w b f pv st)(hg:w.grownBy w' (some k))(hk:b≠k)(hp:pv.ownBlock≠some k):Rd w' b f pv st:=
 ⟨h.inv,h.blk.keep hg (by simpa using hk),h.own.kept hg (.inr hp)⟩
theorem Rd.grow{w w1 w2:World}{row:Option Nat}(h:Rd w b f pv st)(h1:w.grownBy w1 none)(h2:w1.grownBy w2 row)(hb:row≠some b)(hp:∀g,row=some g→pv.ownBlock≠some g):Rd w2 b f pv st:=by
 cases row with
 |none=>exact(h.keep h1).keep h2
 |some g=>exact(h.keep h1).keepAt h2 (fun e=>hb (by rw[e])) (hp g rfl)
theorem Rd.setAt(h:Rd w b f pv st)(n:Nat)(hn:n≤f.size):Rd (w.setCell ⟨b,1,none⟩ (.int .i64 n)) b f pv {st with at_:=n}:=
 ⟨⟨h.inv.fits,hn,h.inv.used,h.inv.pool⟩,h.blk.set 1 _,h.own.kept (A6 w ⟨b,1,none⟩ _) (.inr h.poolNe)⟩
theorem Rd.setUsed(h:Rd w b f pv st)(n:Nat)(hn:n≤st.pool.length):Rd (w.setCell ⟨b,3,none⟩ (.int .i64 n)) b f pv {st with used:=n}:=
 ⟨⟨h.inv.fits,h.inv.at_,hn,h.inv.pool⟩,h.blk.set 3 _,h.own.kept (A6 w ⟨b,3,none⟩ _) (.inr h.poolNe)⟩
end
variable {w w1:World}
variable {row:Option Nat}
variable {g i j k:Nat}
theorem a8(h:w.grownBy w1 row)(hg:w.heap.size≤g)(j:Nat)(x:Value):w.grownBy (w1.setCell ⟨g,j,none⟩ x) row:=
 C7 h (A6 w1 ⟨g,j,none⟩ x) (fun k e=> .inl (by cases e;exact hg))
variable {x y z:Value}
theorem a3U(h:w.grownBy w1 row)(hg:w.heap.size≤g):
 w.grownBy ((w1.setCell ⟨g,i,none⟩ x).setCell ⟨g,j,none⟩ y) row:=a8 (a8 h hg i x) hg j y
theorem x9(h:w.grownBy w1 row)(hg:w.heap.size≤g):
 w.grownBy (((w1.setCell ⟨g,i,none⟩ x).setCell ⟨g,j,none⟩ y).setCell ⟨g,k,none⟩ z) row:=a8 (a3U h hg) hg k z
theorem x8(h:w.grownBy w1 row)(hg:w.heap.size≤g){l:Nat}{u:Value}:
 w.grownBy ((((w1.setCell ⟨g,i,none⟩ x).setCell ⟨g,j,none⟩ y).setCell ⟨g,k,none⟩ z).setCell ⟨g,l,none⟩ u) row:=a8 (x9 h hg) hg l u
section
variable{w:World}{b g:Nat}{f:ByteArray}{pv:Value}{st:St}
theorem Rd.newSet(h:Rd w b f pv st)(hk:b≠g)(hp:pv.ownBlock≠some g)(j:Nat)(x:Value):Rd (w.setCell ⟨g,j,none⟩ x) b f pv st:=
 h.keepAt (A6 w ⟨g,j,none⟩ x) hk hp
variable {i j k:Nat}
variable {x y z:Value}
theorem Rd.new2(h:Rd w b f pv st)(hk:b≠g)(hp:pv.ownBlock≠some g):Rd ((w.setCell ⟨g,i,none⟩ x).setCell ⟨g,j,none⟩ y) b f pv st:=
 (h.newSet hk hp i x).newSet hk hp j y
theorem Rd.new3(h:Rd w b f pv st)(hk:b≠g)(hp:pv.ownBlock≠some g):Rd (((w.setCell ⟨g,i,none⟩ x).setCell ⟨g,j,none⟩ y).setCell ⟨g,k,none⟩ z) b f pv st:=
 (h.new2 hk hp).newSet hk hp k z
theorem Rd.new4(h:Rd w b f pv st)(hk:b≠g)(hp:pv.ownBlock≠some g){l:Nat}{u:Value}:Rd ((((w.setCell ⟨g,i,none⟩ x).setCell ⟨g,j,none⟩ y).setCell ⟨g,k,none⟩ z).setCell ⟨g,l,none⟩ u) b f pv st:=
 (h.new3 hk hp).newSet hk hp l u
end
def a5U(e:Er):Ending:= .panicked [{v:= .iface 125 (.agg #[.int .i64 e.1, .int .i64 e.2]),recovered:=false}]
variable {α:Type}
def E7(w:World)(b:Nat)(f:ByteArray)(pv:Value)(r:R α)(val:World→Value→α→Prop)(e:Ending)(w':World):Prop:=
 w.grownBy w' (some b)∧match r with
  | .ok (a,st)=>∃v,e= .returned v∧val w' v a∧Rd w' b f pv st
  | .error er=>e=a5U er
variable {w w':World}
variable {b g:Nat}
variable {f:ByteArray}
variable {pv v0 v1 v2 v3 v4 v5 v6 v7 v8:Value}
theorem E7.cases{r:R α}{val:World→Value→α→Prop}{e:Ending}(h:E7 w b f pv r val e w'):
 (∃a st v,r= .ok (a,st)∧e= .returned v∧val w' v a∧Hid (Rd w' b f pv st)∧w.grownBy w' (some b))∨
 (∃er,r= .error er∧e= .panicked [{v:= .iface 125 (.agg #[.int .i64 er.1, .int .i64 er.2]),recovered:=false}]∧w.grownBy w' (some b)):=by
 obtain⟨hg,h⟩:=h;cases r with
 |ok p=>obtain⟨v,h1,h2,h3⟩:=h;exact .inl ⟨p.1,p.2,v,rfl,h1,h2,h3,hg⟩
 |error er=>exact .inr ⟨er,rfl,h,hg⟩
theorem E7.bind{P:Program}{fn:FuncId}{args:Array Value}{r:R α}{val:World→Value→α→Prop}{K:Ending→World→Prop}
 (hc:Calls P fn args w (E7 w b f pv r val))
 (herr:∀er w',r= .error er→w.grownBy w' (some b)→K (.panicked [{v:= .iface 125 (.agg #[.int .i64 er.1, .int .i64 er.2]),recovered:=false}]) w')
 (hok:∀a st v w',Hid (r= .ok (a,st))→val w' v a→Hid (Rd w' b f pv st)→w.grownBy w' (some b)→K (.returned v) w'):Calls P fn args w K:=
 hc.mono fun e w' he=>by
  rcases he.cases with⟨a,st,v,hr,rfl,hv,hR,hg⟩|⟨er,hr,rfl,hg⟩
  ·exact hok a st v w' hr hv hR hg
  ·exact herr er w' hr hg
theorem E7.ok{r:R α}{val:World→Value→α→Prop}{v:Value}{a:α}{st:St}
 (hr:r= .ok (a,st)) (hg:w.grownBy w' (some b)) (hv:val w' v a) (h:Rd w' b f pv st):E7 w b f pv r val (.returned v) w':=by
 subst hr;exact⟨hg,v,rfl,hv,h⟩
theorem E7.err{r:R α}{val:World→Value→α→Prop}{x y:Int}{er:Er}
 (hr:r= .error er) (hx:x=er.1) (hy:y=er.2) (hg:w.grownBy w' (some b)):E7 w b f pv r val (.panicked [{v:= .iface 125 (.agg #[.int .i64 x, .int .i64 y]),recovered:=false}]) w':=by
 subst hr hx hy;exact⟨hg,rfl⟩
def b1B(_:World)(v:Value)(n:Nat):Prop:=v= .int .i64 n
def a4a(_:World)(v:Value)(s:ByteArray):Prop:=v= .string s
theorem A0{p:Prop}(h:p):Hid p:=h
variable {t:TypeId}
variable {l:List Value}
theorem A3.c0(h:A3 w g (List.toArray (v0::l)) t):w.cell? ⟨g,0,none⟩=some v0:=h.cell 0 _ rfl
theorem A3.c1(h:A3 w g (List.toArray (v0::v1::l)) t):w.cell? ⟨g,1,none⟩=some v1:=h.cell 1 _ rfl
theorem A3.c2(h:A3 w g (List.toArray (v0::v1::v2::l)) t):w.cell? ⟨g,2,none⟩=some v2:=h.cell 2 _ rfl
theorem A3.c3(h:A3 w g (List.toArray (v0::v1::v2::v3::l)) t):w.cell? ⟨g,3,none⟩=some v3:=h.cell 3 _ rfl
theorem A3.c4(h:A3 w g (List.toArray (v0::v1::v2::v3::v4::l)) t):w.cell? ⟨g,4,none⟩=some v4:=h.cell 4 _ rfl
theorem A3.c5(h:A3 w g (List.toArray (v0::v1::v2::v3::v4::v5::l)) t):w.cell? ⟨g,5,none⟩=some v5:=h.cell 5 _ rfl
theorem A3.c6(h:A3 w g (List.toArray (v0::v1::v2::v3::v4::v5::v6::l)) t):w.cell? ⟨g,6,none⟩=some v6:=h.cell 6 _ rfl
theorem A3.c7(h:A3 w g (List.toArray (v0::v1::v2::v3::v4::v5::v6::v7::l)) t):w.cell? ⟨g,7,none⟩=some v7:=h.cell 7 _ rfl
theorem A3.c8(h:A3 w g (List.toArray (v0::v1::v2::v3::v4::v5::v6::v7::v8::l)) t):w.cell? ⟨g,8,none⟩=some v8:=h.cell 8 _ rfl
theorem A3.c9{v9:Value}(h:A3 w g (List.toArray (v0::v1::v2::v3::v4::v5::v6::v7::v8::v9::l)) t):w.cell? ⟨g,9,none⟩=some v9:=h.cell 9 _ rfl
namespace Kx
theorem a1Q(w:World):(zeroValue 3).run Tryz.prog w= .ok (.int .i64 0) w:=by kernel_rfl
set_option maxHeartbeats 400000 in
theorem b5A(w:World)(mb m n:Nat)(D:DK)(s:ByteArray)(hs:Hid (s.size≤maxLen))(hn:n<4611686018427387904)(hm:m<maxLen)(hM:Hid (w.ownsMap (H:=Unit) Tryz.prog 9 (plainElem Tryz.prog 3) mb m D)):
 Calls Tryz.prog 242 #[.map (some mb), .string s, .int .i64 n] w fun e w'=>e= .returned (.tuple #[])∧w'.ownsMap (H:=Unit) Tryz.prog 9 (plainElem Tryz.prog 3) mb (m+1) (F6 D (P4 s,n))∧w.grownBy w' (some mb):=by
 have hwf:(Lit.int .i64 (n:Int)).wf=true:=WalkArith.wf_i64 (by omega);cases hh:Maps.has D (.string (P4 s))with
 |true=>
  have HP:Hid (F6 D (P4 s,n)=D):=by unfold Hid F6;rw[if_pos hh]
  have HH:=A0 hh;clear hh hwf;go_enter Tryz.func242,Tryz.ntmps242;go_wp2_with (at_lookup;go_loud (refine wpList_lookup_own_ok_int _ rfl _ _ 148 rfl 9 3 .i64 a3X Tryz.underlying148 Tryz.underlying3 (a1Q _) mb m D rfl hM.out _ (.string (P4 s)) rfl (WideMaps.keyOf_string_mk Tryz.underlying9 hs.out) ?_);intro x hx hwx;rw[HH.out])
  go_end0;exact⟨rfl,by rw[HP.out];exact hM.out.mono (Nat.le_succ _),G1 _ _⟩
 |false=>
  have HP:Hid (F6 D (P4 s,n)=D.put (.string (P4 s)) (.lit (.int .i64 n))):=by unfold Hid F6;rw[if_neg (by rw[hh];simp)]
  have HH:=A0 hh;have HW:=A0 hwf;clear hh hwf;go_enter Tryz.func242,Tryz.ntmps242
  go_wp2_with (first
   |(at_lookup;go_loud (refine wpList_lookup_own_ok_int _ rfl _ _ 148 rfl 9 3 .i64 a3X Tryz.underlying148 Tryz.underlying3 (a1Q _) mb m D rfl hM.out _ (.string (P4 s)) rfl (WideMaps.keyOf_string_mk Tryz.underlying9 hs.out) ?_);intro x hx hwx;rw[HH.out])
   |(at_mapUpdate;go_loud (refine wpList_mapUpdate_own _ rfl _ _ _ 148 rfl 9 3 a3X Tryz.underlying148 _ mb m D rfl hM.out hm _ _ _ rfl rfl (WideMaps.keyOf_string_mk Tryz.underlying9 hs.out) _ [] (plainElem_int Tryz.underlying3 HW.out) ?_);intro w1 hown1 hgrow1))
  go_end0;exact⟨rfl,by rw[HP.out];exact hown1,hgrow1⟩
set_option maxHeartbeats 400000 in
theorem a9y(w:World)(mb m n:Nat)(D:DK)(c s:ByteArray)(hc:Hid (c.size≤maxLen))(hs:Hid (s.size≤maxLen))(hn:n<4611686018427387904)(hm:m<maxLen)(hM:Hid (w.ownsMap (H:=Unit) Tryz.prog 255 (plainElem Tryz.prog 3) mb m D)):
 Calls Tryz.prog 243 #[.map (some mb), .agg #[.string c, .string s], .int .i64 n] w fun e w'=>e= .returned (.tuple #[])∧w'.ownsMap (H:=Unit) Tryz.prog 255 (plainElem Tryz.prog 3) mb (m+1) (F6 D (M5 c s,n))∧w.grownBy w' (some mb):=by
 have hwf:(Lit.int .i64 (n:Int)).wf=true:=WalkArith.wf_i64 (by omega);cases hh:Maps.has D (.string (M5 c s))with
 |true=>
  have HP:Hid (F6 D (M5 c s,n)=D):=by unfold Hid F6;rw[if_pos hh]
  have HH:=A0 hh;clear hh hwf;go_enter Tryz.func243,Tryz.ntmps243;go_wp2_with (at_lookup;go_loud (refine wpList_lookup_own_ok_int _ rfl _ _ 149 rfl 255 3 .i64 a3Y Tryz.underlying149 Tryz.underlying3 (a1Q _) mb m D rfl (hM.out.alloc _) _ (.string (M5 c s)) rfl (a2S c s hc.out hs.out) ?_);intro x hx hwx;rw[HH.out])
  go_end0;exact⟨rfl,by rw[HP.out];exact(hM.out.alloc _).mono (Nat.le_succ _),A2 _ _ _⟩
 |false=>
  have HP:Hid (F6 D (M5 c s,n)=D.put (.string (M5 c s)) (.lit (.int .i64 n))):=by unfold Hid F6;rw[if_neg (by rw[hh];simp)]
  have HH:=A0 hh;have HW:=A0 hwf;clear hh hwf;go_enter Tryz.func243,Tryz.ntmps243
  go_wp2_with (first
   |(at_lookup;go_loud (refine wpList_lookup_own_ok_int _ rfl _ _ 149 rfl 255 3 .i64 a3Y Tryz.underlying149 Tryz.underlying3 (a1Q _) mb m D rfl (hM.out.alloc _) _ (.string (M5 c s)) rfl (a2S c s hc.out hs.out) ?_);intro x hx hwx;rw[HH.out])
   |(at_mapUpdate;go_loud (refine wpList_mapUpdate_own _ rfl _ _ _ 149 rfl 255 3 a3Y Tryz.underlying149 _ mb m D rfl (hM.out.alloc _) hm _ _ _ rfl rfl (a2S c s hc.out hs.out) _ [] (plainElem_int Tryz.underlying3 HW.out) ?_);intro w1 hown1 hgrow1))
  go_end0;exact⟨rfl,by rw[HP.out];exact hown1,A1 (A2 _ _ _) hgrow1⟩
open Go.RowKit Go.Shelf Cf
structure Qs where
 fa:Option Addr
 fk:Nat
 ma:Option Addr
 mc:Nat
def F8(c:Cl)(q:Qs):List Value:=[.string c.name, .string c.super, .slice q.fa c.fields.length q.fk, .slice q.ma c.methods.length q.mc]
structure I9(w:World)(lim b:Nat)(L:List Cl)(p:Addr)(cap m1 m2 m3:Nat)(q:Nat→Qs):Prop where
 b_lt:b<lim
 p_lt:p.block<lim
 m1_lt:m1<lim
 m2_lt:m2<lim
 m3_lt:m3<lim
 c0:w.cell? ⟨b,0,none⟩=some (.slice (some p) L.length cap)
 c1:w.cell? ⟨b,1,none⟩=some (.map (some m1))
 c2:w.cell? ⟨b,2,none⟩=some (.map (some m2))
 c3:w.cell? ⟨b,3,none⟩=some (.map (some m3))
 row:∀i,i<L.length→∀r u,(F8 (cl L i) (q i))[r]? =some u→w.cell? (p.add (i*4+r))=some u
 n1:w.ownsMap (H:=Unit) Tryz.prog 9 (plainElem Tryz.prog 3) m1 L.length (P2 (X5 L))
 n2:w.ownsMap (H:=Unit) Tryz.prog 255 (plainElem Tryz.prog 3) m2 (N6 K5 L).length (P2 (N6 K5 L))
 n3:w.ownsMap (H:=Unit) Tryz.prog 255 (plainElem Tryz.prog 3) m3 (N6 G2 L).length (P2 (N6 G2 L))
 names:∀i,i<L.length→(cl L i).name.size≤maxLen∧(cl L i).super.size≤maxLen
 small:L.length≤65536
variable {w w':World}
variable {b cap lim m1 m2 m3:Nat}
variable {L:List Cl}
variable {p:Addr}
variable {q:Nat→Qs}
theorem I9.below{B:Nat}(h:I9 w lim b L p cap m1 m2 m3 q)(hb:Below B w w')(hl:lim≤B):I9 w' lim b L p cap m1 m2 m3 q:=by
 have hc:∀(a:Addr) (v:Value),a.block<lim→w.cell? a=some v→w'.cell? a=some v:=fun a v ha hv=>by rw[hb.cell (by omega)];exact hv
 have hm:∀(k m n:Nat) (D:DK),m<lim→w.ownsMap (H:=Unit) Tryz.prog k (plainElem Tryz.prog 3) m n D→w'.ownsMap (H:=Unit) Tryz.prog k (plainElem Tryz.prog 3) m n D:=by
  rintro k m n D hlt ⟨es,clock,h1,h2⟩;exact⟨es,clock,(hb.block m (by omega)).trans h1,h2⟩
 have hab:∀(p:Addr) (k:Nat),(p.add k).block=p.block:=fun p k=>by unfold Addr.add;split<;>rfl
 exact⟨h.b_lt,h.p_lt,h.m1_lt,h.m2_lt,h.m3_lt,hc _ _ h.b_lt h.c0,hc _ _ h.b_lt h.c1,hc _ _ h.b_lt h.c2,hc _ _ h.b_lt h.c3,
  fun i hi r u hu=>hc _ _ (by rw[hab];exact h.p_lt) (h.row i hi r u hu),hm _ _ _ _ h.m1_lt h.n1,hm _ _ _ _ h.m2_lt h.n2,hm _ _ _ _ h.m3_lt h.n3,h.names,h.small⟩
theorem I9.keep(h:I9 w lim b L p cap m1 m2 m3 q)(hg:w.grownBy w' none)(hl:lim≤w.heap.size):I9 w' lim b L p cap m1 m2 m3 q:=
 h.below ((Below.refl lim w).grown hg hl (fun k e=>by cases e)) (Nat.le_refl _)
theorem I9.drewN(h:I9 w lim b L p cap m1 m2 m3 q)(k:Nat):I9 (w.drewN k) lim b L p cap m1 m2 m3 q:=
 ⟨h.b_lt,h.p_lt,h.m1_lt,h.m2_lt,h.m3_lt,h.c0,h.c1,h.c2,h.c3,h.row,h.n1,h.n2,h.n3,h.names,h.small⟩
theorem I9.has(n:ByteArray)(_h:I9 w lim b L p cap m1 m2 m3 q):Maps.has (P2 (X5 L)) (.string (P4 n))=E2 L n:=by
 rw[(a3K (X5 L)).has,a6U];rfl
theorem a8Z(L:List Cl)(n:ByteArray):(P2 (X5 L)).atKey (.string (P4 n)) (.lit (.int .i64 0))= .lit (.int .i64 ((C5 L n).getD 0)):=by
 rw[(a3K (X5 L)).at_,a6U]
set_option maxRecDepth 100000 in
set_option maxHeartbeats 400000 in
theorem a3S(w:World)(lim b:Nat)(L:List Cl)(p:Addr)(cap m1 m2 m3:Nat)(q:Nat→Qs)(h:Hid (I9 w lim b L p cap m1 m2 m3 q))(s:ByteArray)(hs:Hid (s.size≤maxLen)):
 Calls Tryz.prog 244 #[.pointer (some ⟨b,0,none⟩), .string s] w fun e w'=>e= .returned (.bool (E2 L s))∧w'=w:=by
 have c1:=h.out.c1;have HM:=A0 h.out.n1;obtain⟨D,hD⟩:∃D,D=P2 (X5 L):=⟨_,rfl⟩
 obtain⟨v,hv⟩:∃v,v=E2 L s:=⟨_,rfl⟩
 have HH:Hid (Maps.has D (.string (P4 s))=v):=by rw[hv,hD];exact h.out.has s
 rw[←hD]at HM;rw[←hv];clear hD hv;go_enter Tryz.func244,Tryz.ntmps244;go_wp2_with (at_lookup;go_loud (refine wpList_lookup_own_ok_int _ rfl _ _ 148 rfl 9 3 .i64 a3X Tryz.underlying148 Tryz.underlying3 (a1Q _) m1 _ D rfl HM.out _ (.string (P4 s)) rfl (WideMaps.keyOf_string_mk Tryz.underlying9 hs.out) ?_);intro x hx hwx;rw[HH.out])
 go_ret;exact⟨rfl,rfl⟩
theorem a5F{m n:Nat}(h:w.ownsMap (H:=Unit) Tryz.prog 9 (plainElem Tryz.prog 3) m n (P2 (X5 L)))(s:ByteArray)(hs:s.size≤maxLen):
 (Instr.lookup 148 (.map (some m)) (.string s) true).run Tryz.prog w= .ok (.tuple #[.int .i64 ((C5 L s).getD 0:Nat), .bool (E2 L s)]) w:=by
 obtain⟨v,ps,h1,h2⟩:=h.look_ok a3X Tryz.underlying148 (a1Q w) (zd:= .lit (.int .i64 0)) (zp:=[]) (plainElem_int Tryz.underlying3 (by decide)) (WideMaps.keyOf_string_mk Tryz.underlying9 hs);obtain⟨c,rfl,hc,-⟩:=plainElem_int_inv Tryz.underlying3 h2;have hh:Maps.has (P2 (X5 L)) (.string s.data.toList)=E2 L s:=by rw[(a3K (X5 L)).has];exact congrArg Option.isSome (a6U L s)
 have ha:(P2 (X5 L)).atKey (.string s.data.toList) (.lit (.int .i64 0))= .lit (.int .i64 ((C5 L s).getD 0:Nat)):=a8Z L s;rw[ha,Prod.mk.injEq]at hc;obtain⟨hc,-⟩:=hc;simp only[DataW.lit.injEq,Lit.int.injEq,true_and]at hc;subst hc;rw[hh]at h1;exact h1
def KpU(n₀ b1:Nat)(W W':World):Prop:=Below n₀ W W'∧W'.heap[b1]? =W.heap[b1]?
def UpL(L:List Cl):Prop:=∀n,up L n=match C5 L n with|none=> []|some i=>i::up L (cl L i).super
def a2d(L:List Cl)(q:Nat→Qs)(i:Nat):Value:= .agg (F8 (cl L i) (q i)).toArray
def a4S(L:List Cl):Value→Value→Nat
 |v, .bool true=>(up L (cl L (intOf v).toNat).super).length+1
 |_,_=>0
theorem b0t(hU:UpL L)(n:ByteArray):a4S L (.int .i64 ((C5 L n).getD 0)) (.bool (E2 L n))=(up L n).length:=by
 have h:=hU n;unfold E2;cases hf:C5 L n with
 |none=>rw[hf]at h;rw[h];rfl
 |some i=>rw[hf]at h;rw[h];simp[a4S,intOf]
theorem B9(p:Addr)(a b:Nat):(⟨(p.add a).block,(p.add a).off+(b+1),none⟩:Addr)=p.add (a+(b+1)):=by
 unfold Addr.add;by_cases h:a=0
 ·subst h;simp
 ·simp[h];omega
attribute [local go_sem] Oper.semAt_some
set_option maxRecDepth 100000 in
set_option maxHeartbeats 1000000 in
theorem b8O(F:Fence)(n:Nat)(hF:F.fn 254)(hro:F.round=none)(hn:1≤n)(l n₀ b1 b2 lim b:Nat)(L:List Cl)(p:Addr)(cap m1 m2 m3:Nat)(q:Nat→Qs)(nm:ByteArray)(hnm:nm.size≤maxLen)(hU:Hid (UpL L))
 (J Jx:List Nat→World→Prop)
 (hJa:∀pre A B,J pre A→A.grownBy B none→J pre B) (hJb:∀pre A B,Jx pre A→A.grownBy B none→Jx pre B)
 (hY:∀pre x W,x<L.length→J pre W→pre.length<(up L nm).length→YieldAt F (n-1) Tryz.prog l #[a2d L q x] W fun e W'=>
   (e= .returned (.bool true)∧J (pre++ [x]) W'∧KpU n₀ b1 W W')∨(e= .returned (.bool false)∧Jx (pre++ [x]) W'))
 (W:World) (hb1:W.cell? ⟨b1,0,none⟩=some (.pointer (some ⟨b,0,none⟩))) (hb2:W.cell? ⟨b2,0,none⟩=some (.string nm)) (hK:Hid (I9 W lim b L p cap m1 m2 m3 q)) (hlim:lim≤n₀) (h0:J [] W):
 CallsIn F n Tryz.prog 254 #[.func (.yield l) #[] #[], .pointer (some ⟨b1,0,none⟩), .pointer (some ⟨b2,0,none⟩)] W fun e W'=>(∃v,e= .returned v)∧
  ((∃ys,ys=up L nm∧J ys W')∨(∃pre,pre<+:up L nm∧Jx pre W')):=by
 have c1:=hK.out.c1;obtain⟨v5,hv5⟩:∃v,v=E2 L nm:=⟨_,rfl⟩
 obtain⟨v4,hv4⟩:∃v,v=(C5 L nm).getD 0:=⟨_,rfl⟩
 have hrun:=fun k:Nat=>a5F (w:=W.drewN k) hK.out.n1 nm hnm
 rw[←hv5,←hv4]at hrun;have HV5:=A0 hv5;have HV4:=A0 hv4;clear hv5 hv4;obtain⟨Ffn,Fd,Fa,Fr⟩:=F;obtain rfl:Fr=none:=hro;refine callsIn_of_wp Tryz.func254 rfl hF ?_ rfl;simp only[Tryz.ntmps254,List.size_toArray,List.length_cons,List.length_nil,Nat.reduceAdd,Nat.reduceSub,Array.replicate_succ,Array.replicate_zero,List.push_toArray,List.append_toArray,List.nil_append,List.cons_append];gi_wp2
 gi_quiet (fail)
 gi_wp2
 have hJ0:=hJa [] W _ h0 (F0 W nq none);have HK0:=A0 (hK.out.drewN nq);have hb1':(W.drewN nq).cell? ⟨b1,0,none⟩=some (.pointer (some ⟨b,0,none⟩)):=hb1;clear hb1 hb2 h0 hK c1 hrun
 gi_loopw [4,5] (fun u4 u5 wr=>∃(pre:List Nat) (nm':ByteArray),J pre wr∧up L nm=pre++up L nm'∧nm'.size≤maxLen∧u4= .int .i64 ((C5 L nm').getD 0:Nat)∧u5= .bool (E2 L nm')∧I9 wr lim b L p cap m1 m2 m3 q∧wr.cell? ⟨b1,0,none⟩=some (.pointer (some ⟨b,0,none⟩)))
  (fun u4 u5 _=>a4S L u4 u5)
 case atStart=>exact⟨[],nm,hJ0,rfl,hnm,by rw[HV4.out],by rw[HV5.out],HK0.out,hb1'⟩
 case round=>
  clear hJ0 HK0 hb1' HV4 HV5;obtain⟨pre,nm',hJp,hup,hns,rfl,rfl,hkl,hb1⟩:=hrel;have HK:=A0 hkl;have HUP:=A0 hup;have hus:=hU.out nm';have hle:=b0t hU.out nm';clear hkl hup;cases hf:C5 L nm' with
  |none=>
   have hv5:E2 L nm'=false:=by unfold E2;rw[hf];rfl
   rw[hf]at hus;have HS:Hid (up L nm'=[]):=hus;rw[hv5];clear hus hle;gi_wp2
   refine⟨fun _ h=>(by cases h),?_⟩;gi_wp2
   go_end0;exact⟨⟨_,rfl⟩, .inl ⟨pre,by rw[HUP.out,HS.out,List.append_nil],hJp⟩⟩
  |some i=>
   have hv5:E2 L nm'=true:=by unfold E2;rw[hf];rfl
   have hi:=(L4 hf).1;rw[hf]at hus hle;have HS:Hid (up L nm'=i::up L (cl L i).super):=hus;have HLE:=A0 hle;have hlt:pre.length<(up L nm).length:=by rw[HUP.out,HS.out];simp
   obtain⟨fn,tmps,assign,body,hy,hR⟩:=hY pre i wr hi hJp hlt;have hns2:=(HK.out.names i hi).2;have hpc:=HK.out.row i hi;have f0:wr.cell? (p.add (i*4))=some (.string (cl L i).name):=hpc 0 _ rfl;have f1:wr.cell? ⟨(p.add (i*4)).block,(p.add (i*4)).off+1,none⟩=some (.string (cl L i).super):=by rw[B9 p (i*4) 0];exact hpc 1 _ rfl
   have f2:wr.cell? ⟨(p.add (i*4)).block,(p.add (i*4)).off+2,none⟩=some (.slice (q i).fa (cl L i).fields.length (q i).fk):=by rw[B9 p (i*4) 1];exact hpc 2 _ rfl
   have f3:wr.cell? ⟨(p.add (i*4)).block,(p.add (i*4)).off+3,none⟩=some (.slice (q i).ma (cl L i).methods.length (q i).mc):=by rw[B9 p (i*4) 2];exact hpc 3 _ rfl
   have c0:=HK.out.c0;rw[hv5];simp only[Option.getD_some];clear hpc hus hle;have hy':(Instr.yield l #[.agg #[.string (cl L i).name, .string (cl L i).super, .slice (q i).fa (cl L i).fields.length (q i).fk, .slice (q i).ma (cl L i).methods.length (q i).mc]]).run Tryz.prog wr= .ok (.round l fn tmps assign body) wr:=hy;clear hy;gi_wp2
   refine hR.mono ?_;rintro e W3 (⟨rfl,hJ3,hk3,hk4⟩|⟨rfl,hJx3⟩)
   ·have HK3:=A0 (HK.out.below hk3 hlim);have hb3:W3.cell? ⟨b1,0,none⟩=some (.pointer (some ⟨b,0,none⟩)):=by rw[World.cell?_of_block (w:=wr) hk4];exact hb1
    have c03:=HK3.out.c0;have c13:=HK3.out.c1;have f13:W3.cell? ⟨(p.add (i*4)).block,(p.add (i*4)).off+1,none⟩=some (.string (cl L i).super):=by rw[B9 p (i*4) 0];exact HK3.out.row i hi 1 _ rfl
    obtain⟨sp,hsp⟩:∃sp,sp=(cl L i).super:=⟨_,rfl⟩
    rw[←hsp]at f13 hns2;obtain⟨v52,hv52⟩:∃v,v=E2 L sp:=⟨_,rfl⟩
    obtain⟨v42,hv42⟩:∃v,v=(C5 L sp).getD 0:=⟨_,rfl⟩
    have hrun:=fun k:Nat=>a5F (w:=W3.drewN k) HK3.out.n1 sp hns2
    rw[←hv52,←hv42]at hrun;have HV5:=A0 hv52;have HV4:=A0 hv42;have HSP:=A0 hsp;clear hv52 hv42 hsp f0 f1 f2 f3 c0 hk3 hk4 hb1;gi_wp2
    gi_quiet (fail)
    go_roundw
    case rel=>
     exact⟨.int .i64 v42, .bool v52,_,_,_,_,_,_,_,_,_,_,_,_,_,_,_,_,_,_,_,_,_,_,_,_,_,_,_,_,⟨pre++ [i],sp,hJa _ _ _ hJ3 (F0 _ _ _),by rw[HUP.out,HS.out,HSP.out];simp,hns2,by rw[HV4.out],by rw[HV5.out],HK3.out.drewN _,hb3⟩,rfl⟩
    case measure=>
     show a4S L (.int .i64 v42) (.bool v52)<a4S L (.int .i64 i) (.bool true);rw[HV4.out,HV5.out,b0t hU.out sp];have:=HLE.out;rw[hv5]at this;simp only[Option.getD_some]at this;rw[this,HS.out,HSP.out];simp
   ·gi_wp2
    go_end0;exact⟨⟨_,rfl⟩, .inr ⟨pre++ [i],⟨up L (cl L i).super,by rw[HUP.out,HS.out];simp⟩,hJx3⟩⟩
end Kx
namespace Cf
structure C2(l:List Cl):Prop where
 base:∃fs,l=A5++fs
 dist:t9 l
 names:∀i,i<l.length→(cl l i).name≠C3
 super:∀i,i<l.length→i≠0→∃k,C5 l (cl l i).super=some k
 loop:∀i,i<l.length→∀k∈up l (cl l i).super,k≠i
theorem a7i:∀{ps:List (Nat→Bool)} {n e:Nat},V0 ps n e= .ok ()→∀p∈ps,∀i,i<n→p i=false
 | [],_,_,_,p,hp=>by cases hp
 |q::ps,n,e,h,p,hp=>by
  simp only[V0]at h;cases hq:o6 q n with
  |some i=>rw[hq]at h;cases h
  |none=>
   rw[hq]at h;rcases List.mem_cons.1 hp with rfl|hp
   ·exact a5f hq
   ·exact a7i h p hp
theorem a8H:∀(n:Nat) (l:List Nat),l.Nodup→(∀x∈l,x<n)→l.length≤n
 |0,l,_,hl=>by
  cases l with
  |nil=>simp
  |cons a l=>exact absurd (hl a (by simp)) (by omega)
 |n+1,l,hd,hl=>by
  have h1:(l.erase n).length≤n:=a8H n _ (hd.erase n) (fun x hx=>by
   have h2:=hl x (List.mem_of_mem_erase hx);have h3:x≠n:=fun e=>by subst e;exact(List.Nodup.mem_erase_iff hd).1 hx|>.1 rfl
   omega)
  by_cases hn:n∈l
  ·rw[List.length_erase_of_mem hn]at h1;omega
  ·rw[List.erase_of_not_mem hn]at h1;omega
variable {l:List Cl}
theorem a9o:∀(k j:Nat) (n:ByteArray),∀i∈D8 l k n,i∈D8 l (k+j) n
 |0,_,_,i,h=>by cases h
 |k+1,j,n,i,h=>by
  rw[Nat.add_right_comm];simp only[D8]at h⊢;cases hf:C5 l n with
  |none=>rw[hf]at h;cases h
  |some q=>
   rw[hf]at h;rcases List.mem_cons.1 h with rfl|h
   ·simp
   ·exact List.mem_cons.2 (.inr (a9o k j _ i h))
theorem a8Q(hl:∀i,i<l.length→∀k∈up l (cl l i).super,k≠i):∀(k:Nat) (n:ByteArray),k≤l.length+1→(D8 l k n).Nodup
 |0,_,_=>List.nodup_nil
 |k+1,n,hk=>by
  simp only[D8];cases hf:C5 l n with
  |none=>exact List.nodup_nil
  |some q=>
   refine List.nodup_cons.2 ⟨fun hm=> ?_,a8Q hl k _ (by omega)⟩;have:=a9o k (l.length-k) _ q hm;rw[Nat.add_sub_cancel' (by omega)]at this;exact hl q (L4 hf).1 q this rfl
theorem a6D(hl:∀i,i<l.length→∀k∈up l (cl l i).super,k≠i)(k:Nat)(hk:k≤l.length+1)(n:ByteArray):(D8 l k n).length≤l.length:=
 a8H _ _ (a8Q hl k n hk) (fun x hx=>a1W k n x hx)
theorem a6M:∀(k:Nat) (n:ByteArray),(D8 l k n).length<k→∀j,D8 l (k+j) n=D8 l k n
 |0,_,h,_=>by omega
 |k+1,n,h,j=>by
  rw[Nat.add_right_comm];simp only[D8]at h⊢;cases hf:C5 l n with
  |none=>rfl
  |some q=>
   rw[hf]at h;simp only;rw[a6M k _ (by simpa using h) j]
theorem C2.chain_up(h:C2 l)(k:Nat)(hk:l.length≤k)(n:ByteArray):D8 l k n=up l n:=by
 have h1:=a6D h.loop (l.length+1) (Nat.le_refl _) n;have h2:∀j,D8 l (l.length+1+j) n=D8 l (l.length+1) n:=a6M _ n (by omega)
 have h3:up l n=D8 l (l.length+1) n:=by
  by_cases h4:(D8 l l.length n).length<l.length
  ·exact(a6M _ n h4 1).symm
  ·
   have pre:∀(k:Nat) (n:ByteArray),(D8 l (k+1) n).length≤k→(D8 l k n).length=k→D8 l (k+1) n=D8 l k n:=by
    intro k;induction k with
    |zero=>intro n h1 h2;cases hc:D8 l 1 n with|nil=>rfl|cons a b=>rw[hc]at h1;simp at h1
    |succ k ih=>
     intro n h1 h2;simp only[D8]at h1 h2⊢;cases hf:C5 l n with
     |none=>rfl
     |some q=>
      rw[hf]at h1 h2;simp only[List.length_cons]at h1 h2;simp only;have:=ih (cl l q).super (by simpa[D8]using h1) (by omega);simp only[D8]at this;rw[this]
   have h5:(D8 l l.length n).length≤l.length:=a6D h.loop _ (by omega) n;exact(pre l.length n h1 (by omega)).symm
 by_cases e:k=l.length
 ·subst e;rfl
 ·have:=h2 (k-(l.length+1));rw[Nat.add_sub_cancel' (by omega)]at this;rw[this,h3]
theorem C2.up_eq(h:C2 l)(n:ByteArray):up l n=match C5 l n with|none=> []|some i=>i::up l (cl l i).super:=by
 rw[←h.chain_up (l.length+1) (by omega) n,D8];rfl
variable {a b n:ByteArray}
variable {i k:Nat}
theorem C2.up_some(h:C2 l)(hi:C5 l n=some i):up l n=i::up l (cl l i).super:=by
 rw[h.up_eq,hi]
theorem C2.up_none(h:C2 l)(hi:C5 l n=none):up l n=[]:=by
 rw[h.up_eq,hi]
theorem C2.up_short(h:C2 l)(n:ByteArray):(up l n).length≤l.length:=a6D h.loop _ (by omega) n
theorem a8k{α:Type}(f:α→ByteArray)(d:α){l:List α}(h:Y4 f l=false){j:Nat}(hi:i<l.length)(hj:j<l.length)(e:f (l.getD i d)=f (l.getD j d)):i=j:=by
 have h1:¬∃i j,i<j∧j<l.length∧f (l.getD i d)=f (l.getD j d):=by
  rw[←a4v f d,h];simp
 rcases Nat.lt_trichotomy i j with h2|h2|h2
 ·exact absurd ⟨i,j,h2,hj,e⟩ h1
 ·exact h2
 ·exact absurd ⟨j,i,h2,hi,e.symm⟩ h1
theorem a9M:Y4 (fun c:Cl=>c.name) A5=false:=by decide+kernel
theorem a0Y(h:k<9):k=0∨k=1∨k=2∨k=3∨k=4∨k=5∨k=6∨k=7∨k=8:=by omega
theorem a2V{fs:List Cl}(h:C5 A5 n=some k):C5 (A5++fs) n=some k:=by
 obtain⟨h1,h2,h3⟩:=L4 h;exact a5H (by simp;omega) (by rw[L9 h1];exact h2) (fun j hj=>by rw[L9 (by omega)];exact h3 j hj)
theorem b8L(fs:List Cl)(hok:∀c∈fs,a0I c)(h:Z7 fs= .ok ()):C2 (A5++fs):=by
 have hr:=a7i h;have hb:A5.length=9:=rfl;have htw:∀i,i<fs.length→twR fs i=false:=hr _ (by simp)
 have hns:=hr (fun i=> !E2 (A5++fs) (cl fs i).super) (by simp);have hlo:=hr (fun i=>(up (A5++fs) (cl fs i).super).any fun k=>decide ((cl (A5++fs) k).name=(cl fs i).name)) (by simp);have hcl:∀i,i<fs.length→a0I (cl fs i):=fun i hi=>by rw[U3 hi];exact hok _ (List.getElem_mem hi)
 have hnm:∀c:ByteArray,F4 c=true→c≠C3:=fun c hc e=>by subst e;revert hc;decide
 have hfile:∀k,k<(A5++fs).length→k<9∨∃i,i<fs.length∧k=9+i:=fun k hk=>by
  by_cases h9:k<9
  ·exact .inl h9
  ·exact .inr ⟨k-9,by simp at hk;omega,by omega⟩
 have hname:∀i,i<(A5++fs).length→(cl (A5++fs) i).name≠C3:=by
  intro i hi;rcases hfile i hi with h9|⟨j,hj,rfl⟩
  ·rw[L9 (by omega)];rcases a0Y h9 with rfl|rfl|rfl|rfl|rfl|rfl|rfl|rfl|rfl<;>decide
  ·rw[R4];exact hnm _ (hcl j hj).name
 have hdist:t9 (A5++fs):=by
  have hlt:∀i j,i<j→j<(A5++fs).length→(cl (A5++fs) i).name≠(cl (A5++fs) j).name:=by
   intro i j hij hj e;rcases hfile j hj with h9|⟨q,hq,rfl⟩
   ·rw[L9 (by omega),L9 (by omega)]at e
    exact absurd (a8k (fun c:Cl=>c.name) a7K a9M (i:=i) (j:=j) (by omega) (by omega) e) (by omega)
   ·have:=htw q hq;rw[←a6e fs q hq,hb]at this;simp only[twP,decide_eq_false_iff_not,ne_eq,Decidable.not_not]at this;exact(L4 this).2.2 i hij e
  intro i j hi hj e;rcases Nat.lt_trichotomy i j with h2|h2|h2
  ·exact absurd e (hlt i j h2 hj)
  ·exact h2
  ·exact absurd e.symm (hlt j i h2 hi)
 have hsup:∀i,i<(A5++fs).length→i≠0→∃k,C5 (A5++fs) (cl (A5++fs) i).super=some k:=by
  intro i hi h0;rcases hfile i hi with h9|⟨q,hq,rfl⟩
  ·rw[L9 (by omega)]
   have:∃k,C5 A5 (cl A5 i).super=some k:=by
    rcases a0Y h9 with rfl|rfl|rfl|rfl|rfl|rfl|rfl|rfl|rfl
    ·exact absurd rfl h0
    ·exact⟨0,by decide+kernel⟩
    all_goals exact⟨1,by decide+kernel⟩
   obtain⟨k,hk⟩:=this;exact⟨k,a2V hk⟩
  ·have:=hns q hq;rw[R4];simp only[E2,Bool.not_eq_false']at this;exact Option.isSome_iff_exists.1 this
 refine⟨⟨fs,rfl⟩,hdist,hname,hsup,?_⟩;intro i hi k hk e;subst e;rcases hfile k hi with h9|⟨q,hq,rfl⟩
 ·rw[L9 (by omega)]at hk
  have hE:∀m,D8 (A5++fs) m C3=[]:=fun m=>by
   cases m with
   |zero=>rfl
   |succ m=>
    simp only[D8];cases hf:C5 (A5++fs) C3 with
    |none=>rfl
    |some j=>exact absurd (L4 hf).2.1 (hname j (L4 hf).1)
  have hO:∀m,∀j∈D8 (A5++fs) m D4,j=0:=fun m j hj=>by
   cases m with
   |zero=>cases hj
   |succ m=>
    have hf:C5 (A5++fs) D4=some 0:=a2V (by decide+kernel);simp only[D8,hf]at hj;have hs:(cl (A5++fs) 0).super=C3:=by rw[L9 (by omega)];rfl
    rw[hs,hE]at hj;simpa using hj
  have hT:∀m,∀j∈D8 (A5++fs) m F9,j≤1:=fun m j hj=>by
   cases m with
   |zero=>cases hj
   |succ m=>
    have hf:C5 (A5++fs) F9=some 1:=a2V (by decide+kernel);simp only[D8,hf]at hj;have hs:(cl (A5++fs) 1).super=D4:=by rw[L9 (by omega)];rfl
    rw[hs]at hj;rcases List.mem_cons.1 hj with rfl|hj
    ·omega
    ·have:=hO m j hj;omega
  unfold up at hk;rcases a0Y h9 with rfl|rfl|rfl|rfl|rfl|rfl|rfl|rfl|rfl
  ·rw[show(cl A5 0).super=C3 from rfl,hE]at hk;cases hk
  ·have:=hO _ _ (show 1∈D8 (A5++fs) _ D4 from hk);omega
  all_goals(have:=hT _ _ (show _∈D8 (A5++fs) _ F9 from hk);omega)
 ·have:=hlo q hq;rw[List.any_eq_false]at this;rw[R4]at hk;exact this _ hk (by simp[R4])
def I6(l:List Cl)(a b:ByteArray):Bool:=(up l a).any fun k=>decide ((cl l k).name=b)
theorem C2.find_name(h:C2 l)(hi:i<l.length):C5 l (cl l i).name=some i:=a5q h.dist hi
theorem C2.below_refl(h:C2 l)(ha:C5 l a=some i):I6 l a a=true:=by
 unfold I6;rw[h.up_some ha];simp[(L4 ha).2.1]
theorem C2.below_step(h:C2 l)(ha:C5 l a=some i):I6 l a b=(decide (a=b)||I6 l (cl l i).super b):=by
 unfold I6;rw[h.up_some ha,List.any_cons,(L4 ha).2.1]
theorem C2.below_none(h:C2 l)(ha:C5 l a=none):I6 l a b=false:=by
 unfold I6;rw[h.up_none ha];rfl
theorem C2.upInd(h:C2 l){P:ByteArray→Prop}(h0:∀a,C5 l a=none→P a)(h1:∀a i,C5 l a=some i→P (cl l i).super→P a)(a:ByteArray):P a:=by
 have:∀n a,(up l a).length≤n→P a:=by
  intro n;induction n with
  |zero=>
   intro a ha;cases hf:C5 l a with
   |none=>exact h0 a hf
   |some i=>rw[h.up_some hf]at ha;simp at ha
  |succ n ih=>
   intro a ha;cases hf:C5 l a with
   |none=>exact h0 a hf
   |some i=>rw[h.up_some hf]at ha;exact h1 a i hf (ih _ (by simpa using ha))
 exact this _ a (Nat.le_refl _)
theorem C2.below_trans(h:C2 l){c:ByteArray}(h1:I6 l a b=true)(h2:I6 l b c=true):I6 l a c=true:=by
 refine h.upInd (P:=fun a=>I6 l a b=true→I6 l a c=true) (fun a ha h1=> ?_) (fun a i ha ih h1=> ?_) a h1
 ·rw[h.below_none ha]at h1;cases h1
 ·rw[h.below_step ha]at h1⊢;by_cases e:a=b
  ·subst e;rw[h.below_step ha]at h2;exact h2
  ·simp only[e,decide_false,Bool.false_or]at h1;simp[ih h1]
theorem C2.below_has(h:C2 l)(h1:I6 l a b=true):∃i,C5 l b=some i:=by
 unfold I6 at h1;obtain⟨k,hk,e⟩:=List.any_eq_true.1 h1;have:=of_decide_eq_true e;subst this;exact⟨k,h.find_name (a1W _ _ k hk)⟩
theorem C2.below_len(h:C2 l)(h1:I6 l a b=true):a=b∨(up l b).length<(up l a).length:=by
 refine h.upInd (P:=fun a=>I6 l a b=true→a=b∨(up l b).length<(up l a).length) (fun a ha h1=> ?_) (fun a i ha ih h1=> ?_) a h1
 ·rw[h.below_none ha]at h1;cases h1
 ·rw[h.below_step ha]at h1;by_cases e:a=b
  ·exact .inl e
  ·simp only[e,decide_false,Bool.false_or]at h1;right;rw[h.up_some ha,List.length_cons];rcases ih h1 with e2|e2
   ·rw[←e2];omega
   ·omega
theorem C2.find_object(h:C2 l):C5 l D4=some 0:=by
 obtain⟨fs,rfl⟩:=h.base;exact a2V (by decide+kernel)
def D0(l:List Cl)(a b:Ty):Bool:=
 I4 a b||decide (b.kind=0)||
 (if a.kind=5 then decide (b.kind=2∨b.kind=3∨b.kind=4)
  else if a.kind=2 then decide (b.kind=2)&&I6 l a.name b.name
  else if a.kind=3∨a.kind=4 then I4 b ⟨2,D4⟩else false)
def E3(l:List Cl)(t:Ty):Prop:=t.kind≤5∧if t.kind=2∨t.kind=4 then∃i,C5 l t.name=some i else t.name=C3
def B6:Ty:=⟨0,C3⟩
def P0:Ty:=⟨1,C3⟩
def a0C:Ty:=⟨5,C3⟩
def C9(n:ByteArray):Ty:=⟨2,n⟩
theorem a3r(h:k≤5)(h2:k≠2)(h4:k≠4):E3 l ⟨k,C3⟩:=⟨h,by simp[h2,h4]⟩
theorem a2p(l:List Cl)(a:Ty):D0 l a B6=true:=by simp[D0,B6]
theorem a1K(l:List Cl)(a:Ty):D0 l a a=true:=by simp[D0,a4u]
theorem a3w{t:Ty}(ht:E3 l t)(hk:t.kind=k)(h2:k≠2)(h4:k≠4):t=⟨k,C3⟩:=by
 obtain⟨h1,h3⟩:=ht;rw[if_neg (by omega)]at h3;cases t;simp_all
theorem C2.tyOk_object(h:C2 l):E3 l (C9 D4):=⟨by simp[C9],by simp[C9,h.find_object]⟩
theorem a0M{a b:Ty}(ha:E3 l a)(hb:E3 l b):D0 l a b=true↔
 a=b∨b=B6∨(a.kind=5∧(b.kind=2∨b.kind=3∨b.kind=4))∨(a.kind=2∧b.kind=2∧I6 l a.name b.name=true)∨((a.kind=3∨a.kind=4)∧b=C9 D4):=by
 have h0:b.kind=0↔b=B6:=⟨fun e=>a3w hb e (by omega) (by omega),fun e=>by rw[e];rfl⟩
 unfold D0;simp only[Bool.or_eq_true,a1m,decide_eq_true_eq,h0,C9];by_cases h5:a.kind=5
 ·simp[h5,or_assoc]
 ·by_cases h2:a.kind=2
  ·simp[h2,or_assoc]
  ·by_cases h3:a.kind=3∨a.kind=4
   ·simp[h5,h2,h3,a1m,or_assoc]
   ·simp[h5,h2,h3]
theorem C2.under_trans(h:C2 l){a b c:Ty}(ha:E3 l a)(hb:E3 l b)(hc:E3 l c)(h1:D0 l a b=true)(h2:D0 l b c=true):D0 l a c=true:=by
 rw[a0M ha hb]at h1;rw[a0M hb hc]at h2;rw[a0M ha hc];rcases h1 with rfl|rfl|⟨e1,e2⟩|⟨e1,e2,e3⟩|⟨e1,rfl⟩
 ·exact h2
 ·rcases h2 with rfl|rfl|⟨e1,_⟩|⟨e1,_⟩|⟨e1,_⟩
  ·exact .inr (.inl rfl)
  ·exact .inr (.inl rfl)
  all_goals(simp[B6]at e1)
 ·rcases h2 with rfl|rfl|⟨f1,f2⟩|⟨f1,f2,f3⟩|⟨f1,rfl⟩
  ·exact .inr (.inr (.inl ⟨e1,e2⟩))
  ·exact .inr (.inl rfl)
  ·omega
  ·exact .inr (.inr (.inl ⟨e1, .inl f2⟩))
  ·exact .inr (.inr (.inl ⟨e1, .inl rfl⟩))
 ·rcases h2 with rfl|rfl|⟨f1,f2⟩|⟨f1,f2,f3⟩|⟨f1,rfl⟩
  ·exact .inr (.inr (.inr (.inl ⟨e1,e2,e3⟩)))
  ·exact .inr (.inl rfl)
  ·omega
  ·exact .inr (.inr (.inr (.inl ⟨e1,f2,h.below_trans e3 f3⟩)))
  ·omega
 ·rcases h2 with rfl|rfl|⟨f1,f2⟩|⟨f1,f2,f3⟩|⟨f1,rfl⟩
  ·exact .inr (.inr (.inr (.inr ⟨e1,rfl⟩)))
  ·exact .inr (.inl rfl)
  ·simp[C9]at f1
  ·have:c=C9 D4:=by
    rcases h.below_len f3 with e4|e4
    ·cases c;simp_all [C9]
    ·have h0:up l D4=[0]:=by
      rw[h.up_some h.find_object];have:(cl l 0).super=C3:=by obtain⟨fs,rfl⟩:=h.base;rfl
      rw[this,h.up_none];cases hf:C5 l C3 with
      |none=>rfl
      |some j=>exact absurd (L4 hf).2.1 (h.names j (L4 hf).1)
     have h1:(up l c.name).length<1:=by simpa[C9,h0]using e4
     have h3:=h.below_has f3;obtain⟨i,hi⟩:=h3;rw[h.up_some hi]at h1;simp at h1
   exact .inr (.inr (.inr (.inr ⟨e1,this⟩)))
  ·simp[C9]at f1
end Cf
end Go.Proofs.YtdhophglnhcjbaaGreatDoor
