/- P00: a part of the proof that the last text tells. -/
import Derived.Test.YtdhophglnhcjbaaGreatDoorProg
import Derived.WalkKit
import Derived.WalkSpells
import Derived.WalkLawsBesides
import Derived.Deep.QuietTactic
import Derived.BigQuiet
import Derived.Below
import Derived.Deep.RegionHeld2
set_option linter.all false
set_option maxRecDepth 100000
set_option maxHeartbeats 40000000
open Go.Proofs.Tryz
namespace Go.Proofs.YtdhophglnhcjbaaGreatDoor
section
theorem a1x{P:Prop}(h:P:=by
 go_wp2
 go_ret;have hk':k=n:=by have:=HM.out.1;omega
 subst hk';exact .ok (a:=xs) (by rw[E5,HH.out];exact HM.out.done) hg2 HROW.out HR2.out):P:=h
theorem a5n{P:Prop}(h:P:=by
 have:=(X4 HH.out).2;have:256^d≤256^2:=Nat.pow_le_pow_right (by omega) hd;omega):P:=h
theorem c5a{P:Prop}(h:P:=by
 exact⟨k+1,xs++ [x],st3,by go_num,HM4.out,HO4.out,hR4,hg4⟩):P:=h
theorem c5h{P:Prop}(h:P:=by
 exact⟨0,[],st1,rfl, .start _ _ _,World.ownsRow_nil _ _ _ _,hR.out,hg⟩):P:=h
theorem c5j{P:Prop}(h:P:=by
 rw[h.up_some h.find_object];have:(cl l 0).super=C5:=by obtain⟨fs,rfl⟩:=h.base;rfl
 rw[this,h.up_none];cases hf:C3 l C5 with
 |none=>rfl
 |some j=>exact absurd (M9 hf).2.1 (h.names j (M9 hf).1)):P:=h
theorem c6f{P:Prop}(h:P:=by
 unfold K8;rw[List.length_append,←a7a];exact hown):P:=h
end
section
theorem A5{α:Type}{a:α}:some a≠none:=Option.some_ne_none _
namespace Cf
structure St where
 at_:Nat
 used:Nat
 pool:List ByteArray
abbrev Er:=Nat×Nat
abbrev R(α:Type):=Except Er (α×St)
def Y3(l:List UInt8):Nat:=l.foldl (fun n c=>n*256+c.toNat) 0
def C1(f:ByteArray)(k:Nat)(st:St):R Nat:=
 if st.at_+k≤f.size then .ok (Y3 ((f.data.toList.drop st.at_).take k),{st with at_:=st.at_+k})else .error (2,f.size)
def name(f:ByteArray)(st:St):R ByteArray:=
 match C1 f 1 st with
 | .error e=> .error e
 | .ok (n,st1)=>if n≤st.used∧n<st.pool.length then .ok (st.pool.getD n ByteArray.empty,{st1 with used:=max st.used (n+1)})else .error (5,st.at_)
structure Ty where
 kind:Nat
 name:ByteArray
structure T7 where
 name:ByteArray
 ty:Ty
structure In where
 op:Nat
 a:Int
 cls:ByteArray
 mem:ByteArray
structure Hd where
 from_:Nat
 to:Nat
 at_:Nat
 cls:ByteArray
structure Me where
 name:ByteArray
 params:List Ty
 ret:Ty
 stack:Nat
 locals:Nat
 code:List In
 handlers:List Hd
structure Cl where
 name:ByteArray
 super:ByteArray
 fields:List T7
 methods:List Me
def a0N(k:Nat):Bool:=k==2||k==4
def P5(f:ByteArray)(b:Bool)(st:St):R ByteArray:=if b then name f st else .ok (ByteArray.empty,st)
def kind(f:ByteArray)(st:St):R Ty:=
 match C1 f 1 st with
 | .error e=> .error e
 | .ok (k,st1)=>
   if 4<k then .error (3,st.at_)else
   match P5 f (a0N k) st1 with
   | .error e=> .error e
   | .ok (n,st2)=> .ok (⟨k,n⟩,st2)
def F3(op:Nat):Nat:=if op=0 then 4 else if op=2∨op=3 then 1 else if 12≤op∧op≤15 then 2 else 0
def Y5(op:Nat):Bool:=(16≤op&&op≤19)||op==22||op==28||op==29
def Z4(op:Nat):Bool:=17≤op&&op≤19
def P4(w n:Nat):Int:=if w=4∧2147483648≤n then(n:Int)-4294967296 else n
def S4(f:ByteArray)(st:St):R In:=
 match C1 f 1 st with
 | .error e=> .error e
 | .ok (op,st1)=>
   if 32≤op then .error (3,st.at_)else
   match C1 f (F3 op) st1 with
   | .error e=> .error e
   | .ok (n,st2)=>
     match P5 f (Y5 op) st2 with
     | .error e=> .error e
     | .ok (c,st3)=>
       match P5 f (Z4 op) st3 with
       | .error e=> .error e
       | .ok (m,st4)=> .ok (⟨op,P4 (F3 op) n,c,m⟩,st4)
def X2(f:ByteArray)(st:St):R Hd:=
 match C1 f 2 st with
 | .error e=> .error e
 | .ok (a,st1)=>
   match C1 f 2 st1 with
   | .error e=> .error e
   | .ok (b,st2)=>
     match C1 f 2 st2 with
     | .error e=> .error e
     | .ok (c,st3)=>
       match name f st3 with
       | .error e=> .error e
       | .ok (n,st4)=> .ok (⟨a,b,c,n⟩,st4)
def Z7(f:ByteArray)(st:St):R T7:=
 match name f st with
 | .error e=> .error e
 | .ok (n,st1)=>
   match kind f st1 with
   | .error e=> .error e
   | .ok (t,st2)=> .ok (⟨n,t⟩,st2)
def C8{α:Type}(p:St→R α):Nat→St→R (List α)
 |0,st=> .ok ([],st)
 |k+1,st=>
  match p st with
  | .error e=> .error e
  | .ok (x,st1)=>
    match C8 p k st1 with
    | .error e=> .error e
    | .ok (l,st2)=> .ok (x::l,st2)
def E5{α:Type}(f:ByteArray)(w:Nat)(p:St→R α)(st:St):R (List α):=
 match C1 f w st with
 | .error e=> .error e
 | .ok (n,st1)=>C8 p n st1
def meth(f:ByteArray)(st:St):R Me:=
 match name f st with
 | .error e=> .error e
 | .ok (n,st1)=>
   match E5 f 1 (kind f) st1 with
   | .error e=> .error e
   | .ok (ps,st2)=>
     match kind f st2 with
     | .error e=> .error e
     | .ok (r,st3)=>
       match C1 f 1 st3 with
       | .error e=> .error e
       | .ok (s,st4)=>
         match C1 f 1 st4 with
         | .error e=> .error e
         | .ok (l,st5)=>
           match E5 f 2 (S4 f) st5 with
           | .error e=> .error e
           | .ok (c,st6)=>
             match E5 f 1 (X2 f) st6 with
             | .error e=> .error e
             | .ok (h,st7)=> .ok (⟨n,ps,r,s,l,c,h⟩,st7)
def cls(f:ByteArray)(st:St):R Cl:=
 match name f st with
 | .error e=> .error e
 | .ok (n,st1)=>
   match name f st1 with
   | .error e=> .error e
   | .ok (s,st2)=>
     match E5 f 1 (Z7 f) st2 with
     | .error e=> .error e
     | .ok (fs,st3)=>
       match E5 f 1 (meth f) st3 with
       | .error e=> .error e
       | .ok (ms,st4)=> .ok (⟨n,s,fs,ms⟩,st4)
def a3m(c:UInt8):Bool:=(97≤c&&c≤122)||(65≤c&&c≤90)||(48≤c&&c≤57)
def E3(s:ByteArray):Bool:=decide (1≤s.size)&&decide (s.size≤12)&&s.data.toList.all a3m
def Z2(f:ByteArray)(st:St):R ByteArray:=
 match C1 f 1 st with
 | .error e=> .error e
 | .ok (k,st1)=>
   if st1.at_+k≤f.size then
    let s:=f.extract st1.at_ (st1.at_+k)
    if E3 s&& !st.pool.contains s then .ok (s,{st1 with at_:=st1.at_+k})else .error (4,st.at_)
   else .error (2,f.size)
def O5(f:ByteArray)(st:St):R Unit:=
 match Z2 f st with
 | .error e=> .error e
 | .ok (s,st1)=> .ok ((),{st1 with pool:=st1.pool++ [s]})
def N2(f:ByteArray)(c:Nat)(i:Nat)(st:St):R Unit:=
 match C1 f 1 st with
 | .error e=> .error e
 | .ok (n,st1)=>if n=c then .ok ((),st1)else .error (3,i)
def G7(f:ByteArray):Except Er Cl:=
 if 2048<f.size then .error (1,0)else
 match N2 f 87 0 ⟨0,0,[]⟩with
 | .error e=> .error e
 | .ok (_,st1)=>
   match N2 f 49 1 st1 with
   | .error e=> .error e
   | .ok (_,st2)=>
     match E5 f 1 (O5 f) st2 with
     | .error e=> .error e
     | .ok (_,st3)=>
       match cls f st3 with
       | .error e=> .error e
       | .ok (c,st4)=>
         if st4.used<st4.pool.length then .error (5,f.size)else
         if st4.at_<f.size then .error (6,st4.at_)else .ok c
structure Inv(f:ByteArray)(st:St):Prop where
 fits:f.size≤2048
 at_:st.at_≤f.size
 used:st.used≤st.pool.length
 pool:st.pool.length≤255
end Cf
abbrev mV(m:Cf.Me)(pa:Option Addr)(pk:Nat)(ca:Option Addr)(ck:Nat)(ha:Option Addr)(hk:Nat):Array Value:= #[.string m.name, .slice pa m.params.length pk, .int .i64 m.ret.kind, .string m.ret.name, .int .i64 m.stack, .int .i64 m.locals, .slice ca m.code.length ck, .slice ha m.handlers.length hk]
abbrev mZ:Array Value:= #[.string ⟨#[]⟩, .slice none 0 0, .int .i64 0, .string ⟨#[]⟩, .int .i64 0, .int .i64 0, .slice none 0 0, .slice none 0 0]
namespace Cf
def F2:ByteArray:=⟨#[79,98,106,101,99,116]⟩
def U0:ByteArray:=⟨#[84,104,114,111,119]⟩
def a2O:ByteArray:=⟨#[78,105,108]⟩
def a2C:ByteArray:=⟨#[73,110,100,101,120]⟩
def a2I:ByteArray:=⟨#[83,105,122,101]⟩
def a2J:ByteArray:=⟨#[67,97,115,116]⟩
def a2H:ByteArray:=⟨#[90,101,114,111]⟩
def a2z:ByteArray:=⟨#[77,101,109,111,114,121]⟩
def a2D:ByteArray:=⟨#[68,101,112,116,104]⟩
def C5:ByteArray:=⟨#[]⟩
def a2y(n s:ByteArray):Cl:=⟨n,s,[],[]⟩
def A7:List Cl:=[a2y F2 C5,a2y U0 F2,a2y a2O U0,a2y a2C U0,a2y a2I U0,a2y a2J U0,a2y a2H U0,a2y a2z U0,a2y a2D U0]
def b3f:Cl:=⟨C5,C5,[],[]⟩
def cl(l:List Cl)(i:Nat):Cl:=l.getD i b3f
def C3(l:List Cl)(n:ByteArray):Option Nat:=l.findIdx? fun c=>decide (c.name=n)
def E9(l:List Cl):Nat→ByteArray→List Nat
 |0,_=> []
 |k+1,n=>match C3 l n with
  |none=> []
  |some i=>i::E9 l k (cl l i).super
def up(l:List Cl)(n:ByteArray):List Nat:=E9 l l.length n
def L7(a b:Ty):Bool:=decide (a.kind=b.kind)&&decide (a.name=b.name)
theorem a2v(a b:Ty):L7 a b=true↔a=b:=by
 cases a;cases b;simp[L7]
theorem a5A(a:Ty):L7 a a=true:=(a2v a a).2 rfl
def s8:List Ty→List Ty→Bool
 | [],[]=>true
 |a::l,b::m=>L7 a b&&s8 l m
 |_,_=>false
theorem a6O:∀(l m:List Ty),s8 l m=true↔l=m
 | [],[]=>by simp[s8]
 | [],_::_=>by simp[s8]
 |_::_,[]=>by simp[s8]
 |a::l,b::m=>by simp[s8,a2v,a6O l m]
variable {l m:List Cl}
variable {n:ByteArray}
variable {i:Nat}
theorem M9(h:C3 l n=some i):i<l.length∧(cl l i).name=n∧∀j,j<i→(cl l j).name≠n:=by
 unfold C3 at h;obtain⟨hi,hp,hn⟩:=List.findIdx?_eq_some_iff_getElem.1 h;refine⟨hi,?_,fun j hj=> ?_⟩
 ·unfold cl;rw[List.getD_eq_getElem?_getD,List.getElem?_eq_getElem hi];simpa using hp
 ·have:=hn j hj;unfold cl;rw[List.getD_eq_getElem?_getD,List.getElem?_eq_getElem (by omega)];simpa using this
theorem a6K(h:C3 l n=none):∀j,j<l.length→(cl l j).name≠n:=by
 intro j hj;unfold C3 at h;have:=List.findIdx?_eq_none_iff.1 h l[j] (List.getElem_mem hj);unfold cl;rw[List.getD_eq_getElem?_getD,List.getElem?_eq_getElem hj];simpa using this
theorem a9d(hi:i<l.length)(hn:(cl l i).name=n)(hf:∀j,j<i→(cl l j).name≠n):C3 l n=some i:=by
 cases h:C3 l n with
 |none=>exact absurd hn (a6K h i hi)
 |some k=>
  obtain⟨h1,h2,h3⟩:=M9 h;rcases Nat.lt_trichotomy k i with h4|h4|h4
  ·exact absurd h2 (hf k h4)
  ·rw[h4]
  ·exact absurd hn (h3 i h4)
theorem U8(h:i<l.length):cl (l++m) i=cl l i:=by
 unfold cl;simp[List.getElem?_append_left h]
theorem a6z:cl (l++m) (l.length+i)=cl m i:=by
 unfold cl;simp[List.getElem?_append_right]
theorem R8(h:i<l.length):cl l i=l[i]:=by
 unfold cl;simp[h]
def a0L(l:List Cl):Prop:=∀i j,i<l.length→j<l.length→(cl l i).name=(cl l j).name→i=j
theorem a6L(h:a0L l)(hi:i<l.length):C3 l (cl l i).name=some i:=
 a9d hi rfl (fun j hj e=>by have:=h j i (by omega) hi e;omega)
def a0j(p:Nat→Bool)(n:Nat):Option Nat:=(List.range n).find? p
variable {p q:Nat→Bool}
theorem a6A{n:Nat}(h:a0j p n=none):∀i,i<n→p i=false:=by
 intro i hi;have:=List.find?_eq_none.1 h i (List.mem_range.2 hi);simpa using this
theorem b4u{n:Nat}(h:∀i,i<n→p i=q i):a0j p n=a0j q n:=by
 unfold a0j
 have:∀l:List Nat,(∀i∈l,i<n)→l.find? p=l.find? q:=by
  intro l;induction l with
  |nil=>intro _;rfl
  |cons a l ih=>
   intro hl;simp only[List.find?_cons,h a (hl a (by simp))];rw[ih (fun i hi=>hl i (by simp[hi]))]
 exact this _ (fun i hi=>List.mem_range.1 hi)
def y9:List (Nat→Bool)→Nat→Nat→Except Er Unit
 | [],_,_=> .ok ()
 |p::ps,n,e=>match a0j p n with
  |some i=> .error (e,i)
  |none=>y9 ps n (e+1)
theorem a4u{ps qs:List (Nat→Bool)}{n e:Nat}(h:∀i,i<n→p i=q i)(hr:(∀i,i<n→q i=false)→y9 ps n (e+1)=y9 qs n (e+1)):y9 (p::ps) n e=y9 (q::qs) n e:=by
 simp only[y9,b4u h];cases hq:a0j q n with
 |some i=>rfl
 |none=>exact hr (a6A hq)
def G3(l:List Cl)(n:ByteArray):Bool:=(C3 l n).isSome
def twP(l:List Cl)(i:Nat):Bool:=decide (C3 l (cl l i).name≠some i)
def nsP(l:List Cl)(i:Nat):Bool:= !G3 l (cl l i).super
def loP(l:List Cl)(i:Nat):Bool:=(E9 l l.length (cl l i).super).any fun k=>decide ((cl l k).name=(cl l i).name)
def P7(l:List Cl)(t:Ty):Bool:=if t.kind=2∨t.kind=4 then G3 l t.name else decide (t.kind≠0)
def m8(l:List Cl)(m:Me):Bool:=m.params.any (fun p=> !P7 l p)||m.handlers.any (fun h=> !G3 l h.cls)||(decide (m.ret.kind≠0)&& !P7 l m.ret)
def tyP(l:List Cl)(i:Nat):Bool:=(cl l i).fields.any (fun f=> !P7 l f.ty)||(cl l i).methods.any (m8 l)
def Y7(c:Cl)(n:ByteArray):Option Nat:=c.fields.findIdx? fun f=>decide (f.name=n)
def N5(c:Cl)(n:ByteArray):Option Nat:=c.methods.findIdx? fun m=>decide (m.name=n)
def T1(l:List Cl)(c n:ByteArray):Option (Nat×Nat):=(up l c).findSome? fun k=>(Y7 (cl l k) n).map fun i=>(k,i)
def mbP(l:List Cl)(i:Nat):Bool:=
 (List.range (cl l i).fields.length).any (fun j=>(T1 l (cl l i).super ((cl l i).fields.getD j ⟨C5,0,C5⟩).name).isSome||decide (Y7 (cl l i) ((cl l i).fields.getD j ⟨C5,0,C5⟩).name≠some j))||
 (List.range (cl l i).methods.length).any (fun j=>decide (N5 (cl l i) (((cl l i).methods.map (·.name)).getD j C5)≠some j))
def a1p(m o:Me):Bool:=L7 m.ret o.ret&&s8 m.params o.params
def a2e(c:Cl)(n:ByteArray):Option Me:=c.methods.find? fun m=>decide (m.name=n)
def ovP(l:List Cl)(i:Nat):Bool:=
 (up l (cl l i).super).any fun k=>(cl l i).methods.any fun m=>match a2e (cl l k) m.name with
   |none=>false
   |some o=> !a1p m o
def twR(fs:List Cl)(i:Nat):Bool:=(C3 (A7++fs.take i) (cl fs i).name).isSome
def a0z(l:List Cl)(t:Ty):Bool:=decide (t.name=C5)||G3 l t.name
def a7B(l:List Cl)(m:Me):Bool:= !(a0z l m.ret&&m.params.all (fun p=>a0z l p&&decide (p.kind≠0))&&m.handlers.all (fun h=>G3 l h.cls))
def tyR(l:List Cl)(c:Cl):Bool:=c.fields.any (fun f=> !a0z l f.ty||decide (f.ty.kind=0))||c.methods.any (a7B l)
def Z3(l:List Cl)(n:ByteArray):List T7:=(up l n).reverse.flatMap fun k=>(cl l k).fields
variable {α:Type}
def x8(f:α→ByteArray):List α→Bool
 | []=>false
 |x::xs=>xs.any (fun y=>decide (f y=f x))||x8 f xs
def mbR(l:List Cl)(c:Cl):Bool:=x8 (·.name) c.methods||x8 (·.name) c.fields||c.fields.any (fun f=>(Z3 l c.super).any fun g=>decide (f.name=g.name))
def ovR(l:List Cl)(c:Cl):Bool:=
 c.methods.any fun m=>(up l c.super).any fun k=>(cl l k).methods.any fun o=>decide (o.name=m.name)&&(!s8 m.params o.params|| !L7 o.ret m.ret)
def a0l(t:Ty):Prop:=t.kind≤4∧(t.name=C5↔¬(t.kind=2∨t.kind=4))∧(t.name≠C5→E3 t.name=true)
structure a1N(c:Cl):Prop where
 name:E3 c.name=true
 super:E3 c.super=true
 fields:∀f∈c.fields,E3 f.name=true∧a0l f.ty
 methods:∀m∈c.methods,E3 m.name=true∧a0l m.ret∧(∀p∈m.params,a0l p)∧∀h∈m.handlers,E3 h.cls=true
theorem a8w(f:α→ByteArray)(d:α):∀l:List α,x8 f l=true↔∃i j,i<j∧j<l.length∧f (l.getD i d)=f (l.getD j d)
 | []=>by simp[x8]
 |x::xs=>by
  simp only[x8,Bool.or_eq_true,List.any_eq_true,decide_eq_true_eq,a8w f d xs];constructor
  ·rintro(⟨y,hy,e⟩|⟨i,j,h1,h2,h3⟩)
   ·obtain⟨q,hq,rfl⟩:=List.getElem_of_mem hy;exact⟨0,q+1,by omega,by simpa using hq,by simp[e,hq]⟩
   ·exact⟨i+1,j+1,by omega,by simpa using h2,by simpa using h3⟩
  ·rintro⟨i,j,h1,h2,h3⟩;obtain⟨j,rfl⟩:∃q,j=q+1:=⟨j-1,by omega⟩
   have hj:j<xs.length:=by simpa using h2
   cases i with
   |zero=>
    left;refine⟨xs[j],List.getElem_mem hj,?_⟩;simpa[hj]using h3.symm
   |succ i=>right;exact⟨i,j,by omega,hj,by simpa using h3⟩
theorem a9J(fs:List Cl)(i:Nat)(hi:i<fs.length):twP (A7++fs) (A7.length+i)=twR fs i:=by
 have hb:A7.length=9:=rfl;have hc:cl (A7++fs) (A7.length+i)=cl fs i:=a6z;have hlt:A7.length+i<(A7++fs).length:=by simp;omega
 rw[Bool.eq_iff_iff];unfold twP twR;rw[hc];simp only[decide_eq_true_eq,ne_eq,Option.isSome_iff_exists]
 have htake:∀j,j<A7.length+i→cl (A7++fs.take i) j=cl (A7++fs) j:=by
  intro j hj;unfold cl;have:A7++fs.take i=(A7++fs).take (A7.length+i):=(List.take_length_add_append i).symm;rw[this,List.getD_eq_getElem?_getD,List.getD_eq_getElem?_getD,List.getElem?_take,if_pos hj]
 have hlen:(A7++fs.take i).length=A7.length+i:=by simp;omega
 constructor
 ·intro hne;cases hf:C3 (A7++fs) (cl fs i).name with
  |none=>exact absurd (by rw[hc]) (a6K hf _ hlt)
  |some k=>
   obtain⟨h1,h2,h3⟩:=M9 hf
   have hk:k<A7.length+i:=by
    rcases Nat.lt_trichotomy k (A7.length+i)with h|h|h
    ·exact h
    ·subst h;exact absurd hf hne
    ·exact absurd (by rw[hc]) (h3 _ h)
   exact⟨k,a9d (by omega) (by rw[htake k hk];exact h2) (fun j hj=>by rw[htake j (by omega)];exact h3 j hj)⟩
 ·rintro⟨k,hk⟩ he;obtain⟨h1,h2,h3⟩:=M9 hk;obtain⟨g1,g2,g3⟩:=M9 he;rw[hlen]at h1;exact g3 k h1 (by rw[←htake k h1];exact h2)
theorem a8u{t:Ty}(h:a0l t):P7 l t=(a0z l t&&decide (t.kind≠0)):=by
 obtain⟨h1,h2,h3⟩:=h;unfold P7 a0z;by_cases hk:t.kind=2∨t.kind=4
 ·have hn:t.name≠C5:=fun e=>(h2.1 e) hk
  have h0:t.kind≠0:=by omega
  simp[hk,hn,h0]
 ·have hn:=h2.2 hk;rw[if_neg hk,hn];simp
theorem c1e{m:Me}(hr:a0l m.ret)(hp:∀p∈m.params,a0l p):m8 l m=a7B l m:=by
 have h1:(decide (m.ret.kind≠0)&& !P7 l m.ret)= !a0z l m.ret:=by
  rw[a8u hr];by_cases h0:m.ret.kind=0
  ·have:=hr.2.1.2 (by omega);simp[h0,a0z,this]
  ·simp[h0]
 have h2:m.params.any (fun p=> !P7 l p)= !m.params.all (fun p=>a0z l p&&decide (p.kind≠0)):=by
  rw[List.not_all_eq_any_not]
  have:∀q:List Ty,(∀p∈q,a0l p)→q.any (fun p=> !P7 l p)=q.any (fun p=> !(a0z l p&&decide (p.kind≠0))):=by
   intro q;induction q with
   |nil=>intro _;rfl
   |cons a q ih=>intro h;simp only[List.any_cons,a8u (h a (by simp))];rw[ih (fun p hp=>h p (by simp[hp]))]
  exact this _ hp
 have h3:m.handlers.any (fun h=> !G3 l h.cls)= !m.handlers.all (fun h=>G3 l h.cls):=by rw[List.not_all_eq_any_not]
 unfold m8 a7B;rw[h1,h2,h3];cases a0z l m.ret<;>cases m.params.all (fun p=>a0z l p&&decide (p.kind≠0))<;>cases m.handlers.all (fun h=>G3 l h.cls)<;>rfl
theorem a4M{p q:α→Bool}:∀{l:List α},(∀x∈l,p x=q x)→l.any p=l.any q
 | [],_=>rfl
 |a::l,h=>by simp only[List.any_cons,h a (by simp)];rw[a4M (fun x hx=>h x (by simp[hx]))]
theorem c2W(h:a1N (cl l i)):tyP l i=tyR l (cl l i):=by
 unfold tyP tyR;congr 1
 ·exact a4M fun f hf=>by
   rw[a8u (h.fields f hf).2];cases a0z l f.ty<;>by_cases h0:f.ty.kind=0<;>simp[h0]
 ·exact a4M fun m hm=>c1e (h.methods m hm).2.1 (h.methods m hm).2.2.1
theorem b0i(f:α→ByteArray)(d:α)(l:List α)(j:Nat)(hj:j<l.length):(l.findIdx? fun x=>decide (f x=f (l.getD j d)))=some j↔∀i,i<j→f (l.getD i d)≠f (l.getD j d):=by
 rw[List.findIdx?_eq_some_iff_getElem];have hg:∀i (h:i<l.length),l.getD i d=l[i]:=fun i h=>by simp[h]
 constructor
 ·rintro⟨_,_,h⟩ i hi;have:=h i hi;rw[hg i (by omega)];simpa using this
 ·intro h;refine⟨hj,by rw[hg j hj];simp,fun i hi=> ?_⟩;have:=h i hi;rw[hg i (by omega)]at this;simpa using this
theorem b1g(f:α→ByteArray)(d:α)(l:List α):x8 f l=(List.range l.length).any (fun j=>decide ((l.findIdx? fun x=>decide (f x=f (l.getD j d)))≠some j)):=by
 rw[Bool.eq_iff_iff,a8w f d];simp only[List.any_eq_true,List.mem_range,decide_eq_true_eq,ne_eq];constructor
 ·rintro⟨i,j,h1,h2,h3⟩;exact⟨j,h2,fun e=>(b0i f d l j h2).1 e i h1 h3⟩
 ·rintro⟨j,hj,h⟩;rw[b0i f d l j hj]at h;simp only[Classical.not_forall,Decidable.not_not]at h;obtain⟨i,h1,h2⟩:=h;exact⟨i,j,h1,hj,h2⟩
theorem c2T(p q:α→Bool)(l:List α):l.any (fun x=>p x||q x)=(l.any p||l.any q):=by
 induction l with
 |nil=>rfl
 |cons a l ih=>simp only[List.any_cons,ih];cases p a<;>cases q a<;>simp
theorem b1u(p:α→Bool)(d:α)(l:List α):(List.range l.length).any (fun j=>p (l.getD j d))=l.any p:=by
 rw[Bool.eq_iff_iff];simp only[List.any_eq_true,List.mem_range];constructor
 ·rintro⟨j,hj,h⟩;exact⟨l[j],List.getElem_mem hj,by simpa[hj]using h⟩
 ·rintro⟨x,hx,h⟩;obtain⟨j,hj,rfl⟩:=List.getElem_of_mem hx;exact⟨j,hj,by simpa[hj]using h⟩
theorem b0d(p:α→Bool)(l:List α):(l.findIdx? p).isSome=l.any p:=by
 rw[Bool.eq_iff_iff,Option.isSome_iff_ne_none,ne_eq,List.findIdx?_eq_none_iff,List.any_eq_true];simp
theorem b4Z(l:List Cl)(c n:ByteArray):(T1 l c n).isSome=(Z3 l c).any fun g=>decide (n=g.name):=by
 rw[Bool.eq_iff_iff];unfold T1 Z3;simp only[List.any_eq_true,List.mem_flatMap,List.mem_reverse,decide_eq_true_eq,List.isSome_findSome?];constructor
 ·rintro⟨k,hk,h⟩;simp only[Option.isSome_map,Y7,b0d,List.any_eq_true,decide_eq_true_eq]at h;obtain⟨f,hf,e⟩:=h;exact⟨f,⟨k,hk,hf⟩,e.symm⟩
 ·rintro⟨f,⟨k,hk,hf⟩,e⟩;refine⟨k,hk,?_⟩;simp only[Option.isSome_map,Y7,b0d,List.any_eq_true,decide_eq_true_eq];exact⟨f,hf,e.symm⟩
theorem c3i:mbP l i=mbR l (cl l i):=by
 unfold mbP mbR;rw[c2T]
 have h1:(List.range (cl l i).fields.length).any (fun j=>(T1 l (cl l i).super ((cl l i).fields.getD j ⟨C5,0,C5⟩).name).isSome)=(cl l i).fields.any (fun f=>(Z3 l (cl l i).super).any fun g=>decide (f.name=g.name)):=by
  rw[b1u (fun f:T7=>(T1 l (cl l i).super f.name).isSome) ⟨C5,0,C5⟩];exact a4M fun f _=>b4Z l _ _
 have h2:=b1g (fun f:T7=>f.name) ⟨C5,0,C5⟩ (cl l i).fields
 have h3:x8 (fun m:Me=>m.name) (cl l i).methods=(List.range (cl l i).methods.length).any (fun j=>decide (N5 (cl l i) (((cl l i).methods.map (·.name)).getD j C5)≠some j)):=by
  rw[b1g (fun m:Me=>m.name) ⟨C5,[],⟨0,C5⟩,0,0,[],[]⟩];refine a4M fun j hj=> ?_
  have hj:=List.mem_range.1 hj;unfold N5;simp[hj]
 rw[h1,←h3];have h4:(List.range (cl l i).fields.length).any (fun j=>decide (Y7 (cl l i) ((cl l i).fields.getD j ⟨C5,0,C5⟩).name≠some j))=x8 (fun f:T7=>f.name) (cl l i).fields:=by rw[h2];rfl
 rw[h4];cases x8 (fun m:Me=>m.name) (cl l i).methods<;>cases x8 (fun f:T7=>f.name) (cl l i).fields<;>cases (cl l i).fields.any (fun f=>(Z3 l (cl l i).super).any fun g=>decide (f.name=g.name))<;>rfl
theorem b6x(f:α→ByteArray){l:List α}(h:x8 f l=false){x:α}(hx:x∈l):l.find? (fun y=>decide (f y=f x))=some x:=by
 induction l with
 |nil=>cases hx
 |cons a l ih=>
  simp only[x8,Bool.or_eq_false_iff,List.any_eq_false,decide_eq_true_eq]at h;rcases List.mem_cons.1 hx with rfl|hx
  ·simp
  ·have:f a≠f x:=fun e=>h.1 x hx e.symm
   simp only[List.find?_cons,this,decide_false];exact ih h.2 hx
theorem c3d(h:∀k∈up l (cl l i).super,x8 (fun m:Me=>m.name) (cl l k).methods=false):ovP l i=ovR l (cl l i):=by
 rw[Bool.eq_iff_iff];unfold ovP ovR;simp only[List.any_eq_true];constructor
 ·rintro⟨k,hk,m,hm,h1⟩;refine⟨m,hm,k,hk,?_⟩;cases ho:a2e (cl l k) m.name with
  |none=>rw[ho]at h1;cases h1
  |some o=>
   rw[ho]at h1;have hmem:=List.mem_of_find?_eq_some ho;have hn:=List.find?_some ho;refine⟨o,hmem,?_⟩;simp only[Bool.and_eq_true];refine⟨hn,?_⟩;simp only[a1p,Bool.not_eq_true',Bool.and_eq_false_iff]at h1;simp only[Bool.or_eq_true,Bool.not_eq_true'];rcases h1 with h1|h1
   ·right;cases hq:L7 o.ret m.ret with
    |false=>rfl
    |true=>rw[(a2v _ _).1 hq,a5A]at h1;cases h1
   ·left;exact h1
 ·rintro⟨m,hm,k,hk,o,ho,h1⟩;refine⟨k,hk,m,hm,?_⟩;simp only[Bool.and_eq_true,decide_eq_true_eq,Bool.or_eq_true,Bool.not_eq_true']at h1;have hf:=b6x (fun m:Me=>m.name) (h k hk) ho;rw[h1.1]at hf;unfold a2e;rw[hf];simp only[a1p,Bool.not_eq_true',Bool.and_eq_false_iff];rcases h1.2 with h2|h2
  ·right;exact h2
  ·left;cases hq:L7 m.ret o.ret with
   |false=>rfl
   |true=>rw[(a2v _ _).1 hq,a5A]at h2;cases h2
theorem a2G:∀(k:Nat) (n:ByteArray),∀i∈E9 l k n,i<l.length
 |0,_,i,h=>by cases h
 |k+1,n,i,h=>by
  simp only[E9]at h;cases hf:C3 l n with
  |none=>rw[hf]at h;cases h
  |some j=>
   rw[hf]at h;rcases List.mem_cons.1 h with rfl|h
   ·exact(M9 hf).1
   ·exact a2G k _ i h
def P1(fs:List Cl):Except Er Unit:=
 y9 [fun i=>twP (A7++fs) (9+i),fun i=>nsP (A7++fs) (9+i),fun i=>loP (A7++fs) (9+i),fun i=>tyP (A7++fs) (9+i),fun i=>mbP (A7++fs) (9+i),fun i=>ovP (A7++fs) (9+i)] fs.length 7
def a5k(fs:List Cl):Except Er Unit:=
 y9 [twR fs,fun i=> !G3 (A7++fs) (cl fs i).super,fun i=>(up (A7++fs) (cl fs i).super).any fun k=>decide ((cl (A7++fs) k).name=(cl fs i).name),fun i=>tyR (A7++fs) (cl fs i),fun i=>mbR (A7++fs) (cl fs i),fun i=>ovR (A7++fs) (cl fs i)] fs.length 7
theorem T2(fs:List Cl)(i:Nat):cl (A7++fs) (9+i)=cl fs i:=a6z (l:=A7)
theorem b3i(fs:List Cl)(hok:∀c∈fs,a1N c):P1 fs=a5k fs:=by
 have hcl:∀i,i<fs.length→a1N (cl fs i):=fun i hi=>by rw[R8 hi];exact hok _ (List.getElem_mem hi)
 unfold P1 a5k;refine a4u (fun i hi=>a9J fs i hi) fun h1=> ?_
 refine a4u (fun i hi=>by simp only[nsP,T2]) fun h2=> ?_
 refine a4u (fun i hi=>by simp only[loP,T2,up]) fun h3=> ?_
 refine a4u (fun i hi=>by rw[c2W (by rw[T2];exact hcl i hi),T2]) fun h4=> ?_
 refine a4u (fun i hi=>by rw[c3i,T2]) fun h5=> ?_
 refine a4u (fun i hi=> ?_) fun _=>rfl
 rw[c3d,T2];intro k hk;have hk:=a2G _ _ k hk;by_cases h9:k<9
 ·have:(cl (A7++fs) k).methods=[]:=by
   rw[U8 (by exact h9)];have:k=0∨k=1∨k=2∨k=3∨k=4∨k=5∨k=6∨k=7∨k=8:=by omega
   rcases this with rfl|rfl|rfl|rfl|rfl|rfl|rfl|rfl|rfl<;>rfl
  rw[this];rfl
 ·obtain⟨j,rfl⟩:∃j,k=9+j:=⟨k-9,by omega⟩
  rw[T2];have hj:j<fs.length:=by simp at hk;have:A7.length=9:=rfl;omega
  have:=h5 j hj;unfold mbR at this;simp only[Bool.or_eq_false_iff]at this;exact this.1.1
end Cf
namespace Cf
structure B9(l:List Cl):Prop where
 base:∃fs,l=A7++fs
 dist:a0L l
 names:∀i,i<l.length→(cl l i).name≠C5
 super:∀i,i<l.length→i≠0→∃k,C3 l (cl l i).super=some k
 loop:∀i,i<l.length→∀k∈up l (cl l i).super,k≠i
theorem a7j:∀{ps:List (Nat→Bool)} {n e:Nat},y9 ps n e= .ok ()→∀p∈ps,∀i,i<n→p i=false
 | [],_,_,_,p,hp=>by cases hp
 |q::ps,n,e,h,p,hp=>by
  simp only[y9]at h;cases hq:a0j q n with
  |some i=>rw[hq]at h;cases h
  |none=>
   rw[hq]at h;rcases List.mem_cons.1 hp with rfl|hp
   ·exact a6A hq
   ·exact a7j h p hp
theorem b0x:∀(n:Nat) (l:List Nat),l.Nodup→(∀x∈l,x<n)→l.length≤n
 |0,l,_,hl=>by
  cases l with
  |nil=>simp
  |cons a l=>exact absurd (hl a (by simp)) (by omega)
 |n+1,l,hd,hl=>by
  have h1:(l.erase n).length≤n:=b0x n _ (hd.erase n) (fun x hx=>by
   have h2:=hl x (List.mem_of_mem_erase hx);have h3:x≠n:=fun e=>by subst e;exact(List.Nodup.mem_erase_iff hd).1 hx|>.1 rfl
   omega)
  by_cases hn:n∈l
  ·rw[List.length_erase_of_mem hn]at h1;omega
  ·rw[List.erase_of_not_mem hn]at h1;omega
variable {l:List Cl}
theorem b1a:∀(k j:Nat) (n:ByteArray),∀i∈E9 l k n,i∈E9 l (k+j) n
 |0,_,_,i,h=>by cases h
 |k+1,j,n,i,h=>by
  rw[Nat.add_right_comm];simp only[E9]at h⊢;cases hf:C3 l n with
  |none=>rw[hf]at h;cases h
  |some q=>
   rw[hf]at h;rcases List.mem_cons.1 h with rfl|h
   ·simp
   ·exact List.mem_cons.2 (.inr (b1a k j _ i h))
theorem b0F(hl:∀i,i<l.length→∀k∈up l (cl l i).super,k≠i):∀(k:Nat) (n:ByteArray),k≤l.length+1→(E9 l k n).Nodup
 |0,_,_=>List.nodup_nil
 |k+1,n,hk=>by
  simp only[E9];cases hf:C3 l n with
  |none=>exact List.nodup_nil
  |some q=>
   refine List.nodup_cons.2 ⟨fun hm=> ?_,b0F hl k _ (by omega)⟩;have:=b1a k (l.length-k) _ q hm;rw[Nat.add_sub_cancel' (by omega)]at this;exact hl q (M9 hf).1 q this rfl
theorem a8h(hl:∀i,i<l.length→∀k∈up l (cl l i).super,k≠i)(k:Nat)(hk:k≤l.length+1)(n:ByteArray):(E9 l k n).length≤l.length:=
 b0x _ _ (b0F hl k n hk) (fun x hx=>a2G k n x hx)
theorem a8r:∀(k:Nat) (n:ByteArray),(E9 l k n).length<k→∀j,E9 l (k+j) n=E9 l k n
 |0,_,h,_=>by omega
 |k+1,n,h,j=>by
  rw[Nat.add_right_comm];simp only[E9]at h⊢;cases hf:C3 l n with
  |none=>rfl
  |some q=>
   rw[hf]at h;simp only;rw[a8r k _ (by simpa using h) j]
theorem B9.chain_up(h:B9 l)(k:Nat)(hk:l.length≤k)(n:ByteArray):E9 l k n=up l n:=by
 have h1:=a8h h.loop (l.length+1) (Nat.le_refl _) n;have h2:∀j,E9 l (l.length+1+j) n=E9 l (l.length+1) n:=a8r _ n (by omega)
 have h3:up l n=E9 l (l.length+1) n:=by
  by_cases h4:(E9 l l.length n).length<l.length
  ·exact(a8r _ n h4 1).symm
  ·
   have pre:∀(k:Nat) (n:ByteArray),(E9 l (k+1) n).length≤k→(E9 l k n).length=k→E9 l (k+1) n=E9 l k n:=by
    intro k;induction k with
    |zero=>intro n h1 h2;cases hc:E9 l 1 n with|nil=>rfl|cons a b=>rw[hc]at h1;simp at h1
    |succ k ih=>
     intro n h1 h2;simp only[E9]at h1 h2⊢;cases hf:C3 l n with
     |none=>rfl
     |some q=>
      rw[hf]at h1 h2;simp only[List.length_cons]at h1 h2;simp only;have:=ih (cl l q).super (by simpa[E9]using h1) (by omega);simp only[E9]at this;rw[this]
   have h5:(E9 l l.length n).length≤l.length:=a8h h.loop _ (by omega) n;exact(pre l.length n h1 (by omega)).symm
 by_cases e:k=l.length
 ·subst e;rfl
 ·have:=h2 (k-(l.length+1));rw[Nat.add_sub_cancel' (by omega)]at this;rw[this,h3]
theorem B9.up_eq(h:B9 l)(n:ByteArray):up l n=match C3 l n with|none=> []|some i=>i::up l (cl l i).super:=by
 rw[←h.chain_up (l.length+1) (by omega) n,E9];rfl
variable {a b n:ByteArray}
variable {i k:Nat}
theorem B9.up_some(h:B9 l)(hi:C3 l n=some i):up l n=i::up l (cl l i).super:=by
 rw[h.up_eq,hi]
theorem B9.up_none(h:B9 l)(hi:C3 l n=none):up l n=[]:=by
 rw[h.up_eq,hi]
theorem B9.up_short(h:B9 l)(n:ByteArray):(up l n).length≤l.length:=a8h h.loop _ (by omega) n
theorem b4l{α:Type}(f:α→ByteArray)(d:α){l:List α}(h:x8 f l=false){j:Nat}(hi:i<l.length)(hj:j<l.length)(e:f (l.getD i d)=f (l.getD j d)):i=j:=by
 have h1:¬∃i j,i<j∧j<l.length∧f (l.getD i d)=f (l.getD j d):=by
  rw[←a8w f d,h];simp
 rcases Nat.lt_trichotomy i j with h2|h2|h2
 ·exact absurd ⟨i,j,h2,hj,e⟩ h1
 ·exact h2
 ·exact absurd ⟨j,i,h2,hi,e.symm⟩ h1
theorem b8M:x8 (fun c:Cl=>c.name) A7=false:=by decide+kernel
theorem a3C(h:k<9):k=0∨k=1∨k=2∨k=3∨k=4∨k=5∨k=6∨k=7∨k=8:=by omega
theorem a5G{fs:List Cl}(h:C3 A7 n=some k):C3 (A7++fs) n=some k:=by
 obtain⟨h1,h2,h3⟩:=M9 h;exact a9d (by simp;omega) (by rw[U8 h1];exact h2) (fun j hj=>by rw[U8 (by omega)];exact h3 j hj)
theorem b1d(fs:List Cl)(hok:∀c∈fs,a1N c)(htw:∀i,i<fs.length→twR fs i=false)(hns:∀i,i<fs.length→(!G3 (A7++fs) (cl fs i).super)=false)
 (hlo:∀i,i<fs.length→((up (A7++fs) (cl fs i).super).any fun k=>decide ((cl (A7++fs) k).name=(cl fs i).name))=false):B9 (A7++fs):=by
 have hb:A7.length=9:=rfl;have hcl:∀i,i<fs.length→a1N (cl fs i):=fun i hi=>by rw[R8 hi];exact hok _ (List.getElem_mem hi)
 have hnm:∀c:ByteArray,E3 c=true→c≠C5:=fun c hc e=>by subst e;revert hc;decide
 have hfile:∀k,k<(A7++fs).length→k<9∨∃i,i<fs.length∧k=9+i:=fun k hk=>by
  by_cases h9:k<9
  ·exact .inl h9
  ·exact .inr ⟨k-9,by simp at hk;omega,by omega⟩
 have hname:∀i,i<(A7++fs).length→(cl (A7++fs) i).name≠C5:=by
  intro i hi;rcases hfile i hi with h9|⟨j,hj,rfl⟩
  ·rw[U8 (by omega)];rcases a3C h9 with rfl|rfl|rfl|rfl|rfl|rfl|rfl|rfl|rfl<;>decide
  ·rw[T2];exact hnm _ (hcl j hj).name
 have hdist:a0L (A7++fs):=by
  have hlt:∀i j,i<j→j<(A7++fs).length→(cl (A7++fs) i).name≠(cl (A7++fs) j).name:=by
   intro i j hij hj e;rcases hfile j hj with h9|⟨q,hq,rfl⟩
   ·rw[U8 (by omega),U8 (by omega)]at e
    exact absurd (b4l (fun c:Cl=>c.name) b3f b8M (i:=i) (j:=j) (by omega) (by omega) e) (by omega)
   ·have:=htw q hq;rw[←a9J fs q hq,hb]at this;simp only[twP,decide_eq_false_iff_not,ne_eq,Decidable.not_not]at this;exact(M9 this).2.2 i hij e
  intro i j hi hj e;rcases Nat.lt_trichotomy i j with h2|h2|h2
  ·exact absurd e (hlt i j h2 hj)
  ·exact h2
  ·exact absurd e.symm (hlt j i h2 hi)
 have hsup:∀i,i<(A7++fs).length→i≠0→∃k,C3 (A7++fs) (cl (A7++fs) i).super=some k:=by
  intro i hi h0;rcases hfile i hi with h9|⟨q,hq,rfl⟩
  ·rw[U8 (by omega)]
   have:∃k,C3 A7 (cl A7 i).super=some k:=by
    rcases a3C h9 with rfl|rfl|rfl|rfl|rfl|rfl|rfl|rfl|rfl
    ·exact absurd rfl h0
    ·exact⟨0,by decide+kernel⟩
    all_goals exact⟨1,by decide+kernel⟩
   obtain⟨k,hk⟩:=this;exact⟨k,a5G hk⟩
  ·have:=hns q hq;rw[T2];simp only[G3,Bool.not_eq_false']at this;exact Option.isSome_iff_exists.1 this
 refine⟨⟨fs,rfl⟩,hdist,hname,hsup,?_⟩;intro i hi k hk e;subst e;rcases hfile k hi with h9|⟨q,hq,rfl⟩
 ·rw[U8 (by omega)]at hk
  have hE:∀m,E9 (A7++fs) m C5=[]:=fun m=>by
   cases m with
   |zero=>rfl
   |succ m=>
    simp only[E9];cases hf:C3 (A7++fs) C5 with
    |none=>rfl
    |some j=>exact absurd (M9 hf).2.1 (hname j (M9 hf).1)
  have hO:∀m,∀j∈E9 (A7++fs) m F2,j=0:=fun m j hj=>by
   cases m with
   |zero=>cases hj
   |succ m=>
    have hf:C3 (A7++fs) F2=some 0:=a5G (by decide+kernel);simp only[E9,hf]at hj;have hs:(cl (A7++fs) 0).super=C5:=by rw[U8 (by omega)];rfl
    rw[hs,hE]at hj;simpa using hj
  have hT:∀m,∀j∈E9 (A7++fs) m U0,j≤1:=fun m j hj=>by
   cases m with
   |zero=>cases hj
   |succ m=>
    have hf:C3 (A7++fs) U0=some 1:=a5G (by decide+kernel);simp only[E9,hf]at hj;have hs:(cl (A7++fs) 1).super=F2:=by rw[U8 (by omega)];rfl
    rw[hs]at hj;rcases List.mem_cons.1 hj with rfl|hj
    ·omega
    ·have:=hO m j hj;omega
  unfold up at hk;rcases a3C h9 with rfl|rfl|rfl|rfl|rfl|rfl|rfl|rfl|rfl
  ·rw[show(cl A7 0).super=C5 from rfl,hE]at hk;cases hk
  ·have:=hO _ _ (show 1∈E9 (A7++fs) _ F2 from hk);omega
  all_goals(have:=hT _ _ (show _∈E9 (A7++fs) _ U0 from hk);omega)
 ·have:=hlo q hq;rw[List.any_eq_false]at this;rw[T2]at hk;exact this _ hk (by simp[T2])
theorem b2V(fs:List Cl)(hok:∀c∈fs,a1N c)(h:a5k fs= .ok ()):B9 (A7++fs):=by
 have hr:=a7j h;exact b1d fs hok (hr _ (by simp)) (hr (fun i=> !G3 (A7++fs) (cl fs i).super) (by simp)) (hr (fun i=>(up (A7++fs) (cl fs i).super).any fun k=>decide ((cl (A7++fs) k).name=(cl fs i).name)) (by simp))
def L6(l:List Cl)(a b:ByteArray):Bool:=(up l a).any fun k=>decide ((cl l k).name=b)
theorem B9.find_name(h:B9 l)(hi:i<l.length):C3 l (cl l i).name=some i:=a6L h.dist hi
theorem B9.below_refl(h:B9 l)(ha:C3 l a=some i):L6 l a a=true:=by
 unfold L6;rw[h.up_some ha];simp[(M9 ha).2.1]
theorem B9.below_step(h:B9 l)(ha:C3 l a=some i):L6 l a b=(decide (a=b)||L6 l (cl l i).super b):=by
 unfold L6;rw[h.up_some ha,List.any_cons,(M9 ha).2.1]
theorem B9.below_none(h:B9 l)(ha:C3 l a=none):L6 l a b=false:=by
 unfold L6;rw[h.up_none ha];rfl
theorem B9.upInd(h:B9 l){P:ByteArray→Prop}(h0:∀a,C3 l a=none→P a)(h1:∀a i,C3 l a=some i→P (cl l i).super→P a)(a:ByteArray):P a:=by
 have:∀n a,(up l a).length≤n→P a:=by
  intro n;induction n with
  |zero=>
   intro a ha;cases hf:C3 l a with
   |none=>exact h0 a hf
   |some i=>rw[h.up_some hf]at ha;simp at ha
  |succ n ih=>
   intro a ha;cases hf:C3 l a with
   |none=>exact h0 a hf
   |some i=>rw[h.up_some hf]at ha;exact h1 a i hf (ih _ (by simpa using ha))
 exact this _ a (Nat.le_refl _)
theorem B9.below_trans(h:B9 l){c:ByteArray}(h1:L6 l a b=true)(h2:L6 l b c=true):L6 l a c=true:=by
 refine h.upInd (P:=fun a=>L6 l a b=true→L6 l a c=true) (fun a ha h1=> ?_) (fun a i ha ih h1=> ?_) a h1
 ·rw[h.below_none ha]at h1;cases h1
 ·rw[h.below_step ha]at h1⊢;by_cases e:a=b
  ·subst e;rw[h.below_step ha]at h2;exact h2
  ·simp only[e,decide_false,Bool.false_or]at h1;simp[ih h1]
theorem B9.below_has(h:B9 l)(h1:L6 l a b=true):∃i,C3 l b=some i:=by
 unfold L6 at h1;obtain⟨k,hk,e⟩:=List.any_eq_true.1 h1;have:=of_decide_eq_true e;subst this;exact⟨k,h.find_name (a2G _ _ k hk)⟩
theorem B9.below_len(h:B9 l)(h1:L6 l a b=true):a=b∨(up l b).length<(up l a).length:=by
 refine h.upInd (P:=fun a=>L6 l a b=true→a=b∨(up l b).length<(up l a).length) (fun a ha h1=> ?_) (fun a i ha ih h1=> ?_) a h1
 ·rw[h.below_none ha]at h1;cases h1
 ·rw[h.below_step ha]at h1;by_cases e:a=b
  ·exact .inl e
  ·simp only[e,decide_false,Bool.false_or]at h1;right;rw[h.up_some ha,List.length_cons];rcases ih h1 with e2|e2
   ·rw[←e2];omega
   ·omega
theorem B9.find_object(h:B9 l):C3 l F2=some 0:=by
 obtain⟨fs,rfl⟩:=h.base;exact a5G (by decide+kernel)
def D4(l:List Cl)(a b:Ty):Bool:=
 L7 a b||decide (b.kind=0)||
 (if a.kind=5 then decide (b.kind=2∨b.kind=3∨b.kind=4)
  else if a.kind=2 then decide (b.kind=2)&&L6 l a.name b.name
  else if a.kind=3∨a.kind=4 then L7 b ⟨2,F2⟩else false)
def D6(l:List Cl)(t:Ty):Prop:=t.kind≤5∧if t.kind=2∨t.kind=4 then∃i,C3 l t.name=some i else t.name=C5
def B1:Ty:=⟨0,C5⟩
def O1:Ty:=⟨1,C5⟩
def a1q:Ty:=⟨5,C5⟩
def D7(n:ByteArray):Ty:=⟨2,n⟩
theorem a3h(h:k≤5)(h2:k≠2)(h4:k≠4):D6 l ⟨k,C5⟩:=⟨h,by simp[h2,h4]⟩
theorem a2u(l:List Cl)(a:Ty):D4 l a B1=true:=by simp[D4,B1]
theorem a3g(l:List Cl)(a:Ty):D4 l a a=true:=by simp[D4,a5A]
theorem a4B{t:Ty}(ht:D6 l t)(hk:t.kind=k)(h2:k≠2)(h4:k≠4):t=⟨k,C5⟩:=by
 obtain⟨h1,h3⟩:=ht;rw[if_neg (by omega)]at h3;cases t;simp_all
theorem B9.tyOk_object(h:B9 l):D6 l (D7 F2):=⟨by simp[D7],by simp[D7,h.find_object]⟩
theorem a0h{a b:Ty}(ha:D6 l a)(hb:D6 l b):D4 l a b=true↔
 a=b∨b=B1∨(a.kind=5∧(b.kind=2∨b.kind=3∨b.kind=4))∨(a.kind=2∧b.kind=2∧L6 l a.name b.name=true)∨((a.kind=3∨a.kind=4)∧b=D7 F2):=by
 have h0:b.kind=0↔b=B1:=⟨fun e=>a4B hb e (by omega) (by omega),fun e=>by rw[e];rfl⟩
 unfold D4;simp only[Bool.or_eq_true,a2v,decide_eq_true_eq,h0,D7];by_cases h5:a.kind=5
 ·simp[h5,or_assoc]
 ·by_cases h2:a.kind=2
  ·simp[h2,or_assoc]
  ·by_cases h3:a.kind=3∨a.kind=4
   ·simp[h5,h2,h3,a2v,or_assoc]
   ·simp[h5,h2,h3]
theorem B9.under_trans(h:B9 l){a b c:Ty}(ha:D6 l a)(hb:D6 l b)(hc:D6 l c)(h1:D4 l a b=true)(h2:D4 l b c=true):D4 l a c=true:=by
 rw[a0h ha hb]at h1;rw[a0h hb hc]at h2;rw[a0h ha hc];rcases h1 with rfl|rfl|⟨e1,e2⟩|⟨e1,e2,e3⟩|⟨e1,rfl⟩
 ·exact h2
 ·rcases h2 with rfl|rfl|⟨e1,_⟩|⟨e1,_⟩|⟨e1,_⟩
  ·exact .inr (.inl rfl)
  ·exact .inr (.inl rfl)
  all_goals(simp[B1]at e1)
 ·rcases h2 with rfl|rfl|⟨f1,f2⟩|⟨f1,f2,f3⟩|⟨f1,rfl⟩
  ·exact .inr (.inr (.inl ⟨e1,e2⟩))
  ·exact .inr (.inl rfl)
  ·omega
  ·exact .inr (.inr (.inl ⟨e1, .inl f2⟩))
  ·exact .inr (.inr (.inl ⟨e1, .inl rfl⟩))
 ·rcases h2 with rfl|rfl|⟨f1,f2⟩|⟨f1,f2,f3⟩|⟨f1,rfl⟩
  ·exact .inr (.inr (.inr (.inl ⟨e1,e2,e3⟩)))
  ·exact .inr (.inl rfl)
  ·omega
  ·exact .inr (.inr (.inr (.inl ⟨e1,f2,h.below_trans e3 f3⟩)))
  ·omega
 ·rcases h2 with rfl|rfl|⟨f1,f2⟩|⟨f1,f2,f3⟩|⟨f1,rfl⟩
  ·exact .inr (.inr (.inr (.inr ⟨e1,rfl⟩)))
  ·exact .inr (.inl rfl)
  ·simp[D7]at f1
  ·have:c=D7 F2:=by
    rcases h.below_len f3 with e4|e4
    ·cases c;simp_all [D7]
    ·have h0:up l F2=[0]:=by
      exact c5j
     have h1:(up l c.name).length<1:=by simpa[D7,h0]using e4
     have h3:=h.below_has f3;obtain⟨i,hi⟩:=h3;rw[h.up_some hi]at h1;simp at h1
   exact .inr (.inr (.inr (.inr ⟨e1,this⟩)))
  ·simp[D7]at f1
end Cf
namespace Cf
def l4(l:List Cl)(n:ByteArray):ByteArray:=(cl l ((C3 l n).getD 0)).super
def L5(l:List Cl)(t:Ty):Ty:=
 if t.kind=3∨t.kind=4 then D7 F2 else if t.kind=2∧t.name≠F2 then D7 (l4 l t.name)else B1
def a2g(l:List Cl):Nat→Ty→Ty→Ty
 |0,t,_=>t
 |k+1,t,o=>if D4 l o t then t else a2g l k (L5 l t) o
def M5(l:List Cl)(t:Ty):Nat:=if t.kind=0 then 0 else if t.kind=2 then(up l t.name).length else if t.kind=3∨t.kind=4 then 2 else 1
def a1F(l:List Cl)(t o:Ty):Ty:=if D4 l t o then o else a2g l (M5 l t+1) t o
structure b3G(l:List Cl)(a b x:Ty):Prop where
 ok:D6 l x
 left:D4 l a x=true
 right:D4 l b x=true
 least:∀y,D6 l y→D4 l a y=true→D4 l b y=true→D4 l x y=true
variable {l:List Cl}
theorem a1y:D6 l B1:=a3h (by omega) (by omega) (by omega)
theorem B9.up_object(h:B9 l):up l F2=[0]:=by
 exact c5j
theorem B9.super_has(h:B9 l){n:ByteArray}{i:Nat}(hi:C3 l n=some i)(hn:n≠F2):∃k,C3 l (l4 l n)=some k:=by
 unfold l4;rw[hi];refine h.super i (M9 hi).1 (fun e=>hn ?_);subst e;have h1:=(M9 hi).2.1;have h2:=(M9 h.find_object).2.1;rw[←h1,h2]
variable {a b t:Ty}
theorem B9.next_ok(h:B9 l)(ht:D6 l t):D6 l (L5 l t):=by
 unfold L5;split
 ·exact h.tyOk_object
 ·split
  ·rename_i h2;have:=ht.2;rw[if_pos (.inl h2.1)]at this;obtain⟨i,hi⟩:=this;obtain⟨k,hk⟩:=h.super_has hi h2.2;exact⟨by simp[D7],by simp[D7,hk]⟩
  ·exact a1y
theorem B9.next_rank(h:B9 l)(ht:D6 l t)(h0:t.kind≠0):M5 l (L5 l t)<M5 l t:=by
 unfold L5;split
 ·rename_i h3;have:M5 l (D7 F2)=1:=by simp[M5,D7,h.up_object]
  rw[this];unfold M5;rw[if_neg h0,if_neg (by omega),if_pos h3];omega
 ·rename_i h3;split
  ·rename_i h2;have:=ht.2;rw[if_pos (.inl h2.1)]at this;obtain⟨i,hi⟩:=this;have h4:M5 l t=(up l t.name).length:=by unfold M5;rw[if_neg h0,if_pos h2.1]
   have h5:M5 l (D7 (l4 l t.name))=(up l (l4 l t.name)).length:=by simp[M5,D7]
   rw[h4,h5,h.up_some hi];simp[l4,hi]
  ·rename_i h2;have:M5 l B1=0:=by simp[M5,B1]
   rw[this];unfold M5;rw[if_neg h0];split
   ·rename_i h6;have:=ht.2;rw[if_pos (.inl h6)]at this;obtain⟨i,hi⟩:=this;rw[h.up_some hi];simp
   ·first|omega|(split<;>omega)
theorem B9.rank_le(h:B9 l)(t:Ty):M5 l t≤l.length:=by
 have h9:9≤l.length:=by obtain⟨fs,rfl⟩:=h.base;simp[show A7.length=9 from rfl]
 have:=h.up_short t.name;unfold M5;split
 ·omega
 ·split
  ·omega
  ·split<;>omega
theorem B9.next_least(h:B9 l){y:Ty}(ht:D6 l t)(hy:D6 l y)(h5:t.kind≠5)(hu:D4 l t y=true)(hne:t≠y):D4 l (L5 l t) y=true:=by
 rw[a0h (h.next_ok ht) hy];rw[a0h ht hy]at hu;rcases hu with e|rfl|⟨e1,_⟩|⟨e1,e2,e3⟩|⟨e1,rfl⟩
 ·exact absurd e hne
 ·exact .inr (.inl rfl)
 ·exact absurd e1 h5
 ·have hn:t.name≠F2:=fun e=>by
   rw[e]at e3;have e4:=h.below_len e3;rw[h.up_object]at e4;obtain⟨k,hk⟩:=h.below_has e3;rcases e4 with e5|e5
   ·exact hne (by cases t;cases y;simp_all)
   ·rw[h.up_some hk]at e5;simp at e5
  have h1:=ht.2;rw[if_pos (.inl e1)]at h1;obtain⟨i,hi⟩:=h1;have h2:L5 l t=D7 (l4 l t.name):=by unfold L5;rw[if_neg (by omega),if_pos ⟨e1,hn⟩]
  rw[h2];rw[h.below_step hi]at e3;have hnn:t.name≠y.name:=fun e=>hne (by cases t;cases y;simp_all)
  simp only[hnn,decide_false,Bool.false_or]at e3;refine .inr (.inr (.inr (.inl ⟨rfl,e2,?_⟩)));show L6 l (l4 l t.name) y.name=true;unfold l4;rw[hi];exact e3
 ·have h2:L5 l t=D7 F2:=by unfold L5;rw[if_pos e1]
  rw[h2];exact .inl rfl
theorem B9.under_next(h:B9 l)(ht:D6 l t):D4 l t (L5 l t)=true:=by
 rw[a0h ht (h.next_ok ht)];unfold L5;split
 ·rename_i h3;exact .inr (.inr (.inr (.inr ⟨h3,rfl⟩)))
 ·split
  ·rename_i h2;have h1:=ht.2;rw[if_pos (.inl h2.1)]at h1;obtain⟨i,hi⟩:=h1;obtain⟨k,hk⟩:=h.super_has hi h2.2;refine .inr (.inr (.inr (.inl ⟨h2.1,rfl,?_⟩)));rw[h.below_step hi];have:l4 l t.name=(cl l i).super:=by unfold l4;rw[hi];rfl
   simp only[D7];rw[←this,h.below_refl hk];simp
  ·exact .inr (.inl rfl)
theorem B9.climb_lub(h:B9 l)(ha:D6 l a)(hb:D6 l b):∀(k:Nat) (t:Ty),M5 l t<k→D6 l t→D4 l a t=true→(∀y,D6 l y→D4 l a y=true→D4 l b y=true→D4 l t y=true)→(t.kind=5→b.kind=1∨b.kind=5)→b3G l a b (a2g l k t b)
 |0,t,hk,_,_,_,_=>by omega
 |k+1,t,hk,ht,h1,h2,h5=>by
  unfold a2g;split
  ·rename_i hu;exact⟨ht,h1,hu,h2⟩
  ·rename_i hu;have h0:t.kind≠0:=fun e=>hu (by rw[a4B ht e (by omega) (by omega)];exact a2u l b)
   refine h.climb_lub ha hb k (L5 l t) (by have:=h.next_rank ht h0;omega) (h.next_ok ht) (h.under_trans ha ht (h.next_ok ht) h1 (h.under_next ht)) (fun y hy h3 h4=> ?_) (fun e=> ?_)
   ·by_cases hk5:t.kind=5
    ·have hn:L5 l t=B1:=by unfold L5;rw[if_neg (by omega),if_neg (by omega)]
     rw[hn];have ht5:=a4B ht hk5 (by omega) (by omega);rcases h5 hk5 with hb1|hb5
     ·have hty:=h2 y hy h3 h4;rw[a0h hb hy]at h4;rw[a0h ht hy]at hty
      have:y=B1:=by
       rcases h4 with e|e|⟨e,_⟩|⟨e,_⟩|⟨e,_⟩
       ·rcases hty with f|f|⟨_,f⟩|⟨f,_⟩|⟨f,_⟩
        ·rw[←f]at e;rw[e]at hb1;omega
        ·exact f
        ·rw[←e]at f;omega
        ·omega
        ·omega
       ·exact e
       all_goals omega
      rw[this];exact a3g _ _
     ·have:=a4B hb hb5 (by omega) (by omega);rw[this,←ht5]at hu
      exact absurd (a3g _ _) hu
    ·exact h.next_least ht hy hk5 (h2 y hy h3 h4) (fun e=>hu (by rw[e];exact h4))
   ·unfold L5 at e;split at e
    ·simp[D7]at e
    ·split at e
     ·simp[D7]at e
     ·simp[B1]at e
theorem B9.joinP_lub(h:B9 l)(ha:D6 l a)(hb:D6 l b):b3G l a b (a1F l a b):=by
 unfold a1F;split
 ·rename_i hu;exact⟨hb,hu,a3g _ _,fun y _ _ hy=>hy⟩
 ·rename_i hu;refine h.climb_lub ha hb _ a (by omega) ha (a3g _ _) (fun y _ hy _=>hy) (fun h5=> ?_);have:=hb.1;by_cases h1:b.kind=1∨b.kind=5
  ·exact h1
  ·exfalso;apply hu;rw[a0h ha hb];by_cases h0:b.kind=0
   ·exact .inr (.inl (a4B hb h0 (by omega) (by omega)))
   ·exact .inr (.inr (.inl ⟨h5,by omega⟩))
end Cf
namespace Cf
variable {l:List Cl}
variable {n x:ByteArray}
theorem B9.fieldAt_none(h:B9 l)(hn:C3 l n=none):T1 l n x=none:=by
 unfold T1;rw[h.up_none hn];rfl
variable {i:Nat}
theorem B9.fieldAt_some(h:B9 l)(hn:C3 l n=some i):T1 l n x=match Y7 (cl l i) x with|some j=>some (i,j)|none=>T1 l (cl l i).super x:=by
 unfold T1;rw[h.up_some hn,List.findSome?_cons];cases Y7 (cl l i) x<;>rfl
def a0G:T7:=⟨C5,B1⟩
def c2X(l:List Cl)(p:Nat×Nat):Nat:=(Z3 l (cl l p.1).super).length+p.2
variable {p:Nat×Nat}
theorem B9.field_lt(h:B9 l)(hp:T1 l n x=some p):p.1<l.length∧p.2<(cl l p.1).fields.length∧((cl l p.1).fields.getD p.2 a0G).name=x:=by
 revert hp;refine h.upInd (P:=fun n=>T1 l n x=some p→p.1<l.length∧p.2<(cl l p.1).fields.length∧((cl l p.1).fields.getD p.2 a0G).name=x) (fun n hn hp=> ?_) (fun n i hn ih hp=> ?_) n
 ·rw[h.fieldAt_none hn]at hp;cases hp
 ·rw[h.fieldAt_some hn]at hp;cases hf:Y7 (cl l i) x with
  |none=>rw[hf]at hp;exact ih hp
  |some j=>
   rw[hf]at hp;injection hp with hp
   subst hp;obtain⟨hj,hq,_⟩:=List.findIdx?_eq_some_iff_getElem.1 hf;exact⟨(M9 hn).1,hj,by simpa[hj]using hq⟩
def L3(l:List Cl)(c n:ByteArray):Option (Nat×Nat):=(up l c).findSome? fun k=>(N5 (cl l k) n).map fun i=>(k,i)
def I9:Me:=⟨C5,[],B1,0,0,[],[]⟩
def E1(l:List Cl)(p:Nat×Nat):Me:=(cl l p.1).methods.getD p.2 I9
theorem B9.methAt_none(h:B9 l)(hn:C3 l n=none):L3 l n x=none:=by
 unfold L3;rw[h.up_none hn];rfl
theorem B9.methAt_some(h:B9 l)(hn:C3 l n=some i):L3 l n x=match N5 (cl l i) x with|some j=>some (i,j)|none=>L3 l (cl l i).super x:=by
 unfold L3;rw[h.up_some hn,List.findSome?_cons];cases N5 (cl l i) x<;>rfl
theorem B9.meth_lt(h:B9 l)(hp:L3 l n x=some p):p.1<l.length∧p.2<(cl l p.1).methods.length∧(E1 l p).name=x∧N5 (cl l p.1) x=some p.2∧L6 l n (cl l p.1).name=true:=by
 revert hp;refine h.upInd (P:=fun n=>L3 l n x=some p→p.1<l.length∧p.2<(cl l p.1).methods.length∧(E1 l p).name=x∧N5 (cl l p.1) x=some p.2∧L6 l n (cl l p.1).name=true) (fun n hn hp=> ?_) (fun n i hn ih hp=> ?_) n
 ·rw[h.methAt_none hn]at hp;cases hp
 ·rw[h.methAt_some hn]at hp;cases hf:N5 (cl l i) x with
  |none=>
   rw[hf]at hp;obtain⟨h1,h2,h3,h4,h5⟩:=ih hp;exact⟨h1,h2,h3,h4,by rw[h.below_step hn,h5];simp⟩
  |some j=>
   rw[hf]at hp;injection hp with hp
   subst hp;obtain⟨hj,hq,_⟩:=List.findIdx?_eq_some_iff_getElem.1 hf;refine⟨(M9 hn).1,hj,by unfold E1;simpa[hj]using hq,hf,?_⟩;rw[h.below_step hn,(M9 hn).2.1];simp
end Cf
namespace Cf
def i0:In:=⟨0,0,C5,C5⟩
def A6(m:Me)(at_:Nat):In:=m.code.getD at_ i0
def a1X(op:Nat):Bool:=op==12||op==20||op==30
def R4(l:List Cl)(m:Me)(i:In):Bool:=
 if i.op=2∨i.op=3 then decide (i.a<m.locals)
 else if 12≤i.op∧i.op≤15 then decide (i.a<m.code.length)
 else if i.op=16∨i.op=22∨i.op=28∨i.op=29 then G3 l i.cls
 else if i.op=17∨i.op=18 then(T1 l i.cls i.mem).isSome
 else if i.op=19 then(L3 l i.cls i.mem).isSome
 else true
def a1m(l:List Cl)(m:Me)(at_:Nat):Bool:= !R4 l m (A6 m at_)||(decide (at_+1=m.code.length)&& !a1X (A6 m at_).op)
def a6l(l:List Cl)(m:Me)(h:Hd):Bool:=decide (h.to≤h.from_)||decide (m.code.length<h.to)||decide (m.code.length≤h.at_)|| !L6 l h.cls U0
def l7(l:List Cl)(m:Me):Option Nat:=
 if m.code.length=0∨m.locals<1+m.params.length then some 0
 else match a0j (a1m l m) m.code.length with
  |some at_=>some at_
  |none=>(m.handlers.find? (a6l l m)).map (·.from_)
def a0V(l:List Cl)(i:In):Me:=match L3 l i.cls i.mem with|some p=>E1 l p|none=>I9
def a3v(l:List Cl)(i:In):Ty:=match T1 l i.cls i.mem with|some p=>((cl l p.1).fields.getD p.2 a0G).ty|none=>B1
def a1i(t:Ty):List Ty:=if t.kind=0 then []else [t]
def F6(l:List Cl)(m:Me)(i:In):List Ty:=
 if i.op=3∨i.op=4∨i.op=5 then [B1]
 else if i.op=6 then [B1,B1]
 else if(7≤i.op∧i.op≤11)∨i.op=14 then [O1,O1]
 else if i.op=13∨i.op=21∨i.op=22∨i.op=31 then [O1]
 else if i.op=15 then [D7 F2,D7 F2]
 else if i.op=17 then [D7 i.cls]
 else if i.op=18 then [D7 i.cls,a3v l i]
 else if i.op=19 then D7 i.cls::(a0V l i).params
 else if i.op=20 then a1i m.ret
 else if i.op=23∨i.op=28∨i.op=29 then [D7 F2]
 else if i.op=24 then [⟨3,C5⟩,O1]
 else if i.op=25 then [⟨3,C5⟩,O1,O1]
 else if i.op=26 then [D7 F2,O1]
 else if i.op=27 then [D7 F2,O1,D7 F2]
 else if i.op=30 then [D7 U0]
 else []
def C6(l:List Cl)(i:In):List Ty:=
 if i.op=0∨(7≤i.op∧i.op≤11)∨i.op=23∨i.op=24∨i.op=29 then [O1]
 else if i.op=1 then [a1q]
 else if i.op=2∨i.op=26 then [B1]
 else if i.op=5∨i.op=6 then [B1,B1]
 else if i.op=16∨i.op=28 then [D7 i.cls]
 else if i.op=17 then [a3v l i]
 else if i.op=19 then a1i (a0V l i).ret
 else if i.op=21 then [⟨3,C5⟩]
 else if i.op=22 then [⟨4,i.cls⟩]
 else []
def G8(l:List Cl)(m:Me)(i:In):Nat:=(F6 l m i).length
def M6(l:List Cl)(i:In):Nat:=(C6 l i).length
def G4(i:In)(at_:Nat):List Nat:=
 if i.op=20∨i.op=30 then []else if i.op=12 then [i.a.toNat]else if 13≤i.op∧i.op≤15 then [at_+1,i.a.toNat]else [at_+1]
def a0C(h:Hd)(at_:Nat):Bool:=decide (h.from_≤at_)&&decide (at_<h.to)
def j6(l:List Cl)(m:Me)(at_ h:Nat):Bool:=decide (G8 l m (A6 m at_)≤h)&&decide (h-G8 l m (A6 m at_)+M6 l (A6 m at_)≤m.stack)
def a0O(l:List Cl)(m:Me)(at_ h:Nat):Nat:=h-G8 l m (A6 m at_)+M6 l (A6 m at_)
def a1E(l:List Cl)(m:Me)(at_ h:Nat):List (Nat×Nat):=
 (if m.stack=0 then []else(m.handlers.filter fun d=>a0C d at_).map fun d=>(d.at_,1))++
 (if j6 l m at_ h then(G4 (A6 m at_) at_).map fun n=>(n,a0O l m at_ h)else [])
def a9y(l:List Cl)(m:Me)(S:Nat→Nat→Prop):Prop:=S 0 0∧∀at_ h,S at_ h→∀p∈a1E l m at_ h,S p.1 p.2
def F9(l:List Cl)(m:Me)(at_ h:Nat):Prop:=∀S,a9y l m S→S at_ h
theorem a3d(l:List Cl)(m:Me):a9y l m (F9 l m):=
 ⟨fun _ hS=>hS.1,fun at_ h hr p hp S hS=>hS.2 at_ h (hr S hS) p hp⟩
variable {l:List Cl}
variable {m:Me}
variable {at_ ht:Nat}
theorem a6P{S:Nat→Nat→Prop}(hS:a9y l m S){h:Nat}(hr:F9 l m at_ h):S at_ h:=hr S hS
structure R0(l:List Cl)(m:Me):Prop where
 some_:0<m.code.length
 locals:1+m.params.length≤m.locals
 need:∀at_,at_<m.code.length→R4 l m (A6 m at_)=true
 last:∀at_,at_+1=m.code.length→a1X (A6 m at_).op=true
 hds:∀d∈m.handlers,d.from_<d.to∧d.to≤m.code.length∧d.at_<m.code.length∧L6 l d.cls U0=true
theorem a7c(h:l7 l m=none):R0 l m:=by
 unfold l7 at h;split at h
 ·cases h
 ·rename_i h0;split at h
  ·cases h
  ·rename_i h1;have h2:=a6A h1;rw[Option.map_eq_none_iff]at h;have h3:=List.find?_eq_none.1 h;refine⟨by omega,by omega,fun a ha=> ?_,fun a ha=> ?_,fun d hd=> ?_⟩
   ·have:=h2 a ha;unfold a1m at this;simp only[Bool.or_eq_false_iff,Bool.not_eq_false']at this;exact this.1
   ·have:=h2 a (by omega);unfold a1m at this;simp only[Bool.or_eq_false_iff,ha,decide_true,Bool.true_and,Bool.not_eq_false']at this;exact this.2
   ·have:=h3 d hd;unfold a6l at this;simp only[Bool.or_eq_true,decide_eq_true_eq,Bool.not_eq_true',not_or,Nat.not_le,Bool.not_eq_false]at this;exact⟨this.1.1.1,by omega,this.1.2,this.2⟩
def P0(i:In):Prop:=i.op<32∧(i.op≠0→0≤i.a)
theorem b2J(h:R0 l m)(hi:∀i∈m.code,P0 i)(ha:at_<m.code.length):∀n∈G4 (A6 m at_) at_,n<m.code.length:=by
 intro n hn;have hm:A6 m at_∈m.code:=by unfold A6;simp[ha]
 have hok:=hi _ hm;have hne:=h.need at_ ha;have hla:=h.last at_;unfold G4 at hn;unfold R4 at hne
 have hsucc:a1X (A6 m at_).op=false→at_+1<m.code.length:=fun he=>by
  by_cases e:at_+1=m.code.length
  ·rw[hla e]at he;cases he
  ·omega
 split at hn
 ·cases hn
 ·split at hn
  ·rename_i h12;rw[if_neg (by omega),if_pos (by omega)]at hne;have:=of_decide_eq_true hne;have:=hok.2 (by omega);simp only[List.mem_singleton]at hn;omega
  ·split at hn
   ·rename_i h13;rw[if_neg (by omega),if_pos (by omega)]at hne;have:=of_decide_eq_true hne;have:=hok.2 (by omega);have:=hsucc (by simp[a1X];omega);simp only[List.mem_cons,List.not_mem_nil,or_false]at hn;omega
   ·rename_i h1 h2 h3;have:=hsucc (by simp[a1X];omega);simp only[List.mem_singleton]at hn;omega
theorem b9d(h:R0 l m)(hi:∀i∈m.code,P0 i)(ha:at_<m.code.length):∀p∈a1E l m at_ ht,p.1<m.code.length∧p.2≤m.stack:=by
 intro p hp;unfold a1E at hp;rcases List.mem_append.1 hp with hp|hp
 ·split at hp
  ·cases hp
  ·obtain⟨d,hd,rfl⟩:=List.mem_map.1 hp;exact⟨(h.hds d (List.mem_filter.1 hd).1).2.2.1,by simp only;omega⟩
 ·split at hp
  ·rename_i hr;obtain⟨n,hn,rfl⟩:=List.mem_map.1 hp;simp only[j6,Bool.and_eq_true,decide_eq_true_eq]at hr;exact⟨b2J h hi ha n hn,hr.2⟩
  ·cases hp
theorem a1V(h:R0 l m)(hi:∀i∈m.code,P0 i)(hr:F9 l m at_ ht):at_<m.code.length∧ht≤m.stack:=
 a6P (S:=fun a b=>a<m.code.length∧b≤m.stack) ⟨⟨h.some_,Nat.zero_le _⟩,fun a b hab p hp=>b9d h hi hab.1 p hp⟩ hr
def a1k(l:List Cl)(m:Me)(at_:Nat):Prop:=
 (∃h,F9 l m at_ h∧j6 l m at_ h=false)∨((∃d∈m.handlers,a0C d at_=true)∧(∃h,F9 l m at_ h)∧m.stack=0)∨∃h k,h≠k∧F9 l m at_ h∧F9 l m at_ k
def a7l(l:List Cl)(m:Me):Option Nat→Prop
 |some a=>a<m.code.length∧a1k l m a∧∀j,j<a→¬a1k l m j
 |none=>∀j,j<m.code.length→¬a1k l m j
def a2L(t:Ty):Option Ty:=if t.kind=4 then some (D7 t.name)else if t.kind=5 then some a1q else none
def a2d(l:List Cl)(m:Me)(i:In)(stack:List Ty):List Ty:=stack.drop (stack.length-G8 l m i)
def a7z(l:List Cl)(m:Me)(i:In)(n:Nat):Bool:=decide (G8 l m i≤n)&&decide (n-G8 l m i+M6 l i≤m.stack)
def Z1(l:List Cl):List Ty→List Ty→Bool
 |a::xs,b::bs=>D4 l a b&&Z1 l xs bs
 |_,_=>true
def O6(l:List Cl)(i:In)(taken:List Ty):Bool:=
 if i.op=3 then decide ((taken.getD 0 B1).kind≠0)
 else if i.op=23 then decide ((taken.getD 0 B1).kind≠2)
 else if i.op=26 then(a2L (taken.getD 0 B1)).isSome
 else if i.op=27 then match a2L (taken.getD 0 B1)with|none=>false|some e=>decide (e.kind=5)||D4 l (taken.getD 2 B1) e
 else true
def U1(l:List Cl)(m:Me)(i:In)(stack locals:List Ty):Bool:=
 a7z l m i stack.length&&(if i.op=2 then decide ((locals.getD i.a.toNat B1).kind≠0)else Z1 l (a2d l m i stack) (F6 l m i)&&O6 l i (a2d l m i stack))
end Cf
namespace Cf
structure Wd where
 tag:Nat
 v:Int
structure Fm where
 cls:ByteArray
 me:Me
 at_:Nat
 stack:List Wd
 locals:List Wd
structure Tg where
 kind:Nat
 cls:ByteArray
 words:List Wd
structure Oc where
 kind:Nat
 value:Int
 cls:ByteArray
 out:List Int
structure Ms where
 fr:List Fm
 tg:List Tg
 room:Nat
 oc:Oc
def X9:Wd:=⟨0,0⟩
def tg0:Tg:=⟨0,C5,[]⟩
def wd(fast:Bool)(tag:Nat)(v:Int):Wd:=⟨if fast then 0 else tag,v⟩
def a0q(s:Ms)(v:Int):Tg:=s.tg.getD (v.toNat-1) tg0
def a0p(s:Ms)(v:Int):Ty:=⟨(a0q s v).kind,(a0q s v).cls⟩
def n8(s:Ms)(w:Wd):Ty:=if w.tag=1 then O1 else if w.tag=2 then a1q else if w.tag=3 then a0p s w.v else B1
def V3(f:Fm)(k:Nat):Wd:=f.stack.getD (f.stack.length-1-k) X9
def L8(f:Fm)(n:Nat):Fm:={f with stack:=f.stack.take (f.stack.length-n)}
def V1(f:Fm)(w:Wd):Fm:={f with stack:=f.stack++ [w]}
def atF(f:Fm)(a:Nat):Fm:={f with at_:=a}
def w32(n:Int):Int:=n.bmod 4294967296
def c2Z(op:Nat)(a b:Int):Option Int:=
 if op=7 then some (w32 (w32 a+w32 b))
 else if op=8 then some (w32 (w32 a-w32 b))
 else if op=9 then some (w32 (w32 a*w32 b))
 else if w32 b=0 then none
 else if op=10 then some (w32 ((w32 a).tdiv (w32 b)))
 else some (w32 ((w32 a).tmod (w32 b)))
def a2E(fast:Bool)(t:Ty):Wd:=if t.kind=1 then wd fast 1 0 else wd fast 2 0
def V4(fast:Bool)(l:List Cl)(c:ByteArray):Tg:=⟨2,c,(Z3 l c).map fun f=>a2E fast f.ty⟩
def b3z(l:List Cl)(i:In):Nat:=match T1 l i.cls i.mem with|some p=>c2X l p|none=>0
def b3A(s:Ms)(v:Int)(k:Nat)(w:Wd):List Tg:=s.tg.set (v.toNat-1) {a0q s v with words:=(a0q s v).words.set k w}
def a4d(l:List Cl)(cls mem:ByteArray)(given:List Wd):Fm:=
 match L3 l cls mem with
 |none=>⟨C5,I9,0,[],given⟩
 |some p=>⟨(cl l p.1).name,E1 l p,0,[],given++List.replicate ((E1 l p).locals-given.length) X9⟩
def a2a(fast:Bool)(l:List Cl)(s:Ms)(f:Fm)(fs:List Fm)(i:In):Ms×Nat:=
 let u (f:Fm):Ms×Nat:=({s with fr:=f::fs},0)
 let x (f:Fm) (t:Nat):Ms×Nat:=({s with fr:=f::fs},t)
 let a:=V3 f 0
 let b:=V3 f 1
 let c:=V3 f 2
 if i.op=0 then u (V1 f (wd fast 1 i.a))
 else if i.op=1 then u (V1 f (wd fast 2 0))
 else if i.op=2 then u (V1 f (f.locals.getD i.a.toNat X9))
 else if i.op=3 then u {L8 f 1 with locals:=f.locals.set i.a.toNat a}
 else if i.op=4 then u (L8 f 1)
 else if i.op=5 then u (V1 f a)
 else if i.op=6 then u (V1 (V1 (L8 f 2) a) b)
 else if i.op=31 then({s with fr:=L8 f 1::fs,oc:={s.oc with out:=s.oc.out++ [a.v]} },0)
 else if i.op=16 then
  if s.room≤(Z3 l i.cls).length then x f 6
  else({s with fr:=V1 f (wd fast 3 (s.tg.length+1))::fs,tg:=s.tg++ [V4 fast l i.cls],room:=s.room-(1+(Z3 l i.cls).length)},0)
 else if i.op=21∨i.op=22 then
  if a.v<0 then x (L8 f 1) 3
  else if s.room≤a.v.toNat then x (L8 f 1) 6
  else({s with fr:=V1 (L8 f 1) (wd fast 3 (s.tg.length+1))::fs,tg:=s.tg++ [⟨if i.op=21 then 3 else 4,if i.op=21 then C5 else i.cls,List.replicate a.v.toNat (if i.op=21 then wd fast 1 0 else wd fast 2 0)⟩],room:=s.room-(1+a.v.toNat)},0)
 else if i.op=17 then
  if a.v=0 then x (L8 f 1) 1 else u (V1 (L8 f 1) ((a0q s a.v).words.getD (b3z l i) X9))
 else if i.op=18 then
  if b.v=0 then x (L8 f 2) 1 else({s with fr:=L8 f 2::fs,tg:=b3A s b.v (b3z l i) a},0)
 else if i.op=23 then
  if a.v=0 then x (L8 f 1) 1 else u (V1 (L8 f 1) (wd fast 1 (a0q s a.v).words.length))
 else if i.op=24∨i.op=26 then
  if b.v=0 then x (L8 f 2) 1
  else if a.v<0∨(a0q s b.v).words.length≤a.v then x (L8 f 2) 2
  else u (V1 (L8 f 2) ((a0q s b.v).words.getD a.v.toNat X9))
 else if i.op=25∨i.op=27 then
  if c.v=0 then x (L8 f 3) 1
  else if b.v<0∨(a0q s c.v).words.length≤b.v then x (L8 f 3) 2
  else({s with fr:=L8 f 3::fs,tg:=b3A s c.v b.v.toNat a},0)
 else if i.op=28 then
  if a.v≠0∧D4 l (a0p s a.v) (D7 i.cls)=false then x f 4 else u f
 else if i.op=29 then u (V1 (L8 f 1) (wd fast 1 (if a.v≠0∧D4 l (a0p s a.v) (D7 i.cls)=true then 1 else 0)))
 else match c2Z i.op b.v a.v with
  |none=>x (L8 f 2) 5
  |some n=>u (V1 (L8 f 2) (wd fast 1 n))
def a2Q(s:Ms)(ret:Ty)(w:Wd):Oc:=
 if ret.kind=1 then{s.oc with kind:=1,value:=w.v}
 else if w.v=0 then{s.oc with kind:=1}
 else if(a0q s w.v).kind=2 then{s.oc with kind:=1,cls:=(a0q s w.v).cls}else{s.oc with kind:=1}
def a2i(s:Ms)(f:Fm)(fs:List Fm):Ms:=
 let w:=if f.me.ret.kind=0 then X9 else V3 f 0
 match fs with
 | []=>{s with fr:=[],oc:=a2Q s f.me.ret w}
 |g::gs=>{s with fr:=atF (if f.me.ret.kind=0 then g else V1 g w) (g.at_+1)::gs}
def c3V(l:List Cl)(s:Ms)(f:Fm)(fs:List Fm)(i:In):Ms×Nat:=
 let n:=1+(a0V l i).params.length
 let given:=f.stack.drop (f.stack.length-n)
 let g:=L8 f n
 if(given.getD 0 X9).v=0 then({s with fr:=g::fs},1)
 else if 20≤(f::fs).length then({s with fr:=g::fs},7)
 else({s with fr:=a4d l (a0q s (given.getD 0 X9).v).cls i.mem given::g::fs},0)
def M8(fast:Bool)(l:List Cl)(s:Ms)(f:Fm)(fs:List Fm)(i:In):Ms×Nat:=
 let a:=V3 f 0
 let b:=V3 f 1
 let j (f:Fm) (yes:Bool):Ms×Nat:=({s with fr:=atF f (if yes then i.a.toNat else f.at_+1)::fs},0)
 if i.op=12 then j f true
 else if i.op=13 then j (L8 f 1) (decide (a.v=0))
 else if i.op=14 then j (L8 f 2) (decide (b.v<a.v))
 else if i.op=15 then j (L8 f 2) (decide (a.v=b.v))
 else if i.op=19 then c3V l s f fs i
 else if i.op=20 then(a2i s f fs,0)
 else if i.op=30 then({s with fr:=L8 f 1::fs},if a.v=0 then 1 else a.v.toNat)
 else
  let r:=a2a fast l s f fs i
  if r.2=0 then({r.1 with fr:=match r.1.fr with| []=> []|g::gs=>atF g (g.at_+1)::gs},0)else r
def b3u(fast:Bool)(l:List Cl)(cls:ByteArray)(t:Nat):List Fm→List Fm
 | []=> []
 |f::fs=>
  match f.me.handlers.find? fun h=>a0C h f.at_&&L6 l cls h.cls with
  |some h=>{f with at_:=h.at_,stack:=[wd fast 3 t]}::fs
  |none=>b3u fast l cls t fs
def a0Q(fast:Bool)(l:List Cl)(s:Ms)(t:Nat):Ms:=
 let cls:=(a0q s t).cls
 match b3u fast l cls t s.fr with
 | []=>{s with fr:=[],oc:={s.oc with kind:=2,cls:=cls} }
 |f::fs=>{s with fr:=f::fs}
def a2f(l:List Cl)(s:Ms)(f:Fm):Bool:=
 decide (f.at_<f.me.code.length)&&R4 l f.me (A6 f.me f.at_)&&U1 l f.me (A6 f.me f.at_) (f.stack.map (n8 s)) (f.locals.map (n8 s))
def a0E(fast:Bool)(l:List Cl)(s:Ms):Option Ms:=
 match s.fr with
 | []=>none
 |f::fs=>
  if fast=false∧a2f l s f=false then none
  else
   let r:=M8 fast l s f fs (A6 f.me f.at_)
   some (if r.2=0 then r.1 else a0Q fast l r.1 r.2)
def T5(fast:Bool)(l:List Cl):Nat→Ms→Ms×Nat
 |0,s=>(s,0)
 |n+1,s=>
  if s.oc.kind≠0 then(s,0)
  else match a0E fast l s with
   |none=>({s with oc:={s.oc with kind:=3} },0)
   |some s'=>let r:=T5 fast l n s';(r.1,r.2+1)
def a0R(fast:Bool)(l:List Cl)(cls mem:ByteArray)(args:List Int)(room:Nat):Ms:=
 let things:=[a2O,a2C,a2I,a2J,a2H,a2z,a2D].map (V4 fast l)++ [V4 fast l cls]
 ⟨[a4d l cls mem (wd fast 3 8::args.map (wd fast 1))],things,room,⟨0,0,C5,[]⟩⟩
end Cf
namespace Cf
end Cf
open Go.RowKit Cf
theorem lz{α:Type}:(∀{xs:List α} {i:Nat} (h:i<xs.toArray.size),xs.toArray[i]=xs[i]'(by simpa using h))∧(∀(a:α) (l:List α) (h:0<(a::l).length),(a::l)[0]=a)∧(∀(a:α) (l:List α) (i:Nat) (h:i+1<(a::l).length),(a::l)[i+1]=l[i]'(by simpa using h))∧(∀(l:List α) (i:Nat) (a:α),l.toArray.setIfInBounds i a=(l.set i a).toArray)∧(∀{x:α} {xs:List α} {a:α},(x::xs).set 0 a=a::xs)∧(∀{x:α} {xs:List α} {i:Nat} {a:α},(x::xs).set (i+1) a=x::xs.set i a):=
 ⟨fun _=>by simp,fun _ _ _=>rfl,fun _ _ _ _=>rfl,fun _ _ _=>by simp,rfl,rfl⟩
variable {w w1 w2:World}
variable {row:Option Nat}
theorem D5{r1:Option Nat}(h:w.grownBy w1 row)(h1:w1.grownBy w2 r1)(hr:∀k,r1=some k→w.heap.size≤k∨some k=row):w.grownBy w2 row:=
 ⟨h1.os.trans h.os,h1.tape.trans h.tape,h1.output.trans h.output,Nat.le_trans h.size h1.size,fun k hk hne=>
  (h1.block k (Nat.lt_of_lt_of_le hk h.size) (fun e=>by rcases hr k e.symm with h2|h2;omega;exact hne h2)).trans (h.block k hk hne)⟩
theorem A1(h:w.grownBy w1 row)(h1:w1.grownBy w2 row):w.grownBy w2 row:=
 D5 h h1 (fun _ e=> .inr e.symm)
theorem K7(h:w.grownBy w1 row)(h1:w1.grownBy w2 none):w.grownBy w2 row:=
 D5 h h1 (fun _ e=>by cases e)
theorem c1u(h:w.grownBy w1 none):w.grownBy w1 row:=
 ⟨h.os,h.tape,h.output,h.size,fun k hk _=>h.block k hk (by simp)⟩
theorem I8(w:World)(row:Option Nat):w.grownBy w row:=⟨rfl,rfl,rfl,Nat.le_refl _,fun _ _ _=>rfl⟩
theorem K3(w:World)(n:Nat)(row:Option Nat):w.grownBy (w.drewN n) row:=⟨rfl,rfl,rfl,Nat.le_refl _,fun _ _ _=>rfl⟩
theorem B6(w:World)(row:Option Nat):w.grownBy w.drew row:=⟨rfl,rfl,rfl,Nat.le_refl _,fun _ _ _=>rfl⟩
theorem A9(w:World)(a:Addr)(v:Value):w.grownBy (w.setCell a v) (some a.block):=
 ⟨rfl,rfl,rfl,by simp[World.setCell],fun k _ hk=>heap_setCell_other w a k v (fun e=>hk (by simp[e]))⟩
theorem A2(w:World)(o:Obj)(row:Option Nat):w.grownBy (w.alloc o) row:=World.grownBy_alloc w o row
def A3(w:World)(g:Nat)(cs:Array Value)(t:TypeId):Prop:=w.heap[g]? =some (.cells cs t (0,0))
variable {g:Nat}
variable {cs:Array Value}
variable {t:TypeId}
theorem A3.lt(h:A3 w g cs t):g<w.heap.size:=(Array.getElem?_eq_some_iff.1 h).1
theorem A3.keep(h:A3 w g cs t)(hg:w.grownBy w1 row)(hr:some g≠row):A3 w1 g cs t:=
 (hg.block g h.lt hr).trans h
theorem A3.new(w:World)(cs:Array Value)(t:TypeId):A3 (w.alloc (.cells cs t)) w.heap.size cs t:=heap_alloc_new w _
theorem A3.cell(h:A3 w g cs t)(j:Nat)(v:Value)(hv:cs[j]? =some v):w.cell? ⟨g,j,none⟩=some v:=by
 rw[cell_of_row w g j _ _ _ h];exact hv
theorem A3.frozen(h:A3 w g cs t)(j:Nat):w.frozen? ⟨g,j,none⟩=false:=frozen_of_row w g j _ _ h
theorem A3.set(h:A3 w g cs t)(j:Nat)(v:Value):A3 (w.setCell ⟨g,j,none⟩ v) g (cs.setIfInBounds j v) t:=
 heap_setCell_same w g j _ _ _ h
structure Rd(w:World)(b:Nat)(f:ByteArray)(pv:Value)(st:St):Prop where
 inv:Inv f st
 blk:A3 w b #[.string f, .int .i64 st.at_,pv, .int .i64 st.used] 199
 own:w.ownsRow (b+1) 9 1 pv st.pool.length (st.pool.map Value.string)
section
variable{w w':World}{b k:Nat}{f:ByteArray}{pv:Value}{st:St}
theorem Rd.poolNe(h:Rd w b f pv st):pv.ownBlock≠some b:=by
 cases hv:pv.ownBlock with
 |none=>simp
 |some g=>have:=(h.own.lt g hv).1;simp;omega
theorem Rd.poolLt(h:Rd w b f pv st)(hk:w.heap.size≤k):pv.ownBlock≠some k:=by
 cases hv:pv.ownBlock with
 |none=>simp
 |some g=>have:=(h.own.lt g hv).2;simp;omega
theorem Rd.lt(h:Rd w b f pv st):b<w.heap.size:=h.blk.lt
theorem Rd.keep(h:Rd w b f pv st)(hg:w.grownBy w' none):Rd w' b f pv st:=
 ⟨h.inv,h.blk.keep hg (by simp),h.own.kept hg (by cases hv:pv.ownBlock<;>simp)⟩
theorem Rd.keepAt(h:Rd w b f pv st)(hg:w.grownBy w' (some k))(hk:b≠k)(hp:pv.ownBlock≠some k):Rd w' b f pv st:=
 ⟨h.inv,h.blk.keep hg (by simpa using hk),h.own.kept hg (.inr hp)⟩
theorem Rd.grow{w w1 w2:World}{row:Option Nat}(h:Rd w b f pv st)(h1:w.grownBy w1 none)(h2:w1.grownBy w2 row)(hb:row≠some b)(hp:∀g,row=some g→pv.ownBlock≠some g):Rd w2 b f pv st:=by
 cases row with
 |none=>exact(h.keep h1).keep h2
 |some g=>exact(h.keep h1).keepAt h2 (fun e=>hb (by rw[e])) (hp g rfl)
theorem Rd.setAt(h:Rd w b f pv st)(n:Nat)(hn:n≤f.size):Rd (w.setCell ⟨b,1,none⟩ (.int .i64 n)) b f pv {st with at_:=n}:=
 ⟨⟨h.inv.fits,hn,h.inv.used,h.inv.pool⟩,h.blk.set 1 _,h.own.kept (A9 w ⟨b,1,none⟩ _) (.inr h.poolNe)⟩
theorem Rd.setUsed(h:Rd w b f pv st)(n:Nat)(hn:n≤st.pool.length):Rd (w.setCell ⟨b,3,none⟩ (.int .i64 n)) b f pv {st with used:=n}:=
 ⟨⟨h.inv.fits,h.inv.at_,hn,h.inv.pool⟩,h.blk.set 3 _,h.own.kept (A9 w ⟨b,3,none⟩ _) (.inr h.poolNe)⟩
end
variable {w w1:World}
variable {row:Option Nat}
variable {g i j k:Nat}
theorem a6Z(h:w.grownBy w1 row)(hg:w.heap.size≤g)(j:Nat)(x:Value):w.grownBy (w1.setCell ⟨g,j,none⟩ x) row:=
 D5 h (A9 w1 ⟨g,j,none⟩ x) (fun k e=> .inl (by cases e;exact hg))
variable {x y z:Value}
theorem b2M(h:w.grownBy w1 row)(hg:w.heap.size≤g):
 w.grownBy ((w1.setCell ⟨g,i,none⟩ x).setCell ⟨g,j,none⟩ y) row:=a6Z (a6Z h hg i x) hg j y
theorem a4a(h:w.grownBy w1 row)(hg:w.heap.size≤g):
 w.grownBy (((w1.setCell ⟨g,i,none⟩ x).setCell ⟨g,j,none⟩ y).setCell ⟨g,k,none⟩ z) row:=a6Z (b2M h hg) hg k z
theorem a3q(h:w.grownBy w1 row)(hg:w.heap.size≤g){l:Nat}{u:Value}:
 w.grownBy ((((w1.setCell ⟨g,i,none⟩ x).setCell ⟨g,j,none⟩ y).setCell ⟨g,k,none⟩ z).setCell ⟨g,l,none⟩ u) row:=a6Z (a4a h hg) hg l u
section
variable{w:World}{b g:Nat}{f:ByteArray}{pv:Value}{st:St}
theorem Rd.newSet(h:Rd w b f pv st)(hk:b≠g)(hp:pv.ownBlock≠some g)(j:Nat)(x:Value):Rd (w.setCell ⟨g,j,none⟩ x) b f pv st:=
 h.keepAt (A9 w ⟨g,j,none⟩ x) hk hp
variable {i j k:Nat}
variable {x y z:Value}
theorem Rd.new2(h:Rd w b f pv st)(hk:b≠g)(hp:pv.ownBlock≠some g):Rd ((w.setCell ⟨g,i,none⟩ x).setCell ⟨g,j,none⟩ y) b f pv st:=
 (h.newSet hk hp i x).newSet hk hp j y
theorem Rd.new3(h:Rd w b f pv st)(hk:b≠g)(hp:pv.ownBlock≠some g):Rd (((w.setCell ⟨g,i,none⟩ x).setCell ⟨g,j,none⟩ y).setCell ⟨g,k,none⟩ z) b f pv st:=
 (h.new2 hk hp).newSet hk hp k z
theorem Rd.new4(h:Rd w b f pv st)(hk:b≠g)(hp:pv.ownBlock≠some g){l:Nat}{u:Value}:Rd ((((w.setCell ⟨g,i,none⟩ x).setCell ⟨g,j,none⟩ y).setCell ⟨g,k,none⟩ z).setCell ⟨g,l,none⟩ u) b f pv st:=
 (h.new3 hk hp).newSet hk hp l u
end
def a7x(e:Er):Ending:= .panicked [{v:= .iface 125 (.agg #[.int .i64 e.1, .int .i64 e.2]),recovered:=false}]
variable {α:Type}
def E6(w:World)(b:Nat)(f:ByteArray)(pv:Value)(r:R α)(val:World→Value→α→Prop)(e:Ending)(w':World):Prop:=
 w.grownBy w' (some b)∧match r with
  | .ok (a,st)=>∃v,e= .returned v∧val w' v a∧Rd w' b f pv st
  | .error er=>e=a7x er
variable {w w':World}
variable {b:Nat}
variable {f:ByteArray}
variable {pv:Value}
theorem E6.cases{r:R α}{val:World→Value→α→Prop}{e:Ending}(h:E6 w b f pv r val e w'):
 (∃a st v,r= .ok (a,st)∧e= .returned v∧val w' v a∧Hid (Rd w' b f pv st)∧w.grownBy w' (some b))∨
 (∃er,r= .error er∧e= .panicked [{v:= .iface 125 (.agg #[.int .i64 er.1, .int .i64 er.2]),recovered:=false}]∧w.grownBy w' (some b)):=by
 obtain⟨hg,h⟩:=h;cases r with
 |ok p=>obtain⟨v,h1,h2,h3⟩:=h;exact .inl ⟨p.1,p.2,v,rfl,h1,h2,h3,hg⟩
 |error er=>exact .inr ⟨er,rfl,h,hg⟩
theorem E6.bind{P:Program}{fn:FuncId}{args:Array Value}{r:R α}{val:World→Value→α→Prop}{K:Ending→World→Prop}
 (hc:Calls P fn args w (E6 w b f pv r val))
 (herr:∀er w',r= .error er→w.grownBy w' (some b)→K (.panicked [{v:= .iface 125 (.agg #[.int .i64 er.1, .int .i64 er.2]),recovered:=false}]) w')
 (hok:∀a st v w',Hid (r= .ok (a,st))→val w' v a→Hid (Rd w' b f pv st)→w.grownBy w' (some b)→K (.returned v) w'):Calls P fn args w K:=
 hc.mono fun e w' he=>by
  rcases he.cases with⟨a,st,v,hr,rfl,hv,hR,hg⟩|⟨er,hr,rfl,hg⟩
  ·exact hok a st v w' hr hv hR hg
  ·exact herr er w' hr hg
theorem E6.ok{r:R α}{val:World→Value→α→Prop}{v:Value}{a:α}{st:St}
 (hr:r= .ok (a,st)) (hg:w.grownBy w' (some b)) (hv:val w' v a) (h:Rd w' b f pv st):E6 w b f pv r val (.returned v) w':=by
 subst hr;exact⟨hg,v,rfl,hv,h⟩
theorem E6.err{r:R α}{val:World→Value→α→Prop}{x y:Int}{er:Er}
 (hr:r= .error er) (hx:x=er.1) (hy:y=er.2) (hg:w.grownBy w' (some b)):E6 w b f pv r val (.panicked [{v:= .iface 125 (.agg #[.int .i64 x, .int .i64 y]),recovered:=false}]) w':=by
 subst hr hx hy;exact⟨hg,rfl⟩
def c3p(_:World)(v:Value)(n:Nat):Prop:=v= .int .i64 n
def a6k(_:World)(v:Value)(s:ByteArray):Prop:=v= .string s
theorem A0{p:Prop}(h:p):Hid p:=h
section
variable{w:World}{g:Nat}{t:TypeId}{cs:Array Value}{v0 v1 v2 v3 v4 v5 v6 v7 v8 v9 v10 v11:Value}{l:List Value}
theorem A3.c0(h:A3 w g (List.toArray (v0::l)) t):w.cell? ⟨g,0,none⟩=some v0:=h.cell 0 _ rfl
theorem A3.c1(h:A3 w g (List.toArray (v0::v1::l)) t):w.cell? ⟨g,1,none⟩=some v1:=h.cell 1 _ rfl
theorem A3.c2(h:A3 w g (List.toArray (v0::v1::v2::l)) t):w.cell? ⟨g,2,none⟩=some v2:=h.cell 2 _ rfl
theorem A3.c3(h:A3 w g (List.toArray (v0::v1::v2::v3::l)) t):w.cell? ⟨g,3,none⟩=some v3:=h.cell 3 _ rfl
theorem A3.c4(h:A3 w g (List.toArray (v0::v1::v2::v3::v4::l)) t):w.cell? ⟨g,4,none⟩=some v4:=h.cell 4 _ rfl
theorem A3.c5(h:A3 w g (List.toArray (v0::v1::v2::v3::v4::v5::l)) t):w.cell? ⟨g,5,none⟩=some v5:=h.cell 5 _ rfl
theorem A3.c6(h:A3 w g (List.toArray (v0::v1::v2::v3::v4::v5::v6::l)) t):w.cell? ⟨g,6,none⟩=some v6:=h.cell 6 _ rfl
theorem A3.c7(h:A3 w g (List.toArray (v0::v1::v2::v3::v4::v5::v6::v7::l)) t):w.cell? ⟨g,7,none⟩=some v7:=h.cell 7 _ rfl
theorem A3.c8(h:A3 w g (List.toArray (v0::v1::v2::v3::v4::v5::v6::v7::v8::l)) t):w.cell? ⟨g,8,none⟩=some v8:=h.cell 8 _ rfl
theorem A3.c9(h:A3 w g (List.toArray (v0::v1::v2::v3::v4::v5::v6::v7::v8::v9::l)) t):w.cell? ⟨g,9,none⟩=some v9:=h.cell 9 _ rfl
theorem A3.c10(h:A3 w g (List.toArray (v0::v1::v2::v3::v4::v5::v6::v7::v8::v9::v10::l)) t):w.cell? ⟨g,10,none⟩=some v10:=h.cell 10 _ rfl
theorem A3.c11(h:A3 w g (List.toArray (v0::v1::v2::v3::v4::v5::v6::v7::v8::v9::v10::v11::l)) t):w.cell? ⟨g,11,none⟩=some v11:=h.cell 11 _ rfl
theorem A3.q2(h:A3 w g (List.toArray (v0::v1::l)) t):w.cell? ⟨g,0,none⟩=some v0∧w.cell? ⟨g,1,none⟩=some v1:=⟨h.c0,h.c1⟩
theorem A3.z2(h:A3 w g cs t):w.frozen? ⟨g,0,none⟩=false∧w.frozen? ⟨g,1,none⟩=false:=⟨h.frozen 0,h.frozen 1⟩
theorem A3.q3(h:A3 w g (List.toArray (v0::v1::v2::l)) t):w.cell? ⟨g,0,none⟩=some v0∧w.cell? ⟨g,1,none⟩=some v1∧w.cell? ⟨g,2,none⟩=some v2:=⟨h.c0,h.c1,h.c2⟩
theorem A3.z3(h:A3 w g cs t):w.frozen? ⟨g,0,none⟩=false∧w.frozen? ⟨g,1,none⟩=false∧w.frozen? ⟨g,2,none⟩=false:=⟨h.frozen 0,h.frozen 1,h.frozen 2⟩
theorem A3.q4(h:A3 w g (List.toArray (v0::v1::v2::v3::l)) t):w.cell? ⟨g,0,none⟩=some v0∧w.cell? ⟨g,1,none⟩=some v1∧w.cell? ⟨g,2,none⟩=some v2∧w.cell? ⟨g,3,none⟩=some v3:=⟨h.c0,h.c1,h.c2,h.c3⟩
theorem A3.z4(h:A3 w g cs t):w.frozen? ⟨g,0,none⟩=false∧w.frozen? ⟨g,1,none⟩=false∧w.frozen? ⟨g,2,none⟩=false∧w.frozen? ⟨g,3,none⟩=false:=⟨h.frozen 0,h.frozen 1,h.frozen 2,h.frozen 3⟩
theorem A3.q5(h:A3 w g (List.toArray (v0::v1::v2::v3::v4::l)) t):w.cell? ⟨g,0,none⟩=some v0∧w.cell? ⟨g,1,none⟩=some v1∧w.cell? ⟨g,2,none⟩=some v2∧w.cell? ⟨g,3,none⟩=some v3∧w.cell? ⟨g,4,none⟩=some v4:=⟨h.c0,h.c1,h.c2,h.c3,h.c4⟩
theorem A3.z5(h:A3 w g cs t):w.frozen? ⟨g,0,none⟩=false∧w.frozen? ⟨g,1,none⟩=false∧w.frozen? ⟨g,2,none⟩=false∧w.frozen? ⟨g,3,none⟩=false∧w.frozen? ⟨g,4,none⟩=false:=⟨h.frozen 0,h.frozen 1,h.frozen 2,h.frozen 3,h.frozen 4⟩
theorem A3.q6(h:A3 w g (List.toArray (v0::v1::v2::v3::v4::v5::l)) t):w.cell? ⟨g,0,none⟩=some v0∧w.cell? ⟨g,1,none⟩=some v1∧w.cell? ⟨g,2,none⟩=some v2∧w.cell? ⟨g,3,none⟩=some v3∧w.cell? ⟨g,4,none⟩=some v4∧w.cell? ⟨g,5,none⟩=some v5:=⟨h.c0,h.c1,h.c2,h.c3,h.c4,h.c5⟩
theorem A3.z6(h:A3 w g cs t):w.frozen? ⟨g,0,none⟩=false∧w.frozen? ⟨g,1,none⟩=false∧w.frozen? ⟨g,2,none⟩=false∧w.frozen? ⟨g,3,none⟩=false∧w.frozen? ⟨g,4,none⟩=false∧w.frozen? ⟨g,5,none⟩=false:=⟨h.frozen 0,h.frozen 1,h.frozen 2,h.frozen 3,h.frozen 4,h.frozen 5⟩
theorem A3.q7(h:A3 w g (List.toArray (v0::v1::v2::v3::v4::v5::v6::l)) t):w.cell? ⟨g,0,none⟩=some v0∧w.cell? ⟨g,1,none⟩=some v1∧w.cell? ⟨g,2,none⟩=some v2∧w.cell? ⟨g,3,none⟩=some v3∧w.cell? ⟨g,4,none⟩=some v4∧w.cell? ⟨g,5,none⟩=some v5∧w.cell? ⟨g,6,none⟩=some v6:=⟨h.c0,h.c1,h.c2,h.c3,h.c4,h.c5,h.c6⟩
theorem A3.z7(h:A3 w g cs t):w.frozen? ⟨g,0,none⟩=false∧w.frozen? ⟨g,1,none⟩=false∧w.frozen? ⟨g,2,none⟩=false∧w.frozen? ⟨g,3,none⟩=false∧w.frozen? ⟨g,4,none⟩=false∧w.frozen? ⟨g,5,none⟩=false∧w.frozen? ⟨g,6,none⟩=false:=⟨h.frozen 0,h.frozen 1,h.frozen 2,h.frozen 3,h.frozen 4,h.frozen 5,h.frozen 6⟩
theorem A3.q8(h:A3 w g (List.toArray (v0::v1::v2::v3::v4::v5::v6::v7::l)) t):w.cell? ⟨g,0,none⟩=some v0∧w.cell? ⟨g,1,none⟩=some v1∧w.cell? ⟨g,2,none⟩=some v2∧w.cell? ⟨g,3,none⟩=some v3∧w.cell? ⟨g,4,none⟩=some v4∧w.cell? ⟨g,5,none⟩=some v5∧w.cell? ⟨g,6,none⟩=some v6∧w.cell? ⟨g,7,none⟩=some v7:=⟨h.c0,h.c1,h.c2,h.c3,h.c4,h.c5,h.c6,h.c7⟩
theorem A3.z8(h:A3 w g cs t):w.frozen? ⟨g,0,none⟩=false∧w.frozen? ⟨g,1,none⟩=false∧w.frozen? ⟨g,2,none⟩=false∧w.frozen? ⟨g,3,none⟩=false∧w.frozen? ⟨g,4,none⟩=false∧w.frozen? ⟨g,5,none⟩=false∧w.frozen? ⟨g,6,none⟩=false∧w.frozen? ⟨g,7,none⟩=false:=⟨h.frozen 0,h.frozen 1,h.frozen 2,h.frozen 3,h.frozen 4,h.frozen 5,h.frozen 6,h.frozen 7⟩
theorem A3.q9(h:A3 w g (List.toArray (v0::v1::v2::v3::v4::v5::v6::v7::v8::l)) t):w.cell? ⟨g,0,none⟩=some v0∧w.cell? ⟨g,1,none⟩=some v1∧w.cell? ⟨g,2,none⟩=some v2∧w.cell? ⟨g,3,none⟩=some v3∧w.cell? ⟨g,4,none⟩=some v4∧w.cell? ⟨g,5,none⟩=some v5∧w.cell? ⟨g,6,none⟩=some v6∧w.cell? ⟨g,7,none⟩=some v7∧w.cell? ⟨g,8,none⟩=some v8:=⟨h.c0,h.c1,h.c2,h.c3,h.c4,h.c5,h.c6,h.c7,h.c8⟩
theorem A3.q10(h:A3 w g (List.toArray (v0::v1::v2::v3::v4::v5::v6::v7::v8::v9::l)) t):w.cell? ⟨g,0,none⟩=some v0∧w.cell? ⟨g,1,none⟩=some v1∧w.cell? ⟨g,2,none⟩=some v2∧w.cell? ⟨g,3,none⟩=some v3∧w.cell? ⟨g,4,none⟩=some v4∧w.cell? ⟨g,5,none⟩=some v5∧w.cell? ⟨g,6,none⟩=some v6∧w.cell? ⟨g,7,none⟩=some v7∧w.cell? ⟨g,8,none⟩=some v8∧w.cell? ⟨g,9,none⟩=some v9:=⟨h.c0,h.c1,h.c2,h.c3,h.c4,h.c5,h.c6,h.c7,h.c8,h.c9⟩
theorem A3.q11(h:A3 w g (List.toArray (v0::v1::v2::v3::v4::v5::v6::v7::v8::v9::v10::l)) t):w.cell? ⟨g,0,none⟩=some v0∧w.cell? ⟨g,1,none⟩=some v1∧w.cell? ⟨g,2,none⟩=some v2∧w.cell? ⟨g,3,none⟩=some v3∧w.cell? ⟨g,4,none⟩=some v4∧w.cell? ⟨g,5,none⟩=some v5∧w.cell? ⟨g,6,none⟩=some v6∧w.cell? ⟨g,7,none⟩=some v7∧w.cell? ⟨g,8,none⟩=some v8∧w.cell? ⟨g,9,none⟩=some v9∧w.cell? ⟨g,10,none⟩=some v10:=⟨h.c0,h.c1,h.c2,h.c3,h.c4,h.c5,h.c6,h.c7,h.c8,h.c9,h.c10⟩
theorem A3.q12(h:A3 w g (List.toArray (v0::v1::v2::v3::v4::v5::v6::v7::v8::v9::v10::v11::l)) t):w.cell? ⟨g,0,none⟩=some v0∧w.cell? ⟨g,1,none⟩=some v1∧w.cell? ⟨g,2,none⟩=some v2∧w.cell? ⟨g,3,none⟩=some v3∧w.cell? ⟨g,4,none⟩=some v4∧w.cell? ⟨g,5,none⟩=some v5∧w.cell? ⟨g,6,none⟩=some v6∧w.cell? ⟨g,7,none⟩=some v7∧w.cell? ⟨g,8,none⟩=some v8∧w.cell? ⟨g,9,none⟩=some v9∧w.cell? ⟨g,10,none⟩=some v10∧w.cell? ⟨g,11,none⟩=some v11:=⟨h.c0,h.c1,h.c2,h.c3,h.c4,h.c5,h.c6,h.c7,h.c8,h.c9,h.c10,h.c11⟩
end
def a0W(f:ByteArray)(k:Nat)(st:St):R ByteArray:=
 if st.at_+k≤f.size then .ok (f.extract st.at_ (st.at_+k),{st with at_:=st.at_+k})else .error (2,f.size)
theorem b1B(w:World)(b:Nat)(f:ByteArray)(pv:Value)(st:St)(n:Nat)(h:Rd w b f pv st)(hn:n≤255):
 Calls prog 221 #[.pointer (some ⟨b,0,none⟩), .int .i64 n] w (E6 w b f pv (a0W f n st) a6k):=by
 have HR:=A0 h;have c0:=h.blk.c0;have c1:=h.blk.c1;have f1:=h.blk.frozen 1;obtain⟨hfits,hat,hused,hpool⟩:=h.inv;clear h;by_cases hc:st.at_+n≤f.size
 ·go_enter func221,ntmps221;go_wp2
  go_quiet (fail)
  go_wp2
  go_quiet (fail)
  go_wp2
  go_ret;refine⟨A1 (K3 _ _ _) (A9 _ ⟨b,1,none⟩ _),?_⟩;rw[a0W,if_pos hc];exact⟨_,rfl,rfl,(HR.out.keep (K3 _ _ _)).setAt (st.at_+n) hc⟩
 ·go_enter func221,ntmps221;go_wp2
  go_quiet (fail)
  go_wp2
  refine⟨rfl,K3 _ _ _,?_⟩;rw[a0W,if_neg hc];rfl
theorem c0z(l:List UInt8)(c:UInt8):Y3 (l++ [c])=Y3 l*256+c.toNat:=by
 simp[Y3,List.foldl_append]
theorem b7n(l:List UInt8):∀a:Nat,l.foldl (fun n c=>n*256+c.toNat) a<(a+1)*256^l.length:=by
 induction l with
 |nil=>intro a;simp
 |cons c l ih=>
  intro a;have h:=ih (a*256+c.toNat);have hc:=c.toNat_lt;simp only[List.foldl_cons,List.length_cons];refine Nat.lt_of_lt_of_le h ?_;rw[Nat.pow_succ,Nat.mul_comm (256^l.length) 256,←Nat.mul_assoc];exact Nat.mul_le_mul_right _ (by omega)
theorem a4e(l:List UInt8):Y3 l<256^l.length:=by
 have:=b7n l 0;simpa[Y3]using this
theorem b4O(s:ByteArray)(k:Nat)(h:k<s.size):s.data.toList.take (k+1)=s.data.toList.take k++ [s.data[k]]:=by
 rw[List.take_succ_eq_append_getElem (by simpa using h)];rfl
theorem c0j(s:ByteArray)(a b:Nat):(s.extract a b).data.toList=(s.data.toList.drop a).take (b-a):=by
 rw[ByteArray.data_extract,Array.toList_extract]
theorem b9t(x c:Nat)(hx:x<2^40)(hc:c<256):bits BinOp.or IntKind.i64 (wrap64 ((x:Int)*256)) (wrap64 (c:Int))=((x*256+c:Nat):Int):=by
 have h1:wrap64 ((x:Int)*256)=((x*256:Nat):Int):=by unfold wrap64;omega
 have h2:wrap64 (c:Int)=(c:Int):=by unfold wrap64;omega
 rw[h1,h2,(bits_nat .i64 62 (by decide) (fun n h0 h1=>by rw[IntKind.wrap_i64];omega) (x*256) c (by omega) (by omega)).2];have:=Nat.two_pow_add_eq_or_of_lt (i:=8) (b:=c) (by omega) x;rw[Nat.mul_comm (2^8) x]at this;exact congrArg _ this.symm
theorem j1(w:World)(b:Nat)(f:ByteArray)(pv:Value)(st:St)(n:Nat)(h:Hid (Rd w b f pv st))(hn:n≤4):
 Calls prog 146 #[.pointer (some ⟨b,0,none⟩), .int .i64 n] w (E6 w b f pv (C1 f n st) c3p):=by
 go_enter func146,ntmps146;go_wp2_with (go_at_call 221;refine(b1B w b f pv st n h (by omega)).mono ?_)
 intro e w1 he;rcases he.cases with⟨s,st1,v,hr,rfl,rfl,hR,hg⟩|⟨er,hr,rfl,hg⟩
 ·clear he;have HH:=A0 hr;clear hr
  have hss:s.size≤4:=by
   have hr:=HH.out;rw[a0W]at hr;split at hr
   ·cases hr;simp;omega
   ·cases hr
  have hcv:=fun wx=>run_bytes_of_string (P:=prog) wx 9 193 5 s underlying9 underlying193 underlying5
  go_wp2
  obtain⟨W,hW⟩:∃W,W=(w1.alloc (Obj.cells (bytesRow s (grownCap w1 s.size 0 5)) 5 ((bytesRow s (grownCap w1 s.size 0 5)).size,(bytesRow s (grownCap w1 s.size 0 5)).size+1))).drew:=⟨_,rfl⟩
  rw[←hW]
  have hcell:∀j (hj:j<s.size),W.cell? ⟨w1.heap.size,j,none⟩=some (.int .u8 (s.data[j].toNat:Int)):=by
   intro j hj;rw[hW,World.cell?_drew,World.cell?_alloc_mark,bytesRow_at s _ j hj]
  have hgW:w1.grownBy W none:=by rw[hW];exact D5 (A2 _ _ _) (B6 _ none) (by simp)
  clear hW hcv;go_loop [5,13] (fun a i=>∃k:Nat,k≤s.size∧i= .int .i64 k∧a= .int .i64 (Y3 (s.data.toList.take k))) (fun _ i=>s.size-(intOf i).toNat)
  case atStart=>exact⟨0,Nat.zero_le _,rfl,rfl⟩
  case round=>
   obtain⟨k,hk,rfl,rfl⟩:=hrel;by_cases hlt:k<s.size
   ·have hck:=hcell k hlt;clear hcell;go_wp2
    have hb:=a4e (s.data.toList.take k);have hl:(s.data.toList.take k).length=k:=by simp;omega
    have hcc:=s.data[k].toNat_lt;rw[hl]at hb;have hp:256^k≤256^4:=Nat.pow_le_pow_right (by omega) (by omega);refine⟨⟨k+1,hlt,by go_num,?_⟩,by simp[intOf];omega⟩;rw[b4O s k hlt,c0z,b9t _ _ (by omega) hcc]
   ·go_wp2
    go_ret;have hk':k=s.size:=by omega
    subst hk';have hr:=HH.out;rw[a0W]at hr;split at hr
    ·rename_i hc;cases hr;refine .ok (a:=Y3 (f.data.toList.drop st.at_|>.take n)) ?_ (K7 hg hgW) ?_ (hR.out.keep hgW)
     ·rw[C1,if_pos hc]
     ·show Value.int .i64 (Y3 (List.take _ (f.extract st.at_ (st.at_+n)).data.toList):Nat)=Value.int .i64 _;rw[c0j,Nat.add_sub_cancel_left,List.take_take];have:(f.extract st.at_ (st.at_+n)).size=n:=by simp;omega
      rw[this,Nat.min_self]
    ·cases hr
 ·go_wp2
  refine⟨rfl, .err (er:=er) ?_ rfl rfl hg⟩;rw[a0W]at hr;split at hr<;>rename_i hc
  ·cases hr
  ·rw[C1,if_neg hc];cases hr;rfl
variable {w w1:World}
variable {b n:Nat}
variable {f:ByteArray}
variable {pv:Value}
variable {st:St}
theorem Rd.cells(h:Rd w b f pv st):Inv f st∧w.ownsRow (b+1) 9 1 pv st.pool.length (st.pool.map Value.string)∧
 w.cell? ⟨b,0,none⟩=some (.string f)∧w.cell? ⟨b,1,none⟩=some (.int .i64 st.at_)∧w.cell? ⟨b,2,none⟩=some pv∧w.cell? ⟨b,3,none⟩=some (.int .i64 st.used)∧
 w.frozen? ⟨b,1,none⟩=false∧w.frozen? ⟨b,2,none⟩=false∧w.frozen? ⟨b,3,none⟩=false:=
 ⟨h.inv,h.own,h.blk.cell 0 _ rfl,h.blk.cell 1 _ rfl,h.blk.cell 2 _ rfl,h.blk.cell 3 _ rfl,h.blk.frozen 1,h.blk.frozen 2,h.blk.frozen 3⟩
theorem b1K{base:Nat}{v:Value}{l:List ByteArray}(h:w.ownsRow base 9 1 v l.length (l.map Value.string)):
 (v= .slice none 0 0∧l=[])∨∃g cap,v= .slice (some ⟨g,0,none⟩) l.length cap∧base≤g∧∀j,j<l.length→w.cell? ⟨g,j,none⟩=some (.string (l.getD j ByteArray.empty)):=by
 rcases h.2 with⟨rfl,hn⟩|⟨g,cap,cur,rfl,hg,hh,_,_,_,ht⟩
 ·exact .inl ⟨rfl,List.eq_nil_of_length_eq_zero hn⟩
 ·refine .inr ⟨g,cap,rfl,hg,fun j hj=> ?_⟩;have:=h.cells (g:=g) rfl j (.string (l.getD j ByteArray.empty)) (by simp[List.getD,hj]);unfold Addr.add at this;split at this
  ·rename_i h0;subst h0;exact this
  ·simpa using this
theorem b9y(hg:w.grownBy w1 (some b))(hR:Rd w1 b f pv {st with at_:=st.at_+1})
 (hn:C1 f 1 st= .ok (n,{st with at_:=st.at_+1})) (hu:n≤st.used) (hp:n<st.pool.length) {m:Int} (hm:m=(max st.used (n+1):Nat)) {v:Value} (hv:v= .string (st.pool[n])):
 E6 w b f pv (name f st) a6k (.returned v) (w1.setCell ⟨b,3,none⟩ (.int .i64 m)):=by
 subst hm;have:=hR.cells.1.used;refine .ok (a:=st.pool[n]) (st:={st with at_:=st.at_+1,used:=max st.used (n+1)}) ?_ (A1 hg (A9 _ ⟨b,3,none⟩ _)) hv (hR.setUsed _ ?_)
 ·rw[name,hn];simp[hu,hp]
 ·simp at this⊢;omega
theorem a4N(w:World)(b:Nat)(f:ByteArray)(pv:Value)(st:St)(h:Hid (Rd w b f pv st)):
 Calls prog 148 #[.pointer (some ⟨b,0,none⟩)] w (E6 w b f pv (name f st) a6k):=by
 obtain⟨-,-,-,c1,-,-,-,-,-⟩:=h.out.cells;go_enter func148,ntmps148;go_wp2_with (go_at_call 146;refine(j1 w b f pv st 1 h (by omega)).mono ?_)
 intro e w1 he;rcases he.cases with⟨n,st1,v,hr,rfl,rfl,hR,hg⟩|⟨er,hr,rfl,hg⟩
 ·clear he c1;have HH:=A0 hr
  have hst:st1={st with at_:=st.at_+1}∧n<256:=by
   rw[C1]at hr;split at hr
   ·cases hr;refine⟨rfl,?_⟩;have:=a4e ((f.data.toList.drop st.at_).take 1);have h2:((f.data.toList.drop st.at_).take 1).length≤1:=by simp;omega
    have:256^((f.data.toList.drop st.at_).take 1).length≤256^1:=Nat.pow_le_pow_right (by omega) h2;omega
   ·cases hr
  clear hr;obtain⟨rfl,hn⟩:=hst;obtain⟨⟨h1,h2,h3,h4⟩,ho,c0,c1,c2,c3,f1,f2,f3⟩:=hR.out.cells;simp only at c1 c2 c3 h2 h3 h4 ho;have hRp:=hR;rcases b1K ho with⟨rfl,hnil⟩|⟨g,cap,rfl,hbg,hcell⟩
  ·clear ho;have HN:=A0 hnil;clear hnil;by_cases hu:n≤st.used
   all_goals
    go_wp2
    refine⟨rfl, .err (er:=(5,st.at_)) ?_ rfl rfl hg⟩;rw[name,HH.out];simp[HN.out]
  ·clear ho;by_cases hu:n≤st.used
   ·by_cases hp:n<st.pool.length
    ·have hc:=hcell n hp;clear hcell;go_wp2
     all_goals
      go_ret;exact b9y hg hR.out HH.out hu hp (by omega) rfl
    ·go_wp2
     refine⟨rfl, .err (er:=(5,st.at_)) ?_ rfl rfl hg⟩;rw[name,HH.out];simp[hp]
   ·go_wp2
    refine⟨rfl, .err (er:=(5,st.at_)) ?_ rfl rfl hg⟩;rw[name,HH.out];simp[hu]
 ·go_wp2
  refine⟨rfl, .err (er:=er) ?_ rfl rfl hg⟩;rw[name,hr]
def b3H(_:World)(v:Value)(t:Ty):Prop:=v= .agg #[.int .i64 t.kind, .string t.name]
def b3D(_:World)(v:Value)(t:T7):Prop:=v= .agg #[.string t.name, .int .i64 t.ty.kind, .string t.ty.name]
def b3I(_:World)(v:Value)(t:In):Prop:=v= .agg #[.int .i64 t.op, .int .i64 t.a, .string t.cls, .string t.mem]
def b3J(_:World)(v:Value)(t:Hd):Prop:=v= .agg #[.int .i64 t.from_, .int .i64 t.to, .int .i64 t.at_, .string t.cls]
theorem b0z(k:Nat)(w:World):
 Calls prog 291 #[.int .i64 k] w fun e w'=>e= .returned (.bool (a0N k))∧w'=w:=by
 go_enter func291,ntmps291;go_wp2
 all_goals
  go_ret;refine⟨?_,rfl⟩;refine congrArg (fun x=>Ending.returned (.bool x)) ?_;simp only[a0N];rw[Bool.eq_iff_iff];simp;omega
theorem a8o(w:World)(b:Nat)(f:ByteArray)(pv:Value)(st:St)(c:Bool)(h:Hid (Rd w b f pv st)):
 Calls prog 293 #[.pointer (some ⟨b,0,none⟩), .bool c] w (E6 w b f pv (P5 f c st) a6k):=by
 cases c
 ·go_enter func293,ntmps293;go_wp2
  go_ret;exact .ok (a:=ByteArray.empty) (by rw[P5];rfl) (I8 _ _) rfl h.out
 ·go_enter func293,ntmps293;go_wp2_with (go_at_call 148;refine(a4N w b f pv st h).mono ?_)
  intro e w1 he;rcases he.cases with⟨n,st1,v,hr,rfl,rfl,hR,hg⟩|⟨er,hr,rfl,hg⟩
  ·go_wp2
   go_ret;exact .ok (by rw[P5];exact hr) hg rfl hR.out
  ·go_wp2
   exact⟨rfl, .err (er:=er) (by rw[P5];exact hr) rfl rfl hg⟩
theorem X4{k:Nat}{st1:St}(h:C1 f k st= .ok (n,st1)):st1={st with at_:=st.at_+k}∧n<256^k:=by
 rw[C1]at h;split at h
 ·cases h;refine⟨rfl,?_⟩;have:=a4e ((f.data.toList.drop st.at_).take k);have h2:((f.data.toList.drop st.at_).take k).length≤k:=by simp;omega
  have:256^((f.data.toList.drop st.at_).take k).length≤256^k:=Nat.pow_le_pow_right (by omega) h2;omega
 ·cases h
theorem a4O(w:World)(b:Nat)(f:ByteArray)(pv:Value)(st:St)(h:Hid (Rd w b f pv st)):
 Calls prog 223 #[.pointer (some ⟨b,0,none⟩)] w (E6 w b f pv (kind f st) b3H):=by
 obtain⟨-,-,-,c1,-,-,-,-,-⟩:=h.out.cells;have hbl:=h.out.lt;go_enter func223,ntmps223;go_wp2_with (go_at_call 146;refine(j1 _ b f pv st 1 (h.out.keep (A2 _ _ _)) (by omega)).mono ?_)
 intro e w1 he;rcases he.cases with⟨n,st1,v,hr,rfl,rfl,hR,hg⟩|⟨er,hr,rfl,hg⟩
 ·have hq:=X4 hr;have HH:=A0 hr;clear hr he c1;obtain⟨rfl,hn⟩:=hq;by_cases h4:4<n
  ·go_wp2
   refine⟨rfl, .err (er:=(3,st.at_)) ?_ rfl rfl (A1 (A2 _ _ _) hg)⟩;rw[kind,HH.out];simp[h4]
  ·go_wp2_with (first|(go_at_call 291;refine(b0z n _).mono ?_;rintro e w' ⟨rfl,rfl⟩)|(go_at_call 293;refine(a8o _ b f pv _ _ hR).mono ?_))
   intro e w2 he;rcases he.cases with⟨s,st2,v,hr,rfl,rfl,hR2,hg2⟩|⟨er,hr,rfl,hg2⟩
   ·have HH2:=A0 hr;clear hr he;have hB:A3 w2 w.heap.size _ _:=((A3.new w _ _).keep hg (by simp;omega)).keep hg2 (by simp;omega);obtain⟨d0,d1⟩:=hB.q2;obtain⟨e0,e1⟩:=hB.z2;clear hB;go_wp2
    refine bodyPost_ret (v:= .agg #[.int .i64 n, .string s]) (by simp[results,results223,go_sem,d0,d1]) rfl ?_;refine .ok (a:=⟨n,s⟩) (st:=st2) ?_ ?_ rfl ?_
    ·rw[kind,HH.out];simp only[h4,if_false,HH2.out]
    ·exact b2M (A1 (A1 (A2 _ _ _) hg) hg2) (Nat.le_refl _)
    ·exact hR2.out.new2 (by omega) (h.out.poolLt (Nat.le_refl _))
   ·go_wp2
    refine⟨rfl, .err (er:=er) ?_ rfl rfl (A1 (A1 (A2 _ _ _) hg) hg2)⟩;rw[kind,HH.out];simp only[h4,if_false,hr]
 ·go_wp2
  refine⟨rfl, .err (er:=er) ?_ rfl rfl (A1 (A2 _ _ _) hg)⟩;rw[kind,hr]
theorem a8I(w:World)(b:Nat)(f:ByteArray)(pv:Value)(st:St)(h:Hid (Rd w b f pv st)):
 Calls prog 150 #[.pointer (some ⟨b,0,none⟩)] w (E6 w b f pv (Z7 f st) b3D):=by
 have hbl:=h.out.lt;go_enter func150,ntmps150;go_wp2_with (go_at_call 148;refine(a4N _ b f pv st (h.out.keep (A2 _ _ _))).mono ?_)
 intro e w1 he;rcases he.cases with⟨n,st1,v,hr,rfl,rfl,hR,hg⟩|⟨er,hr,rfl,hg⟩
 ·have HH:=A0 hr;clear hr he;go_wp2_with (go_at_call 223;refine(a4O _ b f pv st1 hR).mono ?_)
  intro e w2 he;rcases he.cases with⟨t,st2,v,hr,rfl,rfl,hR2,hg2⟩|⟨er,hr,rfl,hg2⟩
  ·have HH2:=A0 hr;clear hr he;have hB:A3 w2 w.heap.size _ _:=((A3.new w _ _).keep hg (by simp;omega)).keep hg2 (by simp;omega);obtain⟨d0,d1,d2⟩:=hB.q3;obtain⟨e0,e1,e2⟩:=hB.z3;clear hB;go_wp2
   refine bodyPost_ret (v:= .agg #[.string n, .int .i64 t.kind, .string t.name]) (by simp[results,results150,go_sem,d0,d1,d2]) rfl ?_;refine .ok (a:=⟨n,t⟩) (st:=st2) ?_ ?_ rfl ?_
   ·rw[Z7,HH.out];simp only[HH2.out]
   ·exact a4a (A1 (A1 (A2 _ _ _) hg) hg2) (Nat.le_refl _)
   ·exact hR2.out.new3 (by omega) (h.out.poolLt (Nat.le_refl _))
  ·go_wp2
   refine⟨rfl, .err (er:=er) ?_ rfl rfl (A1 (A1 (A2 _ _ _) hg) hg2)⟩;rw[Z7,HH.out];simp only[hr]
 ·go_wp2
  refine⟨rfl, .err (er:=er) ?_ rfl rfl (A1 (A2 _ _ _) hg)⟩;rw[Z7,hr]
theorem b5U(w:World)(b:Nat)(f:ByteArray)(pv:Value)(st:St)(h:Hid (Rd w b f pv st)):
 Calls prog 228 #[.pointer (some ⟨b,0,none⟩)] w (E6 w b f pv (X2 f st) b3J):=by
 have hbl:=h.out.lt;go_enter func228,ntmps228;go_wp2_with (go_at_call 146;refine(j1 _ b f pv st 2 (h.out.keep (A2 _ _ _)) (by omega)).mono ?_)
 intro e w1 he;rcases he.cases with⟨n1,st1,v,hr,rfl,rfl,hR,hg⟩|⟨er,hr,rfl,hg⟩
 ·have HH:=A0 hr;clear hr he;go_wp2_with (go_at_call 146;refine(j1 w1 b f pv st1 2 hR (by omega)).mono ?_)
  intro e w2 he;rcases he.cases with⟨n2,st2,v,hr,rfl,rfl,hR2,hg2⟩|⟨er,hr,rfl,hg2⟩
  ·have HH2:=A0 hr;clear hr he;go_wp2_with (go_at_call 146;refine(j1 w2 b f pv st2 2 hR2 (by omega)).mono ?_)
   intro e w3 he;rcases he.cases with⟨n3,st3,v,hr,rfl,rfl,hR3,hg3⟩|⟨er,hr,rfl,hg3⟩
   ·have HH3:=A0 hr;clear hr he;go_wp2_with (go_at_call 148;refine(a4N w3 b f pv st3 hR3).mono ?_)
    intro e w4 he;rcases he.cases with⟨n4,st4,v,hr,rfl,rfl,hR4,hg4⟩|⟨er,hr,rfl,hg4⟩
    ·have HH4:=A0 hr;clear hr he;have hB:A3 w4 w.heap.size _ _:=((((A3.new w _ _).keep hg (by simp;omega)).keep hg2 (by simp;omega)).keep hg3 (by simp;omega)).keep hg4 (by simp;omega);obtain⟨d0,d1,d2,d3⟩:=hB.q4;obtain⟨e0,e1,e2,e3⟩:=hB.z4;clear hB;go_wp2
     refine bodyPost_ret (v:= .agg #[.int .i64 n1, .int .i64 n2, .int .i64 n3, .string n4]) (by simp[results,results228,go_sem,d0,d1,d2,d3]) rfl ?_;refine .ok (a:=⟨n1,n2,n3,n4⟩) (st:=st4) ?_ ?_ rfl ?_
     ·rw[X2,HH.out];simp only[HH2.out,HH3.out,HH4.out]
     ·exact a3q (A1 (A1 (A1 (A1 (A2 _ _ _) hg) hg2) hg3) hg4) (Nat.le_refl _)
     ·exact hR4.out.new4 (by omega) (h.out.poolLt (Nat.le_refl _))
    ·go_wp2
     refine⟨rfl, .err (er:=er) ?_ rfl rfl (A1 (A1 (A1 (A1 (A2 _ _ _) hg) hg2) hg3) hg4)⟩;rw[X2,HH.out];simp only[HH2.out,HH3.out,hr]
   ·go_wp2
    refine⟨rfl, .err (er:=er) ?_ rfl rfl (A1 (A1 (A1 (A2 _ _ _) hg) hg2) hg3)⟩;rw[X2,HH.out];simp only[HH2.out,hr]
  ·go_wp2
   refine⟨rfl, .err (er:=er) ?_ rfl rfl (A1 (A1 (A2 _ _ _) hg) hg2)⟩;rw[X2,HH.out];simp only[hr]
 ·go_wp2
  refine⟨rfl, .err (er:=er) ?_ rfl rfl (A1 (A2 _ _ _) hg)⟩;rw[X2,hr]
def O4(w:World):Prop:=2<w.heap.size∧∀op,op<32→w.cell? ⟨2,op*3,none⟩=some (.int .i64 (F3 op))∧w.cell? ⟨2,op*3+1,none⟩=some (.bool (Y5 op))∧w.cell? ⟨2,op*3+2,none⟩=some (.bool (Z4 op))
theorem O4.keep{row:Option Nat}(h:O4 w)(hg:w.grownBy w1 row)(hr:some 2≠row):O4 w1:=by
 have h0:=hg.block 2 h.1 hr;refine⟨Nat.lt_of_lt_of_le h.1 hg.size,fun op ho=> ?_⟩;have:=h.2 op ho;simp only[World.cell?,h0]at this⊢;exact this
theorem b8Y(op:Nat):F3 op≤4:=by unfold F3;split;omega;split;omega;split<;>omega
def a1J(f:ByteArray)(k:Nat)(st:St):R Int:=match C1 f k st with| .ok (n,st1)=> .ok (P4 k n,st1)| .error er=> .error er
def c2v(_:World)(v:Value)(a:Int):Prop:=v= .int .i64 a
theorem b5i(n:Nat)(h:n<256^4):wrap64 (wrap32 n)=P4 4 n:=by
 unfold wrap64 wrap32 P4;split<;>omega
theorem b5F(w:World)(b:Nat)(f:ByteArray)(pv:Value)(st:St)(k:Nat)(h:Hid (Rd w b f pv st))(hk:k≤4):
 Calls prog 294 #[.pointer (some ⟨b,0,none⟩), .int .i64 k] w
  (E6 w b f pv (a1J f k st) c2v):=by
 go_enter func294,ntmps294;go_wp2_with (go_at_call 146;refine(j1 _ b f pv st k h hk).mono ?_)
 intro e w1 he;rcases he.cases with⟨n,st1,v,hr,rfl,rfl,hR,hg⟩|⟨er,hr,rfl,hg⟩
 ·have hq:=(X4 hr).2;have HH:=A0 hr;clear hr he;by_cases h4:k=4
  ·subst h4;go_wp2
   go_ret;refine .ok (a:=P4 4 n) ?_ hg (congrArg _ (b5i n hq)) hR.out;rw[a1J,HH.out]
  ·go_wp2
   go_ret;refine .ok (a:=(n:Int)) ?_ hg rfl hR.out;rw[a1J,HH.out];simp[P4,h4]
 ·go_wp2
  refine⟨rfl, .err (er:=er) ?_ rfl rfl hg⟩;rw[a1J,hr]
section
variable{f:ByteArray}{st st1 st2 st3 st4:St}{op:Nat}{va:Int}{vc vm:ByteArray}{er:Er}
theorem c2A(h1:C1 f 1 st= .ok (op,st1))(h4:¬32≤op)(h:a1J f (F3 op) st1= .error er):S4 f st= .error er:=by
 rw[a1J]at h;rw[S4,h1];simp only[h4,if_false];split at h
 ·cases h
 ·rename_i h5;simp only[h5];cases h;rfl
theorem a9s(h:a1J f (F3 op) st1= .ok (va,st2)):∃n,C1 f (F3 op) st1= .ok (n,st2)∧va=P4 (F3 op) n:=by
 rw[a1J]at h;split at h
 ·rename_i n s h5;cases h;exact⟨n,h5,rfl⟩
 ·cases h
theorem c2z(h1:C1 f 1 st= .ok (op,st1))(h4:¬32≤op)(h2:a1J f (F3 op) st1= .ok (va,st2))(h:P5 f (Y5 op) st2= .error er):S4 f st= .error er:=by
 obtain⟨n,hn,rfl⟩:=a9s h2;rw[S4,h1];simp only[h4,if_false,hn,h]
theorem c2y(h1:C1 f 1 st= .ok (op,st1))(h4:¬32≤op)(h2:a1J f (F3 op) st1= .ok (va,st2))(h3:P5 f (Y5 op) st2= .ok (vc,st3))(h:P5 f (Z4 op) st3= .error er):S4 f st= .error er:=by
 obtain⟨n,hn,rfl⟩:=a9s h2;rw[S4,h1];simp only[h4,if_false,hn,h3,h]
theorem c2w(h1:C1 f 1 st= .ok (op,st1))(h4:¬32≤op)(h2:a1J f (F3 op) st1= .ok (va,st2))(h3:P5 f (Y5 op) st2= .ok (vc,st3))(h:P5 f (Z4 op) st3= .ok (vm,st4)):
 S4 f st= .ok (⟨op,va,vc,vm⟩,st4):=by
 obtain⟨n,hn,rfl⟩:=a9s h2;rw[S4,h1];simp only[h4,if_false,hn,h3,h]
end
theorem b4o(w:World)(b:Nat)(f:ByteArray)(pv:Value)(st:St)(h:Hid (Rd w b f pv st))(hS:Hid (O4 w))(hb0:2<b):
 Calls prog 226 #[.pointer (some ⟨b,0,none⟩)] w (E6 w b f pv (S4 f st) b3I):=by
 obtain⟨-,-,-,c1,-,-,-,-,-⟩:=h.out.cells;have hbl:=h.out.lt;go_enter func226,ntmps226;go_wp2_with (go_at_call 146;refine(j1 _ b f pv st 1 (h.out.keep (A2 _ _ _)) (by omega)).mono ?_)
 intro e w1 he;rcases he.cases with⟨op,st1,v,hr,rfl,rfl,hR,hg⟩|⟨er,hr,rfl,hg⟩
 ·have hq:=X4 hr;have HH:=A0 hr;clear hr he c1;obtain⟨rfl,hn⟩:=hq;by_cases h4:32≤op
  ·go_wp2
   refine⟨rfl, .err (er:=(3,st.at_)) ?_ rfl rfl (A1 (A2 _ _ _) hg)⟩;rw[S4,HH.out];simp[h4]
  ·have hS1:=(hS.out.keep (A2 w _ none) (by simp)).keep hg (by simp;omega);obtain⟨s0,s1,s2⟩:=hS1.2 op (by omega);go_wp2
   obtain⟨wa,hwa⟩:∃wa,wa=(w1.alloc (Obj.cells #[Value.int IntKind.i64 (F3 op),Value.bool (Y5 op),Value.bool (Z4 op)] 382)).drew:=⟨_,rfl⟩
   have hga:w1.grownBy wa none:=by rw[hwa];exact A1 (A2 _ _ _) (B6 _ _)
   have hRa:=A0 (hR.out.keep hga);have hB:A3 wa w.heap.size _ _:=((A3.new w _ _).keep hg (by simp;omega)).keep hga (by simp);have hA:A3 wa w1.heap.size #[Value.int IntKind.i64 (F3 op),Value.bool (Y5 op),Value.bool (Z4 op)] 382:=by rw[hwa];exact(A3.new w1 _ _).keep (B6 _ none) (by simp)
   have hlt1:w.heap.size<w1.heap.size:=by have:=hg.size;simp at this;omega
   have hne1:w.heap.size≠w1.heap.size:=by omega
   have hb1:=hR.out.lt;rw[hwa]at hRa;have hg0:=K7 (A1 (A2 _ _ _) hg) hga;rw[hwa]at hg0 hB hA;clear hga hwa s0 s1 s2 hS1
   go_region_held2 (fun w'=>w'.cell? ⟨w1.heap.size,0,none⟩=some (.int .i64 (F3 op))∧w'.cell? ⟨w1.heap.size,1,none⟩=some (.bool (Y5 op))∧w'.cell? ⟨w1.heap.size,2,none⟩=some (.bool (Z4 op))) (go_keep)
    (first
      |(go_at_call 294
        refine E6.bind (b5F _ b f pv _ _ hRa (b8Y op)) (fun er w' hr hg2=>⟨rfl, .err (er:=er) (c2A HH.out h4 hr) rfl rfl (A1 hg0 hg2)⟩) ?_;rintro va st2 v w2 HH2 rfl hR2 hg2;have hB2:A3 w2 w.heap.size _ _:=hB.keep hg2 (by simp;omega);have hA2:A3 w2 w1.heap.size _ _:=hA.keep hg2 (by simp;omega);obtain⟨d0,d1,d2⟩:=hA2.q3;have hg0':=A1 hg0 hg2;clear hB hA hRa hg0 hg2)
      |(go_at_call_of 293 (Y5 op)
        refine E6.bind (a8o w2 b f pv _ _ hR2) (fun er w' hr hg2=>⟨rfl, .err (er:=er) (c2z HH.out h4 HH2.out hr) rfl rfl (A1 hg0' hg2)⟩) ?_;rintro vc st3 v w3 HH3 rfl hR3 hg3;have hB3:A3 w3 w.heap.size _ _:=hB2.keep hg3 (by simp;omega);have hA3:A3 w3 w1.heap.size _ _:=hA2.keep hg3 (by simp;omega);clear d0 d1 d2;obtain⟨d0,d1,d2⟩:=hA3.q3;have hg1':=A1 hg0' hg3;clear hB2 hA2 hR2 hg0' hg3)
      |(go_at_call_of 293 (Z4 op)
        refine E6.bind (a8o w3 b f pv _ _ hR3) (fun er w' hr hg2=>⟨rfl, .err (er:=er) (c2y HH.out h4 HH2.out HH3.out hr) rfl rfl (A1 hg1' hg2)⟩) ?_;rintro vm st4 v w4 HH4 rfl hR4 hg4;have hB4:A3 w4 w.heap.size _ _:=hB3.keep hg4 (by simp;omega);have hA4:A3 w4 w1.heap.size _ _:=hA3.keep hg4 (by simp;omega);clear d0 d1 d2;obtain⟨d0,d1,d2⟩:=hA4.q3;obtain⟨g0,g1,g2,g3⟩:=hB4.q4;obtain⟨e0,e1,e2,e3⟩:=hB4.z4;have hg2':=A1 hg1' hg4;clear hB3 hA3 hR3 hg1' hg4))
   go_wp2
   refine bodyPost_ret (v:= .agg #[.int .i64 op, .int .i64 va, .string vc, .string vm]) (by simp[results,results226,go_sem,g0,g1,g2,g3]) rfl ?_;exact .ok (a:=⟨op,va,vc,vm⟩) (st:=st4) (c2w HH.out h4 HH2.out HH3.out HH4.out) (a3q hg2' (Nat.le_refl _)) rfl (hR4.out.new4 (by omega) (h.out.poolLt (Nat.le_refl _)))
 ·go_wp2
  refine⟨rfl, .err (er:=er) ?_ rfl rfl (A1 (A2 _ _ _) hg)⟩;rw[S4,hr]
def C9(t:Ty):List Value:=[.int .i64 t.kind, .string t.name]
def H8(t:T7):List Value:=[.string t.name, .int .i64 t.ty.kind, .string t.ty.name]
def T3(t:In):List Value:=[.int .i64 t.op, .int .i64 t.a, .string t.cls, .string t.mem]
def T4(t:Hd):List Value:=[.int .i64 t.from_, .int .i64 t.to, .int .i64 t.at_, .string t.cls]
variable {α:Type}
def K8(base e size:Nat)(enc:α→List Value)(w:World)(v:Value)(xs:List α):Prop:=w.ownsRow base e size v xs.length (xs.flatMap enc)
def Mid(p:St→R α)(n:Nat)(st0:St)(k:Nat)(xs:List α)(st:St):Prop:=
 k≤n∧xs.length=k∧C8 p n st0=match C8 p (n-k) st with| .ok (ys,st2)=> .ok (xs++ys,st2)| .error er=> .error er
theorem Mid.start(p:St→R α)(n:Nat)(st0:St):Mid p n st0 0 [] st0:=by
 refine⟨Nat.zero_le _,rfl,?_⟩;rw[Nat.sub_zero];cases h:C8 p n st0<;>simp
variable {b1 b2 base' e g k n size:Nat}
variable {st st0:St}
theorem Mid.step{p:St→R α}{xs:List α}{st1:St}{a:α}(h:Mid p n st0 k xs st)(hk:k<n)(ha:p st= .ok (a,st1)):Mid p n st0 (k+1) (xs++ [a]) st1:=by
 obtain⟨h1,h2,h3⟩:=h;refine⟨hk,by simp[h2],?_⟩;rw[h3,show n-k=(n-(k+1))+1 by omega,C8,ha];dsimp only;generalize C8 p (n-(k+1)) st1=r;cases r<;>simp
theorem Mid.fail{p:St→R α}{xs:List α}{er:Er}(h:Mid p n st0 k xs st)(hk:k<n)(ha:p st= .error er):C8 p n st0= .error er:=by
 obtain⟨h1,h2,h3⟩:=h;rw[h3,show n-k=(n-(k+1))+1 by omega,C8,ha]
theorem Mid.done{p:St→R α}{xs:List α}(h:Mid p n st0 n xs st):C8 p n st0= .ok (xs,st):=by
 obtain⟨h1,h2,h3⟩:=h;rw[h3,Nat.sub_self,C8];simp
variable {w w':World}
variable {v:Value}
variable {c cs:List Value}
theorem K0{base b:Nat}(h:w.ownsRow base e size v n cs)(hb:b<base):v.ownBlock≠some b:=by
 cases hv:v.ownBlock with
 |none=>simp
 |some g=>have:=(h.lt g hv).1;simp;omega
theorem Y4{base:Nat}(h:w.ownsRow base e size v n cs)(hg:v.ownBlock=some g):base≤g∧g<w.heap.size:=h.lt g hg
theorem S6(w:World)(cs:List Value)(t:TypeId):∀j u,cs[j]? =some u→(w.alloc (.cells cs.toArray t)).cell? ((⟨w.heap.size,0,none⟩:Addr).add j)=some u:=by
 intro j u hu;have hadd:(⟨w.heap.size,0,none⟩:Addr).add j=⟨w.heap.size,j,none⟩:=by unfold Addr.add;split<;>simp_all
 rw[hadd,(A3.new w cs.toArray t).cell j u (by simpa using hu)]
theorem a5E(h:n=k)(hk:k<65536):n+1≤maxLen:=by unfold maxLen;omega
theorem a7a(enc:α→List Value)(xs:List α)(x:α):xs.flatMap enc++enc x=(xs++ [x]).flatMap enc:=by simp[List.flatMap_append]
theorem a5S:(prog.info? 98).map (fun i=>(i.zero,i.size,i.bytes))=some (some (.agg #[.int .i64 0, .string ByteArray.empty]),2,24):=by kernel_rfl
theorem b9T:(prog.info? 129).map (fun i=>(i.zero,i.size,i.bytes))=some (some (.agg #[.string ByteArray.empty, .int .i64 0, .string ByteArray.empty]),3,40):=by kernel_rfl
theorem c1q:(prog.info? 120).map (fun i=>(i.zero,i.size,i.bytes))=some (some (.agg #[.int .i64 0, .int .i64 0, .string ByteArray.empty, .string ByteArray.empty]),4,48):=by kernel_rfl
theorem c1r:(prog.info? 202).map (fun i=>(i.zero,i.size,i.bytes))=some (some (.agg #[.int .i64 0, .int .i64 0, .int .i64 0, .string ByteArray.empty]),4,40):=by kernel_rfl
theorem c1p:(prog.info? 102).map (fun i=>(i.zero,i.size,i.bytes))=some (some (.agg #[.string ByteArray.empty, .slice none 0 0, .int .i64 0, .string ByteArray.empty, .int .i64 0, .int .i64 0, .slice none 0 0, .slice none 0 0]),8,128):=by kernel_rfl
theorem b9S:(prog.info? 9).map (fun i=>(i.zero,i.size,i.bytes))=some (some (.string ByteArray.empty),1,16):=by kernel_rfl
theorem b4V(w:World)(b:Nat)(f:ByteArray)(pv:Value)(st:St)(d:Nat)(h:Hid (Rd w b f pv st))(hd:d≤2)
 (HEL:Hid (∀w1 st1,w.grownBy w1 (some b)→Hid (Rd w1 b f pv st1)→Calls prog 150 #[.pointer (some ⟨b,0,none⟩)] w1 (E6 w1 b f pv (Z7 f st1) b3D))):
 Calls prog 149 #[.pointer (some ⟨b,0,none⟩), .int .i64 d, .func (.func 150) #[.pointer (some ⟨b,0,none⟩)] #[]] w (E6 w b f pv (E5 f d (Z7 f) st) (K8 w.heap.size 129 3 H8)):=by
 go_enter func149,ntmps149;go_wp2_with (go_at_call 146;refine E6.bind (j1 _ b f pv st d h (by omega)) (fun er w' hr hg=>⟨rfl, .err (er:=er) (by rw[E5,hr]) rfl rfl hg⟩) ?_;rintro n st1 v w1 HH rfl hR hg)
 have hn:n<65536:=by
  exact a5n
 go_loopw [7,11] (fun l i wr=>∃(k:Nat) (xs:List T7) (st2:St),i= .int .i64 k∧Mid (Z7 f) n st1 k xs st2∧K8 w.heap.size 129 3 H8 wr l xs∧Rd wr b f pv st2∧w.grownBy wr (some b)) (fun _ i _=>n-(intOf i).toNat)
 case atStart=>exact c5h
 case round=>
  obtain⟨k,xs,st2,rfl,hmid,hrow,hR2,hg2⟩:=hrel;have HM:=A0 hmid;have HR2:=A0 hR2;have HROW:Hid (K8 w.heap.size 129 3 H8 wr _ xs):=hrow;clear hmid hR2 hrow;by_cases hk:k<n
  ·obtain⟨i,hi,hz0,hz1,hz2⟩:=info_parts b9T;have hne:=K0 HROW.out h.out.lt;have hlen:xs.length<65536:=by have:=HM.out.2.1;omega
   go_wp2_with (first
    |(go_at_call 150;refine E6.bind (HEL.out wr st2 hg2 HR2) (fun er w' hr hg3=>⟨rfl, .err (er:=er) (by rw[E5,HH.out];exact HM.out.fail hk hr) rfl rfl (A1 hg2 hg3)⟩) ?_;rintro x st3 v w3 H3 rfl hR3 hg3;dsimp only)
    |(at_builtin;go_loud (refine wpList_append_own _ rfl _ _ 41 rfl w.heap.size 129 i _ 3 40 underlying41 hi hz0 hz1 hz2 rfl (by decide) _ xs.length (xs.flatMap H8) rfl ((World.ownsRow.kept HROW.out hg3 (.inr hne)).alloc _) ⟨w3.heap.size,0,none⟩ 1 1 (H8 x) rfl rfl (S6 w3 (H8 x) _) (by simp[H8,Value.oneCell']) (a5E rfl hlen) (by omega) (by have:=hg2.size;have:=hg3.size;simp;omega) ?_)))
   intro v' w4 hown hgrow _;have hR4:=hR3.out.grow (A2 _ _ _) hgrow (by simpa using hne) (fun g hg=>by have:=(Y4 HROW.out hg).1;have:=h.out.poolLt this;exact this);have hg4:=D5 (A1 (A1 hg2 hg3) (A2 _ _ _)) hgrow (fun g hg=> .inl (Y4 HROW.out hg).1);have HM4:=A0 (HM.out.step hk H3.out)
   have HO4:Hid (K8 w.heap.size 129 3 H8 w4 v' (xs++ [x])):=by
    exact c6f
   clear hown hgrow;go_wp2
   go_roundw
   case rel=>exact c5a
   case measure=>simp[intOf];omega
  ·exact a1x
theorem b5L(w:World)(b:Nat)(f:ByteArray)(pv:Value)(st:St)(d:Nat)(h:Hid (Rd w b f pv st))(hd:d≤2)
 (HEL:Hid (∀w1 st1,w.grownBy w1 (some b)→Hid (Rd w1 b f pv st1)→Calls prog 223 #[.pointer (some ⟨b,0,none⟩)] w1 (E6 w1 b f pv (kind f st1) b3H))):
 Calls prog 224 #[.pointer (some ⟨b,0,none⟩), .int .i64 d, .func (.func 223) #[.pointer (some ⟨b,0,none⟩)] #[]] w (E6 w b f pv (E5 f d (kind f) st) (K8 w.heap.size 98 2 C9)):=by
 go_enter func224,ntmps224;go_wp2_with (go_at_call 146;refine E6.bind (j1 _ b f pv st d h (by omega)) (fun er w' hr hg=>⟨rfl, .err (er:=er) (by rw[E5,hr]) rfl rfl hg⟩) ?_;rintro n st1 v w1 HH rfl hR hg)
 have hn:n<65536:=by
  exact a5n
 go_loopw [7,11] (fun l i wr=>∃(k:Nat) (xs:List Ty) (st2:St),i= .int .i64 k∧Mid (kind f) n st1 k xs st2∧K8 w.heap.size 98 2 C9 wr l xs∧Rd wr b f pv st2∧w.grownBy wr (some b)) (fun _ i _=>n-(intOf i).toNat)
 case atStart=>exact c5h
 case round=>
  obtain⟨k,xs,st2,rfl,hmid,hrow,hR2,hg2⟩:=hrel;have HM:=A0 hmid;have HR2:=A0 hR2;have HROW:Hid (K8 w.heap.size 98 2 C9 wr _ xs):=hrow;clear hmid hR2 hrow;by_cases hk:k<n
  ·obtain⟨i,hi,hz0,hz1,hz2⟩:=info_parts a5S;have hne:=K0 HROW.out h.out.lt;have hlen:xs.length<65536:=by have:=HM.out.2.1;omega
   go_wp2_with (first
    |(go_at_call 223;refine E6.bind (HEL.out wr st2 hg2 HR2) (fun er w' hr hg3=>⟨rfl, .err (er:=er) (by rw[E5,HH.out];exact HM.out.fail hk hr) rfl rfl (A1 hg2 hg3)⟩) ?_;rintro x st3 v w3 H3 rfl hR3 hg3;dsimp only)
    |(at_builtin;go_loud (refine wpList_append_own _ rfl _ _ 96 rfl w.heap.size 98 i _ 2 24 underlying96 hi hz0 hz1 hz2 rfl (by decide) _ xs.length (xs.flatMap C9) rfl ((World.ownsRow.kept HROW.out hg3 (.inr hne)).alloc _) ⟨w3.heap.size,0,none⟩ 1 1 (C9 x) rfl rfl (S6 w3 (C9 x) _) (by simp[C9,Value.oneCell']) (a5E rfl hlen) (by omega) (by have:=hg2.size;have:=hg3.size;simp;omega) ?_)))
   intro v' w4 hown hgrow _;have hR4:=hR3.out.grow (A2 _ _ _) hgrow (by simpa using hne) (fun g hg=>by have:=(Y4 HROW.out hg).1;have:=h.out.poolLt this;exact this);have hg4:=D5 (A1 (A1 hg2 hg3) (A2 _ _ _)) hgrow (fun g hg=> .inl (Y4 HROW.out hg).1);have HM4:=A0 (HM.out.step hk H3.out)
   have HO4:Hid (K8 w.heap.size 98 2 C9 w4 v' (xs++ [x])):=by
    exact c6f
   clear hown hgrow;go_wp2
   go_roundw
   case rel=>exact c5a
   case measure=>simp[intOf];omega
  ·exact a1x
theorem b5N(w:World)(b:Nat)(f:ByteArray)(pv:Value)(st:St)(d:Nat)(h:Hid (Rd w b f pv st))(hd:d≤2)
 (HEL:Hid (∀w1 st1,w.grownBy w1 (some b)→Hid (Rd w1 b f pv st1)→Calls prog 226 #[.pointer (some ⟨b,0,none⟩)] w1 (E6 w1 b f pv (S4 f st1) b3I))):
 Calls prog 225 #[.pointer (some ⟨b,0,none⟩), .int .i64 d, .func (.func 226) #[.pointer (some ⟨b,0,none⟩)] #[]] w (E6 w b f pv (E5 f d (S4 f) st) (K8 w.heap.size 120 4 T3)):=by
 go_enter func225,ntmps225;go_wp2_with (go_at_call 146;refine E6.bind (j1 _ b f pv st d h (by omega)) (fun er w' hr hg=>⟨rfl, .err (er:=er) (by rw[E5,hr]) rfl rfl hg⟩) ?_;rintro n st1 v w1 HH rfl hR hg)
 have hn:n<65536:=by
  exact a5n
 go_loopw [7,11] (fun l i wr=>∃(k:Nat) (xs:List In) (st2:St),i= .int .i64 k∧Mid (S4 f) n st1 k xs st2∧K8 w.heap.size 120 4 T3 wr l xs∧Rd wr b f pv st2∧w.grownBy wr (some b)) (fun _ i _=>n-(intOf i).toNat)
 case atStart=>exact c5h
 case round=>
  obtain⟨k,xs,st2,rfl,hmid,hrow,hR2,hg2⟩:=hrel;have HM:=A0 hmid;have HR2:=A0 hR2;have HROW:Hid (K8 w.heap.size 120 4 T3 wr _ xs):=hrow;clear hmid hR2 hrow;by_cases hk:k<n
  ·obtain⟨i,hi,hz0,hz1,hz2⟩:=info_parts c1q;have hne:=K0 HROW.out h.out.lt;have hlen:xs.length<65536:=by have:=HM.out.2.1;omega
   go_wp2_with (first
    |(go_at_call 226;refine E6.bind (HEL.out wr st2 hg2 HR2) (fun er w' hr hg3=>⟨rfl, .err (er:=er) (by rw[E5,HH.out];exact HM.out.fail hk hr) rfl rfl (A1 hg2 hg3)⟩) ?_;rintro x st3 v w3 H3 rfl hR3 hg3;dsimp only)
    |(at_builtin;go_loud (refine wpList_append_own _ rfl _ _ 99 rfl w.heap.size 120 i _ 4 48 underlying99 hi hz0 hz1 hz2 rfl (by decide) _ xs.length (xs.flatMap T3) rfl ((World.ownsRow.kept HROW.out hg3 (.inr hne)).alloc _) ⟨w3.heap.size,0,none⟩ 1 1 (T3 x) rfl rfl (S6 w3 (T3 x) _) (by simp[T3,Value.oneCell']) (a5E rfl hlen) (by omega) (by have:=hg2.size;have:=hg3.size;simp;omega) ?_)))
   intro v' w4 hown hgrow _;have hR4:=hR3.out.grow (A2 _ _ _) hgrow (by simpa using hne) (fun g hg=>by have:=(Y4 HROW.out hg).1;have:=h.out.poolLt this;exact this);have hg4:=D5 (A1 (A1 hg2 hg3) (A2 _ _ _)) hgrow (fun g hg=> .inl (Y4 HROW.out hg).1);have HM4:=A0 (HM.out.step hk H3.out)
   have HO4:Hid (K8 w.heap.size 120 4 T3 w4 v' (xs++ [x])):=by
    exact c6f
   clear hown hgrow;go_wp2
   go_roundw
   case rel=>exact c5a
   case measure=>simp[intOf];omega
  ·exact a1x
theorem b5O(w:World)(b:Nat)(f:ByteArray)(pv:Value)(st:St)(d:Nat)(h:Hid (Rd w b f pv st))(hd:d≤2)
 (HEL:Hid (∀w1 st1,w.grownBy w1 (some b)→Hid (Rd w1 b f pv st1)→Calls prog 228 #[.pointer (some ⟨b,0,none⟩)] w1 (E6 w1 b f pv (X2 f st1) b3J))):
 Calls prog 227 #[.pointer (some ⟨b,0,none⟩), .int .i64 d, .func (.func 228) #[.pointer (some ⟨b,0,none⟩)] #[]] w (E6 w b f pv (E5 f d (X2 f) st) (K8 w.heap.size 202 4 T4)):=by
 go_enter func227,ntmps227;go_wp2_with (go_at_call 146;refine E6.bind (j1 _ b f pv st d h (by omega)) (fun er w' hr hg=>⟨rfl, .err (er:=er) (by rw[E5,hr]) rfl rfl hg⟩) ?_;rintro n st1 v w1 HH rfl hR hg)
 have hn:n<65536:=by
  exact a5n
 go_loopw [7,11] (fun l i wr=>∃(k:Nat) (xs:List Hd) (st2:St),i= .int .i64 k∧Mid (X2 f) n st1 k xs st2∧K8 w.heap.size 202 4 T4 wr l xs∧Rd wr b f pv st2∧w.grownBy wr (some b)) (fun _ i _=>n-(intOf i).toNat)
 case atStart=>exact c5h
 case round=>
  obtain⟨k,xs,st2,rfl,hmid,hrow,hR2,hg2⟩:=hrel;have HM:=A0 hmid;have HR2:=A0 hR2;have HROW:Hid (K8 w.heap.size 202 4 T4 wr _ xs):=hrow;clear hmid hR2 hrow;by_cases hk:k<n
  ·obtain⟨i,hi,hz0,hz1,hz2⟩:=info_parts c1r;have hne:=K0 HROW.out h.out.lt;have hlen:xs.length<65536:=by have:=HM.out.2.1;omega
   go_wp2_with (first
    |(go_at_call 228;refine E6.bind (HEL.out wr st2 hg2 HR2) (fun er w' hr hg3=>⟨rfl, .err (er:=er) (by rw[E5,HH.out];exact HM.out.fail hk hr) rfl rfl (A1 hg2 hg3)⟩) ?_;rintro x st3 v w3 H3 rfl hR3 hg3;dsimp only)
    |(at_builtin;go_loud (refine wpList_append_own _ rfl _ _ 100 rfl w.heap.size 202 i _ 4 40 underlying100 hi hz0 hz1 hz2 rfl (by decide) _ xs.length (xs.flatMap T4) rfl ((World.ownsRow.kept HROW.out hg3 (.inr hne)).alloc _) ⟨w3.heap.size,0,none⟩ 1 1 (T4 x) rfl rfl (S6 w3 (T4 x) _) (by simp[T4,Value.oneCell']) (a5E rfl hlen) (by omega) (by have:=hg2.size;have:=hg3.size;simp;omega) ?_)))
   intro v' w4 hown hgrow _;have hR4:=hR3.out.grow (A2 _ _ _) hgrow (by simpa using hne) (fun g hg=>by have:=(Y4 HROW.out hg).1;have:=h.out.poolLt this;exact this);have hg4:=D5 (A1 (A1 hg2 hg3) (A2 _ _ _)) hgrow (fun g hg=> .inl (Y4 HROW.out hg).1);have HM4:=A0 (HM.out.step hk H3.out)
   have HO4:Hid (K8 w.heap.size 202 4 T4 w4 v' (xs++ [x])):=by
    exact c6f
   clear hown hgrow;go_wp2
   go_roundw
   case rel=>exact c5a
   case measure=>simp[intOf];omega
  ·exact a1x
theorem P3{base:Nat}(h:w.ownsRow base e size v n cs)(hb:base'≤base):w.ownsRow base' e size v n cs:=
 ⟨h.1,h.2.imp id (fun⟨g,cap,cur,h1,h2,h3⟩=>⟨g,cap,cur,h1,Nat.le_trans hb h2,h3⟩)⟩
theorem F0{base:Nat}(h:w.ownsRow base e size v n cs):∃a c,v= .slice a n c:=by
 rcases h.2 with⟨rfl,rfl⟩|⟨g,cap,cur,rfl,_⟩
 ·exact⟨_,_,rfl⟩
 ·exact⟨_,_,rfl⟩
theorem a3U{w:World}{g:Nat}{i0 i1 i2 i3 i4 i5 i6 i7:Nat}{x0 x1 x2 x3 x4 x5 x6 x7:Value}:
 w.grownBy ((((((((w.setCell ⟨g,i0,none⟩ x0).setCell ⟨g,i1,none⟩ x1).setCell ⟨g,i2,none⟩ x2).setCell ⟨g,i3,none⟩ x3).setCell ⟨g,i4,none⟩ x4).setCell ⟨g,i5,none⟩ x5).setCell ⟨g,i6,none⟩ x6).setCell ⟨g,i7,none⟩ x7) (some g):=
 A1 (A1 (A1 (A1 (A1 (A1 (A1 (A9 _ ⟨g,i0,none⟩ _) (A9 _ ⟨g,i1,none⟩ _)) (A9 _ ⟨g,i2,none⟩ _)) (A9 _ ⟨g,i3,none⟩ _)) (A9 _ ⟨g,i4,none⟩ _)) (A9 _ ⟨g,i5,none⟩ _)) (A9 _ ⟨g,i6,none⟩ _)) (A9 _ ⟨g,i7,none⟩ _)
def a0P(P:Nat→Prop)(base:Nat)(w:World)(c:List Value)(m:Me):Prop:=
 ∃pv cv hv,c=[.string m.name,pv, .int .i64 m.ret.kind, .string m.ret.name, .int .i64 m.stack, .int .i64 m.locals,cv,hv]∧
  K8 base 98 2 C9 w pv m.params∧K8 base 120 4 T3 w cv m.code∧K8 base 202 4 T4 w hv m.handlers∧
  (∀g,pv.ownBlock=some g∨cv.ownBlock=some g∨hv.ownBlock=some g→P g)
def c4q(base:Nat)(w:World)(v:Value)(m:Me):Prop:=∃c,v= .agg (List.toArray c)∧a0P (fun _=>True) base w c m
theorem b6N(w:World)(b:Nat)(f:ByteArray)(pv:Value)(st:St)(h:Hid (Rd w b f pv st))(hS:Hid (O4 w))(hb0:2<b):
 Calls prog 152 #[.pointer (some ⟨b,0,none⟩)] w (E6 w b f pv (meth f st) (c4q w.heap.size)):=by
 have hbl:=h.out.lt;have hmf:∀(fn:Fn) (first cap:Array Value) (w:World),(Instr.makeFunc fn first cap).run prog w= .ok (.func fn first cap) w:=fun _ _ _ _=>rfl
 go_enter func152,ntmps152
 go_wp2_with (first
  |(go_at_call 148
    refine E6.bind (a4N _ b f pv st (h.out.keep (A2 _ _ _))) (fun er w' hr hg=>⟨rfl, .err (er:=er) (by simp only[meth,hr]) rfl rfl (A1 (A2 _ _ _) hg)⟩) ?_;rintro n st1 v w1 H1 rfl hR1 hg1';have hg1:=A1 (A2 w _ (some b)) hg1';have hB1:=(A3.new w _ _).keep hg1' (by simp;omega);have s1:w.heap.size<w1.heap.size:=by have:=hB1.lt;omega
    clear hg1';dsimp only)
  |(go_at_call 224
    refine E6.bind (b5L w1 b f pv st1 1 hR1 (by omega) (fun wx sx hgx hx=>a4O wx b f pv sx hx)) (fun er w' hr hg=>⟨rfl, .err (er:=er) (by simp only[meth,H1.out,hr]) rfl rfl (A1 hg1 hg)⟩) ?_;rintro ps st2 v2 w2 H2 hv2 hR2 hg2';have hg2:=A1 hg1 hg2';have hB2:=hB1.keep hg2' (by simp;omega);have s2:=hg2'.size;obtain⟨a2,k2,rfl⟩:=F0 hv2;have hL2:=A0 hv2;clear hv2 hg2' hB1;dsimp only)
  |(go_at_call 223
    refine E6.bind (a4O w2 b f pv st2 hR2) (fun er w' hr hg=>⟨rfl, .err (er:=er) (by simp only[meth,H1.out,H2.out,hr]) rfl rfl (A1 hg2 hg)⟩) ?_;rintro rt st3 v w3 H3 rfl hR3 hg3';have hg3:=A1 hg2 hg3';have hB3:=hB2.keep hg3' (by simp;omega);have s3:=hg3'.size;have hL3:Hid (K8 w1.heap.size 98 2 C9 w3 (.slice a2 ps.length k2) ps):=World.ownsRow.kept hL2.out hg3' (.inr (K0 hL2.out hR1.out.lt));clear hg3' hB2 hL2;dsimp only)
  |(go_at_call 146
    refine E6.bind (j1 w4 b f pv st4 1 hR4 (by omega)) (fun er w' hr hg=>⟨rfl, .err (er:=er) (by simp only[meth,H1.out,H2.out,H3.out,H4.out,hr]) rfl rfl (A1 hg4 hg)⟩) ?_;rintro lo st5 v w5 H5 rfl hR5 hg5';have hg5:=A1 hg4 hg5';have hB5:=hB4.keep hg5' (by simp;omega);have s5:=hg5'.size;have hL5:Hid (K8 w1.heap.size 98 2 C9 w5 (.slice a2 ps.length k2) ps):=World.ownsRow.kept hL4.out hg5' (.inr (K0 hL4.out hR1.out.lt));clear hg5' hB4 hL4;dsimp only)
  |(go_at_call 146
    refine E6.bind (j1 w3 b f pv st3 1 hR3 (by omega)) (fun er w' hr hg=>⟨rfl, .err (er:=er) (by simp only[meth,H1.out,H2.out,H3.out,hr]) rfl rfl (A1 hg3 hg)⟩) ?_;rintro so st4 v w4 H4 rfl hR4 hg4';have hg4:=A1 hg3 hg4';have hB4:=hB3.keep hg4' (by simp;omega);have s4:=hg4'.size;have hL4:Hid (K8 w1.heap.size 98 2 C9 w4 (.slice a2 ps.length k2) ps):=World.ownsRow.kept hL3.out hg4' (.inr (K0 hL3.out hR1.out.lt));clear hg4' hB3 hL3;dsimp only)
  |(go_at_call 225
    refine E6.bind (b5N w5 b f pv st5 2 hR5 (by omega) (fun wx sx hgx hx=>b4o wx b f pv sx hx (hS.out.keep (A1 hg5 hgx) (by simp;omega)) hb0)) (fun er w' hr hg=>⟨rfl, .err (er:=er) (by simp only[meth,H1.out,H2.out,H3.out,H4.out,H5.out,hr]) rfl rfl (A1 hg5 hg)⟩) ?_;rintro is st6 v6 w6 H6 hv6 hR6 hg6';have hg6:=A1 hg5 hg6';have hB6:=hB5.keep hg6' (by simp;omega);have s6:=hg6'.size;obtain⟨a6,k6,rfl⟩:=F0 hv6;have hL6:Hid (K8 w1.heap.size 98 2 C9 w6 (.slice a2 ps.length k2) ps):=World.ownsRow.kept hL5.out hg6' (.inr (K0 hL5.out hR1.out.lt));have hI6:=A0 hv6;clear hv6 hg6' hB5 hL5;dsimp only)
  |(go_at_call 227
    refine E6.bind (b5O w6 b f pv st6 1 hR6 (by omega) (fun wx sx hgx hx=>b5U wx b f pv sx hx)) (fun er w' hr hg=>⟨rfl, .err (er:=er) (by simp only[meth,H1.out,H2.out,H3.out,H4.out,H5.out,H6.out,hr]) rfl rfl (A1 hg6 hg)⟩) ?_;rintro hs st7 v7 w7 H7 hv7 hR7 hg7';have hg7:=A1 hg6 hg7';have hB7:=hB6.keep hg7' (by simp;omega);have s7:=hg7'.size;obtain⟨a7,k7,rfl⟩:=F0 hv7;have hL7:Hid (K8 w1.heap.size 98 2 C9 w7 (.slice a2 ps.length k2) ps):=World.ownsRow.kept hL6.out hg7' (.inr (K0 hL6.out hR1.out.lt));have hI7:Hid (K8 w5.heap.size 120 4 T3 w7 (.slice a6 is.length k6) is):=World.ownsRow.kept hI6.out hg7' (.inr (K0 hI6.out hR5.out.lt));have hH7:=A0 hv7;obtain⟨c0,c1,c2,c3,c4,c5,c6,c7⟩:=hB7.q8;obtain⟨z0,z1,z2,z3,z4,z5,z6,z7⟩:=hB7.z8;clear hv7 hg7' hB6 hL6 hI6 hB7;dsimp only))
 refine bodyPost_ret (v:= .agg #[.string n, .slice a2 ps.length k2, .int .i64 rt.kind, .string rt.name, .int .i64 so, .int .i64 lo, .slice a6 is.length k6, .slice a7 hs.length k7]) (by simp[results,results152,go_sem,c0,c1,c2,c3,c4,c5,c6,c7]) rfl ?_;refine .ok (a:=⟨n,ps,rt,so,lo,is,hs⟩) (st:=st7) ?_ ?_ ?_ ?_
 ·simp only[meth,H1.out,H2.out,H3.out,H4.out,H5.out,H6.out,H7.out]
 ·exact D5 hg7 (a3U (g:=w.heap.size)) (fun k e=> .inl (by cases e;exact Nat.le_refl _))
 ·refine⟨_,rfl,_,_,_,rfl,?_,?_,?_,fun _ _=>trivial⟩
  ·exact P3 (World.ownsRow.kept hL7.out (a3U (g:=w.heap.size)) (.inr (K0 hL7.out (by omega)))) (by omega)
  ·exact P3 (World.ownsRow.kept hI7.out (a3U (g:=w.heap.size)) (.inr (K0 hI7.out (by omega)))) (by omega)
  ·exact P3 (World.ownsRow.kept hH7.out (a3U (g:=w.heap.size)) (.inr (K0 hH7.out (by omega)))) (by omega)
 ·exact hR7.out.keepAt (a3U (g:=w.heap.size)) (by omega) (h.out.poolLt (Nat.le_refl _))
theorem a3i{e1 e2 s1 s2 n1 n2:Nat}{v1 v2:Value}{c1 c2:List Value}(h1:w.ownsRow b1 e1 s1 v1 n1 c1)(h2:w.ownsRow b2 e2 s2 v2 n2 c2)(hne:e1≠e2):v1.ownBlock=none∨v1.ownBlock≠v2.ownBlock:=by
 rcases h1.2 with⟨rfl,_⟩|⟨g,cap,cur,rfl,_,hg,_⟩
 ·exact .inl rfl
 ·right;rcases h2.2 with⟨rfl,_⟩|⟨g',cap',cur',rfl,_,hg',_⟩
  ·simp[Value.ownBlock]
  ·intro e;simp only[Value.ownBlock,Option.some.injEq]at e;subst e;rw[hg]at hg';simp only[Option.some.injEq,Obj.cells.injEq]at hg';exact hne hg'.2.1
variable {m:Me}
variable {row:Option Nat}
theorem a0P.keep{base:Nat}(h:a0P (fun _=>True) base w c m)(hg:w.grownBy w' row)(hr:∀k,row=some k→k<base):a0P (fun _=>True) base w' c m:=by
 obtain⟨pv,cv,hv,hc,h1,h2,h3,h4⟩:=h
 have key:∀{e s n:Nat} {v:Value} {cs:List Value},w.ownsRow base e s v n cs→v.ownBlock=none∨v.ownBlock≠row:=fun{e s n v cs} ho=>by
  cases row with
  |none=>cases hv:v.ownBlock<;>simp
  |some k=>exact .inr (K0 ho (hr k rfl))
 exact⟨pv,cv,hv,hc,World.ownsRow.kept h1 hg (key h1),World.ownsRow.kept h2 hg (key h2),World.ownsRow.kept h3 hg (key h3),h4⟩
theorem a0P.onto{base:Nat}{s:Nat}(h:a0P (fun _=>True) base w c m)(ho:w.ownsRow b2 102 s v n cs)(hg:w.grownBy w' v.ownBlock):a0P (fun _=>True) base w' c m:=by
 obtain⟨pv,cv,hv,hc,h1,h2,h3,h4⟩:=h;exact⟨pv,cv,hv,hc,World.ownsRow.kept h1 hg (a3i h1 ho (by decide)),World.ownsRow.kept h2 hg (a3i h2 ho (by decide)),World.ownsRow.kept h3 hg (a3i h3 ho (by decide)),h4⟩
def Z8(base:Nat)(w:World)(v:Value)(ms:List Me):Prop:=
 ∃css:List (List Value),css.length=ms.length∧w.ownsRow base 102 8 v ms.length css.flatten∧∀(i:Nat) (c:List Value) (m:Me),css[i]? =some c→ms[i]? =some m→a0P (fun _=>True) base w c m
theorem Z8.nil(base:Nat)(w:World):Z8 base w (.slice none 0 0) []:=⟨[],rfl,World.ownsRow_nil _ _ _ _,fun i c m h=>by simp at h⟩
variable {ms:List Me}
theorem Z8.keep{base:Nat}(h:Z8 base w v ms)(hg:w.grownBy w' row)(hr:∀k,row=some k→k<base):Z8 base w' v ms:=by
 obtain⟨css,h1,h2,h3⟩:=h;refine⟨css,h1,h2.kept hg ?_,fun i c m hc hm=>(h3 i c m hc hm).keep hg hr⟩;cases row with
 |none=>cases hv:v.ownBlock<;>simp
 |some k=>exact .inr (K0 h2 (hr k rfl))
theorem a0P.base(h:a0P (fun _=>True) b1 w c m)(hb:b2≤b1):a0P (fun _=>True) b2 w c m:=by
 obtain⟨pv,cv,hv,hc,h1,h2,h3,h4⟩:=h;exact⟨pv,cv,hv,hc,P3 h1 hb,P3 h2 hb,P3 h3 hb,h4⟩
theorem Z8.push{base:Nat}{v':Value}{css:List (List Value)}(hl:css.length=ms.length)(ho:w.ownsRow base 102 8 v ms.length css.flatten)
 (h:∀(i:Nat) (c:List Value) (m:Me),css[i]? =some c→ms[i]? =some m→a0P (fun _=>True) base w c m) (hm:a0P (fun _=>True) base w c m)
 (hown:w'.ownsRow base 102 8 v' (ms.length+1) (css.flatten++c)) (hg:w.grownBy w' v.ownBlock):Z8 base w' v' (ms++ [m]):=by
 refine⟨css++ [c],by simp[hl],by simpa using hown,fun i c' m' hc' hm'=> ?_⟩;by_cases hi:i<css.length
 ·rw[List.getElem?_append_left hi]at hc';rw[List.getElem?_append_left (by omega)]at hm';exact(h i c' m' hc' hm').onto ho hg
 ·rw[List.getElem?_append_right (by omega)]at hc' hm'
  have:i=css.length:=by
   have:=(List.getElem?_eq_some_iff.1 hc').1;simp at this;omega
  subst this;simp[hl]at hc' hm';subst hc' hm';exact hm.onto ho hg
theorem b5M(w:World)(b:Nat)(f:ByteArray)(pv:Value)(st:St)(d:Nat)(h:Hid (Rd w b f pv st))(hd:d≤2)(hS:Hid (O4 w))(hb0:2<b):
 Calls prog 151 #[.pointer (some ⟨b,0,none⟩), .int .i64 d, .func (.func 152) #[.pointer (some ⟨b,0,none⟩)] #[]] w (E6 w b f pv (E5 f d (meth f) st) (Z8 w.heap.size)):=by
 have hbl:=h.out.lt;go_enter func151,ntmps151;go_wp2_with (go_at_call 146;refine E6.bind (j1 w b f pv st d h (by omega)) (fun er w' hr hg=>⟨rfl, .err (er:=er) (by rw[E5,hr]) rfl rfl hg⟩) ?_;rintro n st1 v w1 HH rfl hR hg)
 have hn:n<65536:=by
  exact a5n
 go_loopw [7,11] (fun l i wr=>∃(k:Nat) (xs:List Me) (st2:St),i= .int .i64 k∧Mid (meth f) n st1 k xs st2∧Z8 w.heap.size wr l xs∧Rd wr b f pv st2∧w.grownBy wr (some b)) (fun _ i _=>n-(intOf i).toNat)
 case atStart=>exact⟨0,[],st1,rfl, .start _ _ _, .nil _ _,hR.out,hg⟩
 case round=>
  obtain⟨k,xs,st2,rfl,hmid,hrow,hR2,hg2⟩:=hrel;have HM:=A0 hmid;have HR2:=A0 hR2;have HROW:Hid (Z8 w.heap.size wr _ xs):=hrow;clear hmid hR2 hrow;by_cases hk:k<n
  ·obtain⟨i,hi,hz0,hz1,hz2⟩:=info_parts c1p;obtain⟨css,hcl,hco,hcc⟩:=HROW.out;have hne:=K0 hco hbl;have HCO:Hid (wr.ownsRow w.heap.size 102 8 _ xs.length css.flatten):=hco;have HCC:=A0 hcc;have HCL:=A0 hcl;clear hcl hco hcc;have hlen:xs.length<65536:=by have:=HM.out.2.1;omega
   go_wp2_with (first
    |(go_at_call 152
      refine E6.bind (b6N wr b f pv st2 HR2 (hS.out.keep hg2 (by simp;omega)) hb0) (fun er w' hr hg3=>⟨rfl, .err (er:=er) (by rw[E5,HH.out];exact HM.out.fail hk hr) rfl rfl (A1 hg2 hg3)⟩) ?_;rintro x st3 v w3 H3 ⟨c,rfl,hme⟩ hR3 hg3;have HME:=A0 hme;obtain⟨pv',cv',hv',rfl,r1,r2,r3,-⟩:=hme;obtain⟨a1,k1,rfl⟩:=F0 r1;obtain⟨a2,k2,rfl⟩:=F0 r2;obtain⟨a3,k3,rfl⟩:=F0 r3;clear r1 r2 r3;dsimp only)
    |(at_builtin;go_loud (refine wpList_append_own _ rfl _ _ 42 rfl w.heap.size 102 i _ 8 128 underlying42 hi hz0 hz1 hz2 rfl (by decide) _ xs.length css.flatten rfl ((World.ownsRow.kept HCO.out hg3 (.inr hne)).alloc _) ⟨w3.heap.size,0,none⟩ 1 1 [.string x.name, .slice a1 x.params.length k1, .int .i64 x.ret.kind, .string x.ret.name, .int .i64 x.stack, .int .i64 x.locals, .slice a2 x.code.length k2, .slice a3 x.handlers.length k3] rfl rfl (S6 w3 _ _) (by simp[Value.oneCell']) (a5E rfl hlen) (by omega) (by have:=hg2.size;have:=hg3.size;simp;omega) ?_)))
   intro v' w4 hown hgrow _;have hR4:=hR3.out.grow (A2 _ _ _) hgrow (by simpa using hne) (fun g hg=>by have:=(Y4 HCO.out hg).1;have:=h.out.poolLt this;exact this);have hg4:=D5 (A1 (A1 hg2 hg3) (A2 _ _ _)) hgrow (fun g hg=> .inl (Y4 HCO.out hg).1);have HM4:=A0 (HM.out.step hk H3.out)
   have HO4:Hid (Z8 w.heap.size w4 v' (xs++ [x])):=by
    refine Z8.push HCL.out ((World.ownsRow.kept HCO.out hg3 (.inr hne)).alloc _) (fun i c m hc hm=>((HCC.out i c m hc hm).keep hg3 (fun k e=>by cases e;exact hbl)).keep (A2 _ _ none) (fun _ e=>by cases e)) ?_ hown hgrow;exact(HME.out.base hg2.size).keep (A2 _ _ none) (fun _ e=>by cases e)
   clear hown hgrow;go_wp2
   go_roundw
   case rel=>exact c5a
   case measure=>simp[intOf];omega
  ·exact a1x
def a1c(base:Nat)(w:World)(v:Value)(c:Cl):Prop:=
 ∃a1 k1 a2 k2,v= .agg #[.string c.name, .string c.super, .slice a1 c.fields.length k1, .slice a2 c.methods.length k2]∧
  K8 base 129 3 H8 w (.slice a1 c.fields.length k1) c.fields∧Z8 base w (.slice a2 c.methods.length k2) c.methods
theorem K8.keep{base:Nat}{enc:α→List Value}{xs:List α}(h:K8 base e size enc w v xs)(hg:w.grownBy w' row)(hr:∀k,row=some k→k<base):K8 base e size enc w' v xs:=by
 refine World.ownsRow.kept h hg ?_;cases row with
 |none=>cases hv:v.ownBlock<;>simp
 |some k=>exact .inr (K0 h (hr k rfl))
theorem K8.base{base:Nat}{enc:α→List Value}{xs:List α}(h:K8 base e size enc w v xs)(hb:base'≤base):K8 base' e size enc w v xs:=P3 h hb
theorem Z8.base{base:Nat}(h:Z8 base w v ms)(hb:base'≤base):Z8 base' w v ms:=by
 obtain⟨css,h1,h2,h3⟩:=h;exact⟨css,h1,P3 h2 hb,fun i c m hc hm=>(h3 i c m hc hm).base hb⟩
theorem Z8.slice{base:Nat}(h:Z8 base w v ms):∃a c,v= .slice a ms.length c:=by
 obtain⟨css,h1,h2,h3⟩:=h;exact F0 h2
theorem a1c.keep{base:Nat}{c:Cl}(h:a1c base w v c)(hg:w.grownBy w' row)(hr:∀k,row=some k→k<base):a1c base w' v c:=by
 obtain⟨a1,k1,a2,k2,hv,h1,h2⟩:=h;exact⟨a1,k1,a2,k2,hv,h1.keep hg hr,h2.keep hg hr⟩
theorem a1c.base{c:Cl}(h:a1c b1 w v c)(hb:b2≤b1):a1c b2 w v c:=by
 obtain⟨a1,k1,a2,k2,hv,h1,h2⟩:=h;exact⟨a1,k1,a2,k2,hv,h1.base hb,h2.base hb⟩
theorem a3o{i0 i1 i2 i3:Nat}{x0 x1 x2 x3:Value}:
 w.grownBy ((((w.setCell ⟨g,i0,none⟩ x0).setCell ⟨g,i1,none⟩ x1).setCell ⟨g,i2,none⟩ x2).setCell ⟨g,i3,none⟩ x3) (some g):=
 A1 (A1 (A1 (A9 _ ⟨g,i0,none⟩ _) (A9 _ ⟨g,i1,none⟩ _)) (A9 _ ⟨g,i2,none⟩ _)) (A9 _ ⟨g,i3,none⟩ _)
theorem b8H(w:World)(b:Nat)(f:ByteArray)(pv:Value)(st:St)(h:Hid (Rd w b f pv st))(hS:Hid (O4 w))(hb0:2<b):
 Calls prog 93 #[.pointer (some ⟨b,0,none⟩)] w (E6 w b f pv (cls f st) (a1c w.heap.size)):=by
 have hbl:=h.out.lt;have hmf:∀(fn:Fn) (first cap:Array Value) (w:World),(Instr.makeFunc fn first cap).run prog w= .ok (.func fn first cap) w:=fun _ _ _ _=>rfl
 go_enter func93,ntmps93
 go_wp2_with (first
  |(go_at_call 148
    refine E6.bind (a4N w1 b f pv st1 hR1) (fun er w' hr hg=>⟨rfl, .err (er:=er) (by simp only[cls,H1.out,hr]) rfl rfl (A1 hg1 hg)⟩) ?_;rintro su st2 v w2 H2 rfl hR2 hg2';have hg2:=A1 hg1 hg2';have hB2:=hB1.keep hg2' (by simp;omega);have s2:=hg2'.size;clear hg2' hB1;dsimp only)
  |(go_at_call 148
    refine E6.bind (a4N _ b f pv st (h.out.keep (A2 _ _ _))) (fun er w' hr hg=>⟨rfl, .err (er:=er) (by simp only[cls,hr]) rfl rfl (A1 (A2 _ _ _) hg)⟩) ?_;rintro n st1 v w1 H1 rfl hR1 hg1';have hg1:=A1 (A2 w _ (some b)) hg1';have hB1:=(A3.new w _ _).keep hg1' (by simp;omega);have s1:w.heap.size<w1.heap.size:=by have:=hB1.lt;omega
    clear hg1';dsimp only)
  |(go_at_call 149
    refine E6.bind (b4V w2 b f pv st2 1 hR2 (by omega) (fun wx sx hgx hx=>a8I wx b f pv sx hx)) (fun er w' hr hg=>⟨rfl, .err (er:=er) (by simp only[cls,H1.out,H2.out,hr]) rfl rfl (A1 hg2 hg)⟩) ?_;rintro fs st3 v3 w3 H3 hv3 hR3 hg3';have hg3:=A1 hg2 hg3';have hB3:=hB2.keep hg3' (by simp;omega);have s3:=hg3'.size;obtain⟨a3,k3,rfl⟩:=F0 hv3;have hL3:=A0 hv3;clear hv3 hg3' hB2;dsimp only)
  |(go_at_call 151
    refine E6.bind (b5M w3 b f pv st3 1 hR3 (by omega) (hS.out.keep hg3 (by simp;omega)) hb0) (fun er w' hr hg=>⟨rfl, .err (er:=er) (by simp only[cls,H1.out,H2.out,H3.out,hr]) rfl rfl (A1 hg3 hg)⟩) ?_;rintro ms st4 v4 w4 H4 hv4 hR4 hg4';have hg4:=A1 hg3 hg4';have hB4:=hB3.keep hg4' (by simp;omega);have s4:=hg4'.size;obtain⟨a4,k4,rfl⟩:=hv4.slice;have hM4:=A0 hv4;have hL4:=A0 (hL3.out.keep hg4' (fun k e=>by cases e;omega));obtain⟨c0,c1,c2,c3⟩:=hB4.q4;obtain⟨z0,z1,z2,z3⟩:=hB4.z4;clear hv4 hg4' hB3 hL3 hB4;dsimp only))
 refine bodyPost_ret (v:= .agg #[.string n, .string su, .slice a3 fs.length k3, .slice a4 ms.length k4]) (by simp[results,results93,go_sem,c0,c1,c2,c3]) rfl ?_;refine .ok (a:=⟨n,su,fs,ms⟩) (st:=st4) ?_ ?_ ?_ ?_
 ·simp only[cls,H1.out,H2.out,H3.out,H4.out]
 ·exact D5 hg4 (a3o (g:=w.heap.size)) (fun k e=> .inl (by cases e;exact Nat.le_refl _))
 ·exact⟨_,_,_,_,rfl,(hL4.out.keep (a3o (g:=w.heap.size)) (fun k e=>by cases e;omega)).base (by omega),(hM4.out.keep (a3o (g:=w.heap.size)) (fun k e=>by cases e;omega)).base (by omega)⟩
 ·exact hR4.out.keepAt (a3o (g:=w.heap.size)) (by omega) (h.out.poolLt (Nat.le_refl _))
theorem a7u(w:World)(b:Nat)(f:ByteArray)(pv:Value)(st:St)(h:Hid (Rd w b f pv st)):
 Calls prog 94 #[.pointer (some ⟨b,0,none⟩)] w
  (E6 w b f pv (if st.used<st.pool.length then .error (5,f.size)else if st.at_<f.size then .error (6,st.at_)else .ok ((),st)) (fun _ v _=>v= .tuple #[])):=by
 obtain⟨-,ho,c0,c1,c2,c3,-,-,-⟩:=h.out.cells;obtain⟨a,k,rfl⟩:=F0 ho;clear ho;by_cases h1:st.used<st.pool.length
 ·rw[if_pos h1];go_enter func94,ntmps94;go_wp2
  go_quiet (fail)
  go_wp2
  exact⟨rfl, .err (er:=(5,f.size)) rfl rfl rfl (K3 _ _ _)⟩
 ·rw[if_neg h1];by_cases h2:st.at_<f.size
  ·rw[if_pos h2];go_enter func94,ntmps94;go_wp2
   go_quiet (fail)
   go_wp2
   go_quiet (fail)
   go_wp2
   exact⟨rfl, .err (er:=(6,st.at_)) rfl rfl rfl (K3 _ _ _)⟩
  ·rw[if_neg h2];go_enter func94,ntmps94;go_wp2
   go_quiet (fail)
   go_wp2
   go_quiet (fail)
   go_wp2
   go_end0;exact .ok rfl (A1 (K3 _ _ _) (K3 _ _ _)) rfl (h.out.keep (A1 (K3 _ _ _) (K3 _ _ _)))
theorem b5J(c:UInt8):a3m c=decide (97≤c.toNat∧c.toNat≤122∨65≤c.toNat∧c.toNat≤90∨48≤c.toNat∧c.toNat≤57):=by
 rw[Bool.eq_iff_iff];simp[a3m,UInt8.le_iff_toNat_le];omega
theorem b0n(c:UInt8)(w:World):
 Calls prog 288 #[.int .u8 (c.toNat:Int)] w fun e w'=>e= .returned (.bool (a3m c))∧w=w':=by
 rw[b5J];have hc:=c.toNat_lt;generalize c.toNat=a at hc;go_enter func288,ntmps288;go_wp2
 all_goals
  go_ret;refine⟨congrArg (fun x=>Ending.returned (.bool x)) ?_,rfl⟩;rw[Bool.eq_iff_iff];simp;omega
variable {s:ByteArray}
theorem b6W(h1:1≤s.size)(h2:s.size≤12)(h:∀j (hj:j<s.size),a3m s.data[j]=true):E3 s=true:=by
 simp only[E3,Bool.and_eq_true,decide_eq_true_eq,List.all_eq_true];refine⟨⟨h1,h2⟩,fun c hc=> ?_⟩;obtain⟨j,hj,rfl⟩:=List.getElem_of_mem hc;exact h j (by simpa using hj)
theorem b6V(j:Nat)(hj:j<s.size)(h:a3m s.data[j]=false):E3 s=false:=by
 rw[Bool.eq_false_iff];intro he;simp only[E3,Bool.and_eq_true,decide_eq_true_eq,List.all_eq_true]at he;have:=he.2 s.data[j] (by simp);rw[h]at this;cases this
theorem b0S(s:ByteArray)(w:World)(hs:s.size≤2048):
 Calls prog 212 #[.string s] w fun e w'=>e= .returned (.bool (E3 s))∧w=w':=by
 by_cases h1:1≤s.size
 ·by_cases h2:s.size≤12
  ·go_enter func212,ntmps212;go_wp2
   go_loop [14] (fun i=>∃k:Nat,k≤s.size∧i= .int .i64 k∧Hid (∀j (hj:j<s.size),j<k→a3m s.data[j]=true)) (fun i=>s.size-(intOf i).toNat)
   case atStart=>exact⟨0,by omega,rfl,fun j hj h=>by omega⟩
   case round=>
    obtain⟨k,hk,rfl,hall⟩:=hrel;by_cases hlt:k<s.size
    ·cases hb:a3m s.data[k]
     ·have HB:=A0 hb;go_wp2_with (go_at_call 288;refine(b0n s.data[k] _).mono ?_;rintro e w' ⟨rfl,rfl⟩;rw[hb])
      go_ret;exact⟨by rw[b6V k hlt HB.out];rfl,rfl⟩
     ·have HB:=A0 hb;go_wp2_with (go_at_call 288;refine(b0n s.data[k] _).mono ?_;rintro e w' ⟨rfl,rfl⟩;rw[hb])
      go_round
      case rel=>exact⟨k+1,hlt,by go_num,fun j hj h=>by by_cases e:j=k;(subst e;exact HB.out);exact hall.out j hj (by omega)⟩
      case measure=>simp[intOf];omega
    ·go_wp2
     go_ret;exact⟨by rw[b6W h1 h2 (fun j hj=>hall.out j hj (by omega))];rfl,rfl⟩
  ·go_enter func212,ntmps212;go_wp2
   go_ret;exact⟨by simp[E3,h2],rfl⟩
 ·go_enter func212,ntmps212;go_wp2
  go_ret;exact⟨by simp[E3,h1],rfl⟩
theorem a3p{t:ByteArray}(h:(s.toList==t.toList)=true):s=t:=by
 have h:=eq_of_beq h;rw[ByteArray.toList_eq,ByteArray.toList_eq]at h;cases s;cases t;simpa using h
theorem a6F:LawfulBEq ByteArray where
 eq_of_beq h:=by rw[beq_toListBytes]at h;exact a3p h
 rfl {a}:=by rw[beq_toListBytes];simp
theorem b8m(w:World)(base:Nat)(pv:Value)(l:List ByteArray)(s:ByteArray)(h:Hid (w.ownsRow base 9 1 pv l.length (l.map Value.string)))(hl:l.length≤255):
 Calls prog 292 #[pv, .string s] w fun e w'=>(∃n:Int,e= .returned (.int .i64 n)∧(decide (0≤n)=l.contains s))∧w=w':=by
 rcases b1K h.out with⟨rfl,rfl⟩|⟨g,cap,rfl,hbg,hcell⟩
 ·go_enter func292,ntmps292;go_wp2
  go_loop [8] (fun i=>i= .int .i64 0) (fun i=>0)
  case atStart=>rfl
  case round=>
   subst hrel;go_wp2
   go_ret;exact⟨⟨-1,rfl,by simp⟩,rfl⟩
 ·have HC:=A0 hcell;clear hcell;go_enter func292,ntmps292;go_wp2
  go_loop [8] (fun i=>∃k:Nat,k≤l.length∧i= .int .i64 k∧Hid (∀j,j<k→l.getD j ByteArray.empty≠s)) (fun i=>l.length-(intOf i).toNat)
  case atStart=>exact⟨0,by omega,rfl,fun j h=>by omega⟩
  case round=>
   obtain⟨k,hk,rfl,hall⟩:=hrel;by_cases hlt:k<l.length
   ·have hc:=HC.out k hlt;go_wp2
    ·rename_i he _;have he':=a3p he;go_ret;refine⟨⟨k,rfl,?_⟩,rfl⟩;haveI:=a6F
     have:s∈l:=by rw[he'];exact List.getElem_mem _
     simp[this]
    ·rename_i he;refine⟨⟨k+1,hlt,by go_num,fun j hj=> ?_⟩,by simp[intOf];omega⟩;by_cases e:j=k
     ·subst e;intro e;simp[List.getD,hlt]at e;rw[e]at he;simp at he
     ·exact hall.out j (by omega)
   ·go_wp2
    go_ret;refine⟨⟨-1,rfl,?_⟩,rfl⟩;have hk':k=l.length:=by omega
    subst hk';haveI:=a6F
    have:s∉l:=by
     intro hc;obtain⟨j,hj,e⟩:=List.getElem_of_mem hc;exact hall.out j hj (by simp[List.getD,hj,e])
    simp[this]
theorem b5e(w:World)(base:Nat)(pv:Value)(l:List ByteArray)(s:ByteArray)(h:Hid (w.ownsRow base 9 1 pv l.length (l.map Value.string)))(hl:l.length≤255):
 Calls prog 222 #[pv, .string s] w fun e w'=>e= .returned (.bool (l.contains s))∧w=w':=by
 obtain⟨a,k,rfl⟩:=F0 h.out;go_enter func222,ntmps222;go_wp2_with (go_at_call 292;refine(b8m w base _ l s h hl).mono ?_;rintro e w' ⟨⟨n,rfl,hn⟩,rfl⟩)
 go_ret;refine⟨congrArg (fun x=>Ending.returned (.bool x)) ?_,rfl⟩;rw[Bool.eq_iff_iff]at hn⊢
end
end Go.Proofs.YtdhophglnhcjbaaGreatDoor
