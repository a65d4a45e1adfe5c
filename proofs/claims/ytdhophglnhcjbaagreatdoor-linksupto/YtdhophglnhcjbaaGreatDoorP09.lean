/- P09: a part of the proof that the last text tells. -/
import Derived.Test.YtdhophglnhcjbaaGreatDoorP08
import Derived.Test.YtdhophglnhcjbaaGreatDoorP02
import Derived.Test.YtdhophglnhcjbaaGreatDoorP06
import Derived.Test.YtdhophglnhcjbaaGreatDoorP07
set_option linter.all false
namespace Go.Proofs.YtdhophglnhcjbaaGreatDoor
open Go.RowKit Cf
def a0T(f:ByteArray):St→R Cl:=fun st=>D6 (I8 f 87 0 st) fun _ st1=>D6 (I8 f 49 1 st1) fun _ st2=>D6 (D5 f 1 (K0 f) st2) fun _ st3=>D6 (cls f st3) fun c st4=>D6 (a1C f st4) fun _ st5=> .ok (c,st5)
def a5Z{α:Type}(r:R α):Except Er α:=match r with| .ok (a,_)=> .ok a| .error er=> .error er
variable {f n:ByteArray}
theorem a9K(h0:¬2048<f.size):F7 f=a5Z (a0T f ⟨0,0,[]⟩):=by
 simp only[F7,h0,if_false,a0T];cases I8 f 87 0 ⟨0,0,[]⟩with
 |error er=>rfl
 |ok q=>
  obtain⟨u,st1⟩:=q;dsimp only[D6];cases I8 f 49 1 st1 with
  |error er=>rfl
  |ok q=>
   obtain⟨u,st2⟩:=q;dsimp only;cases D5 f 1 (K0 f) st2 with
   |error er=>rfl
   |ok q=>
    obtain⟨xs,st3⟩:=q;dsimp only;cases cls f st3 with
    |error er=>rfl
    |ok q=>
     obtain⟨c,st4⟩:=q;dsimp only[a1C];by_cases h1:st4.used<st4.pool.length
     ·simp only[h1,if_true,a5Z]
     ·by_cases h2:st4.at_<f.size
      ·simp only[h1,h2,if_true,if_false,a5Z]
      ·simp only[h1,h2,if_false,a5Z]
theorem a7o(f:ByteArray):cls f=fun st=>D6 (name f st) fun n st1=>D6 (name f st1) fun sp st2=>D6 (D5 f 1 (Y6 f) st2) fun fs st3=>D6 (D5 f 1 (meth f) st3) fun ms st4=> .ok (⟨n,sp,fs,ms⟩,st4):=by
 funext st
 unfold cls D6;cases name f st with
 |error er=>rfl
 |ok q=>
  obtain⟨n,st1⟩:=q;dsimp only;cases name f st1 with
  |error er=>rfl
  |ok q=>
   obtain⟨sp,st2⟩:=q;dsimp only;cases D5 f 1 (Y6 f) st2 with
   |error er=>rfl
   |ok q=>
    obtain⟨fs,st3⟩:=q;dsimp only;cases D5 f 1 (meth f) st3<;>rfl
variable {s s1 s2 s3 s4:Except Er St}
theorem b6N{sp:ByteArray}{fs:List R9}{ms:List Me}(h1:C8 s (name f) n s1)(h2:C8 s1 (name f) sp s2)(h3:C8 s2 (D5 f 1 (Y6 f)) fs s3)(h4:C8 s3 (D5 f 1 (meth f)) ms s4):C8 s (cls f) ⟨n,sp,fs,ms⟩ s4:=by
 rw[a7o];exact h1.then (h2.then (h3.then (h4.then (C8.pure _ _))))
variable {c:Cl}
theorem a8V{s5:Except Er St}{xs:List Unit}(h1:C8 s (I8 f 87 0) () s1)(h2:C8 s1 (I8 f 49 1) () s2)(h3:C8 s2 (D5 f 1 (K0 f)) xs s3)(h4:C8 s3 (cls f) c s4)(h5:C8 s4 (a1C f) () s5):C8 s (a0T f) c s5:=by
 unfold a0T;exact h1.then (h2.then (h3.then (h4.then (h5.then (C8.pure _ _)))))
theorem a6K(f:ByteArray):Y6 f=fun st=>D6 (name f st) fun n st1=>D6 (kind f st1) fun t st2=> .ok (⟨n,t⟩,st2):=by
 funext st
 unfold Y6 D6;cases name f st with
 |error er=>rfl
 |ok q=>
  obtain⟨n,st1⟩:=q;dsimp only;cases kind f st1<;>rfl
theorem b4g{t:Ty}(h1:C8 s (name f) n s1)(h2:C8 s1 (kind f) t s2):C8 s (Y6 f) ⟨n,t⟩ s2:=by
 rw[a6K];exact h1.then (h2.then (C8.pure _ _))
theorem b6x(h0:¬2048<f.size){st5:St}(h:C8 (.ok ⟨0,0,[]⟩) (a0T f) c (.ok st5)):F7 f= .ok c:=by
 rw[a9K h0];have h2:E6 (a0T f ⟨0,0,[]⟩)= .ok st5:=h.2;have h1:∀a' st,a0T f ⟨0,0,[]⟩= .ok (a',st)→a'=c:=h.1
 cases hr:a0T f ⟨0,0,[]⟩with
 |error er=>rw[hr]at h2;cases h2
 |ok q=>obtain⟨a,st⟩:=q;rw[h1 a st hr];rfl
theorem b5b(h0:¬2048<f.size){er:Er}(h:C8 (.ok ⟨0,0,[]⟩) (a0T f) c (.error er)):F7 f= .error er:=by
 rw[a9K h0];have h2:E6 (a0T f ⟨0,0,[]⟩)= .error er:=h.2;cases hr:a0T f ⟨0,0,[]⟩with
 |error er'=>rw[hr]at h2;cases h2;rfl
 |ok q=>obtain⟨a,st⟩:=q;rw[hr]at h2;cases h2
namespace Cf
def i0:In:=⟨0,0,C3,C3⟩
def A8(m:Me)(at_:Nat):In:=m.code.getD at_ i0
def a1o(op:Nat):Bool:=op==12||op==20||op==30
def L7(l:List Cl)(m:Me)(i:In):Bool:=
 if i.op=2∨i.op=3 then decide (i.a<m.locals)
 else if 12≤i.op∧i.op≤15 then decide (i.a<m.code.length)
 else if i.op=16∨i.op=22∨i.op=28∨i.op=29 then E2 l i.cls
 else if i.op=17∨i.op=18 then(R0 l i.cls i.mem).isSome
 else if i.op=19 then(O7 l i.cls i.mem).isSome
 else true
def a0h(l:List Cl)(m:Me)(at_:Nat):Bool:= !L7 l m (A8 m at_)||(decide (at_+1=m.code.length)&& !a1o (A8 m at_).op)
def a0V(l:List Cl)(m:Me)(h:Hd):Bool:=decide (h.to≤h.from_)||decide (m.code.length<h.to)||decide (m.code.length≤h.at_)|| !I6 l h.cls F9
def f8(l:List Cl)(m:Me):Option Nat:=
 if m.code.length=0∨m.locals<1+m.params.length then some 0
 else match o6 (a0h l m) m.code.length with
  |some at_=>some at_
  |none=>(m.handlers.find? (a0V l m)).map (·.from_)
def O0(l:List Cl)(i:In):Me:=match O7 l i.cls i.mem with|some p=>g9 l p|none=>K8
def Y2(l:List Cl)(i:In):Ty:=match R0 l i.cls i.mem with|some p=>((cl l p.1).fields.getD p.2 l7).ty|none=>B6
def a0L(t:Ty):List Ty:=if t.kind=0 then []else [t]
def F3(l:List Cl)(m:Me)(i:In):List Ty:=
 if i.op=3∨i.op=4∨i.op=5 then [B6]
 else if i.op=6 then [B6,B6]
 else if(7≤i.op∧i.op≤11)∨i.op=14 then [P0,P0]
 else if i.op=13∨i.op=21∨i.op=22∨i.op=31 then [P0]
 else if i.op=15 then [C9 D4,C9 D4]
 else if i.op=17 then [C9 i.cls]
 else if i.op=18 then [C9 i.cls,Y2 l i]
 else if i.op=19 then C9 i.cls::(O0 l i).params
 else if i.op=20 then a0L m.ret
 else if i.op=23∨i.op=28∨i.op=29 then [C9 D4]
 else if i.op=24 then [⟨3,C3⟩,P0]
 else if i.op=25 then [⟨3,C3⟩,P0,P0]
 else if i.op=26 then [C9 D4,P0]
 else if i.op=27 then [C9 D4,P0,C9 D4]
 else if i.op=30 then [C9 F9]
 else []
def C4(l:List Cl)(i:In):List Ty:=
 if i.op=0∨(7≤i.op∧i.op≤11)∨i.op=23∨i.op=24∨i.op=29 then [P0]
 else if i.op=1 then [a0C]
 else if i.op=2∨i.op=26 then [B6]
 else if i.op=5∨i.op=6 then [B6,B6]
 else if i.op=16∨i.op=28 then [C9 i.cls]
 else if i.op=17 then [Y2 l i]
 else if i.op=19 then a0L (O0 l i).ret
 else if i.op=21 then [⟨3,C3⟩]
 else if i.op=22 then [⟨4,i.cls⟩]
 else []
def G5(l:List Cl)(m:Me)(i:In):Nat:=(F3 l m i).length
def P1(l:List Cl)(i:In):Nat:=(C4 l i).length
def G6(i:In)(at_:Nat):List Nat:=
 if i.op=20∨i.op=30 then []else if i.op=12 then [i.a.toNat]else if 13≤i.op∧i.op≤15 then [at_+1,i.a.toNat]else [at_+1]
def O8(h:Hd)(at_:Nat):Bool:=decide (h.from_≤at_)&&decide (at_<h.to)
def Y5(l:List Cl)(m:Me)(at_ h:Nat):Bool:=decide (G5 l m (A8 m at_)≤h)&&decide (h-G5 l m (A8 m at_)+P1 l (A8 m at_)≤m.stack)
def a0i(l:List Cl)(m:Me)(at_ h:Nat):Nat:=h-G5 l m (A8 m at_)+P1 l (A8 m at_)
def a0m(l:List Cl)(m:Me)(at_ h:Nat):List (Nat×Nat):=
 (if m.stack=0 then []else(m.handlers.filter fun d=>O8 d at_).map fun d=>(d.at_,1))++
 (if Y5 l m at_ h then(G6 (A8 m at_) at_).map fun n=>(n,a0i l m at_ h)else [])
def a7I(l:List Cl)(m:Me)(S:Nat→Nat→Prop):Prop:=S 0 0∧∀at_ h,S at_ h→∀p∈a0m l m at_ h,S p.1 p.2
def G3(l:List Cl)(m:Me)(at_ h:Nat):Prop:=∀S,a7I l m S→S at_ h
theorem a1J(l:List Cl)(m:Me):a7I l m (G3 l m):=
 ⟨fun _ hS=>hS.1,fun at_ h hr p hp S hS=>hS.2 at_ h (hr S hS) p hp⟩
variable {l:List Cl}
variable {m:Me}
variable {at_ ht:Nat}
theorem a5s{S:Nat→Nat→Prop}(hS:a7I l m S){h:Nat}(hr:G3 l m at_ h):S at_ h:=hr S hS
structure T2(l:List Cl)(m:Me):Prop where
 some_:0<m.code.length
 locals:1+m.params.length≤m.locals
 need:∀at_,at_<m.code.length→L7 l m (A8 m at_)=true
 last:∀at_,at_+1=m.code.length→a1o (A8 m at_).op=true
 hds:∀d∈m.handlers,d.from_<d.to∧d.to≤m.code.length∧d.at_<m.code.length∧I6 l d.cls F9=true
theorem b6o(h:f8 l m=none):T2 l m:=by
 unfold f8 at h;split at h
 ·cases h
 ·rename_i h0;split at h
  ·cases h
  ·rename_i h1;have h2:=a5f h1;rw[Option.map_eq_none_iff]at h;have h3:=List.find?_eq_none.1 h;refine⟨by omega,by omega,fun a ha=> ?_,fun a ha=> ?_,fun d hd=> ?_⟩
   ·have:=h2 a ha;unfold a0h at this;simp only[Bool.or_eq_false_iff,Bool.not_eq_false']at this;exact this.1
   ·have:=h2 a (by omega);unfold a0h at this;simp only[Bool.or_eq_false_iff,ha,decide_true,Bool.true_and,Bool.not_eq_false']at this;exact this.2
   ·have:=h3 d hd;unfold a0V at this;simp only[Bool.or_eq_true,decide_eq_true_eq,Bool.not_eq_true',not_or,Nat.not_le,Bool.not_eq_false]at this;exact⟨this.1.1.1,by omega,this.1.2,this.2⟩
def T5(i:In):Prop:=i.op<32∧(i.op≠0→0≤i.a)
theorem b1c(h:T2 l m)(hi:∀i∈m.code,T5 i)(ha:at_<m.code.length):∀n∈G6 (A8 m at_) at_,n<m.code.length:=by
 intro n hn;have hm:A8 m at_∈m.code:=by unfold A8;simp[ha]
 have hok:=hi _ hm;have hne:=h.need at_ ha;have hla:=h.last at_;unfold G6 at hn;unfold L7 at hne
 have hsucc:a1o (A8 m at_).op=false→at_+1<m.code.length:=fun he=>by
  by_cases e:at_+1=m.code.length
  ·rw[hla e]at he;cases he
  ·omega
 split at hn
 ·cases hn
 ·split at hn
  ·rename_i h12;rw[if_neg (by omega),if_pos (by omega)]at hne;have:=of_decide_eq_true hne;have:=hok.2 (by omega);simp only[List.mem_singleton]at hn;omega
  ·split at hn
   ·rename_i h13;rw[if_neg (by omega),if_pos (by omega)]at hne;have:=of_decide_eq_true hne;have:=hok.2 (by omega);have:=hsucc (by simp[a1o];omega);simp only[List.mem_cons,List.not_mem_nil,or_false]at hn;omega
   ·rename_i h1 h2 h3;have:=hsucc (by simp[a1o];omega);simp only[List.mem_singleton]at hn;omega
theorem b6I(h:T2 l m)(hi:∀i∈m.code,T5 i)(ha:at_<m.code.length):∀p∈a0m l m at_ ht,p.1<m.code.length∧p.2≤m.stack:=by
 intro p hp;unfold a0m at hp;rcases List.mem_append.1 hp with hp|hp
 ·split at hp
  ·cases hp
  ·obtain⟨d,hd,rfl⟩:=List.mem_map.1 hp;exact⟨(h.hds d (List.mem_filter.1 hd).1).2.2.1,by simp only;omega⟩
 ·split at hp
  ·rename_i hr;obtain⟨n,hn,rfl⟩:=List.mem_map.1 hp;simp only[Y5,Bool.and_eq_true,decide_eq_true_eq]at hr;exact⟨b1c h hi ha n hn,hr.2⟩
  ·cases hp
theorem a1O(h:T2 l m)(hi:∀i∈m.code,T5 i)(hr:G3 l m at_ ht):at_<m.code.length∧ht≤m.stack:=
 a5s (S:=fun a b=>a<m.code.length∧b≤m.stack) ⟨⟨h.some_,Nat.zero_le _⟩,fun a b hab p hp=>b6I h hi hab.1 p hp⟩ hr
def a0e(l:List Cl)(m:Me)(at_:Nat):Prop:=
 (∃h,G3 l m at_ h∧Y5 l m at_ h=false)∨((∃d∈m.handlers,O8 d at_=true)∧(∃h,G3 l m at_ h)∧m.stack=0)∨∃h k,h≠k∧G3 l m at_ h∧G3 l m at_ k
def a5L(l:List Cl)(m:Me):Option Nat→Prop
 |some a=>a<m.code.length∧a0e l m a∧∀j,j<a→¬a0e l m j
 |none=>∀j,j<m.code.length→¬a0e l m j
def a2b(t:Ty):Option Ty:=if t.kind=4 then some (C9 t.name)else if t.kind=5 then some a0C else none
def a7S(l:List Cl)(m:Me)(i:In)(stack:List Ty):List Ty:=stack.drop (stack.length-G5 l m i)
def b1j(l:List Cl)(m:Me)(i:In)(n:Nat):Bool:=decide (G5 l m i≤n)&&decide (n-G5 l m i+P1 l i≤m.stack)
def a1n(l:List Cl):List Ty→List Ty→Bool
 |a::xs,b::bs=>D0 l a b&&a1n l xs bs
 |_,_=>true
def o8(l:List Cl)(i:In)(taken:List Ty):Bool:=
 if i.op=3 then decide ((taken.getD 0 B6).kind≠0)
 else if i.op=23 then decide ((taken.getD 0 B6).kind≠2)
 else if i.op=26 then(a2b (taken.getD 0 B6)).isSome
 else if i.op=27 then match a2b (taken.getD 0 B6)with|none=>false|some e=>decide (e.kind=5)||D0 l (taken.getD 2 B6) e
 else true
def j9(l:List Cl)(m:Me)(i:In)(stack locals:List Ty):Bool:=
 b1j l m i stack.length&&(if i.op=2 then decide ((locals.getD i.a.toNat B6).kind≠0)else a1n l (a7S l m i stack) (F3 l m i)&&o8 l i (a7S l m i stack))
end Cf
namespace Cf
def b1y(st:St):Prop:=∀n∈st.pool,F4 n=true
variable {α:Type}
def Y7(p:St→R α)(Q:α→Prop):Prop:=∀st x st1,b1y st→p st= .ok (x,st1)→b1y st1∧Q x
theorem X9{β:Type}{p:St→R α}{m:α→St→R β}{P:α→Prop}{Q:β→Prop}(hp:Y7 p P)(hm:∀a,P a→Y7 (m a) Q):Y7 (fun st=>D6 (p st) m) Q:=fun st x st1 h0 h=>by
 unfold D6 at h;cases hr:p st with
 |error er=>simp only[hr]at h;cases h
 |ok q=>
  obtain⟨a,s1⟩:=q;simp only[hr]at h;obtain⟨h1,h2⟩:=hp st a s1 h0 hr;exact hm a h2 s1 x st1 h1 h
theorem a3y{Q:α→Prop}{a:α}(h:Q a):Y7 (fun st=> .ok (a,st)) Q:=fun st x st1 h0 e=>by cases e;exact⟨h0,h⟩
theorem a1P(f:ByteArray)(k:Nat):Y7 (A9 f k) (fun n=>n<256^k):=fun st x st1 h0 h=>by
 obtain⟨rfl,h2⟩:=O6 h;exact⟨h0,h2⟩
theorem b0w{p:St→R α}{P:α→Prop}(hp:Y7 p P):∀n,Y7 (D7 p n) (fun l=>l.length=n∧∀x∈l,P x)
 |0=>fun st x st1 h0 h=>by
  simp only[D7,Except.ok.injEq,Prod.mk.injEq]at h;obtain⟨rfl,rfl⟩:=h;exact⟨h0,rfl,fun x hx=>by cases hx⟩
 |n+1=>fun st x st1 h0 h=>by
  simp only[D7]at h;cases hq:p st with
  |error er=>rw[hq]at h;cases h
  |ok q=>
   obtain⟨a,s1⟩:=q;rw[hq]at h;dsimp only at h;cases hr:D7 p n s1 with
   |error er=>rw[hr]at h;cases h
   |ok q=>
    obtain⟨l2,s2⟩:=q;rw[hr]at h;simp only[Except.ok.injEq,Prod.mk.injEq]at h;obtain⟨rfl,rfl⟩:=h;obtain⟨h1,h2⟩:=hp st a s1 h0 hq;obtain⟨h3,h4,h5⟩:=b0w hp n s1 l2 s2 h1 hr;exact⟨h3,by simp[h4],fun x hx=>(List.mem_cons.1 hx).elim (fun e=>e▸h2) (h5 x)⟩
theorem a3A{p:St→R α}{P:α→Prop}(hp:Y7 p P)(f:ByteArray)(k:Nat):Y7 (D5 f k p) (fun l=>l.length<256^k∧∀x∈l,P x):=fun st x st1 h0 h=>by
 unfold D5 at h;cases hn:A9 f k st with
 |error er=>rw[hn]at h;cases h
 |ok q=>
  obtain⟨n,s1⟩:=q;rw[hn]at h;dsimp only at h;obtain⟨h1,h2⟩:=a1P f k st n s1 h0 hn;obtain⟨h3,h4,h5⟩:=b0w hp n s1 x st1 h1 h;exact⟨h3,by omega,h5⟩
theorem a3z(f:ByteArray):Y7 (name f) (fun n=>F4 n=true):=fun st x st1 h0 h=>by
 unfold name at h;cases hn:A9 f 1 st with
 |error er=>rw[hn]at h;cases h
 |ok q=>
  obtain⟨n,s1⟩:=q;rw[hn]at h;dsimp only at h;split at h
  ·rename_i hc;have hk:=(O6 hn).1;cases h;subst hk;refine⟨h0,h0 _ ?_⟩;rw[List.getD_eq_getElem?_getD,List.getElem?_eq_getElem hc.2];exact List.getElem_mem hc.2
  ·cases h
theorem a6z(f:ByteArray)(b:Bool):Y7 (T9 f b) (fun n=>if b then F4 n=true else n=ByteArray.empty):=by
 cases b with
 |true=>exact a3z f
 |false=>exact a3y (a:=ByteArray.empty) rfl
variable {n:ByteArray}
theorem b8n(h:F4 n=true):n≠C3:=fun e=>by subst e;revert h;decide
theorem a6Y(f:ByteArray):Y7 (kind f) y6:=by
 rw[a6X];refine X9 (a1P f 1) fun k _=> ?_
 intro st x st1 h0 h;by_cases h4:4<k
 ·simp only[h4,if_true]at h;cases h
 ·simp only[h4,if_false]at h;refine X9 (a6z f (o7 k)) (fun n hn=> ?_) st x st1 h0 h;refine a3y ⟨by show k≤4;omega,?_,?_⟩
  ·show n=C3↔¬(k=2∨k=4);unfold o7 at hn;by_cases hk:k=2∨k=4
   ·have:(k==2||k==4)=true:=by simpa using hk
    rw[this]at hn;exact⟨fun e=>absurd e (b8n hn),fun e=>absurd hk e⟩
   ·have:(k==2||k==4)=false:=by simpa using hk
    rw[this]at hn;exact⟨fun _=>hk,fun _=>hn⟩
  ·show n≠C3→F4 n=true;intro he;cases hb:o7 k with
   |true=>rw[hb]at hn;exact hn
   |false=>rw[hb]at hn;exact absurd hn he
structure a3l(i:In):Prop where
 op:i.op<32
 lo: -2147483648≤i.a
 hi:i.a≤2147483647
 nn:i.op≠0→0≤i.a∧i.a<65536
 cls:i.cls=C3∨F4 i.cls=true
 mem:i.mem=C3∨F4 i.mem=true
theorem a5t{b:Bool}(h:if b then F4 n=true else n=ByteArray.empty):n=C3∨F4 n=true:=by
 cases b with
 |true=>exact .inr h
 |false=>exact .inl h
theorem b7w(f:ByteArray):Y7 (O3 f) a3l:=fun st x st1 h0 h=>by
 unfold O3 at h;cases h1:A9 f 1 st with
 |error er=>rw[h1]at h;cases h
 |ok q=>
  obtain⟨op,s1⟩:=q;rw[h1]at h;dsimp only at h;by_cases h32:32≤op
  ·rw[if_pos h32]at h;cases h
  ·rw[if_neg h32]at h;obtain⟨g1,-⟩:=a1P f 1 st op s1 h0 h1;cases h2:A9 f (L5 op) s1 with
   |error er=>rw[h2]at h;cases h
   |ok q=>
    obtain⟨n,s2⟩:=q;rw[h2]at h;dsimp only at h;obtain⟨g2,hn⟩:=a1P f (L5 op) s1 n s2 g1 h2;cases h3:T9 f (Z4 op) s2 with
    |error er=>rw[h3]at h;cases h
    |ok q=>
     obtain⟨c,s3⟩:=q;rw[h3]at h;dsimp only at h;obtain⟨g3,hc⟩:=a6z f _ s2 c s3 g2 h3;cases h4:T9 f (b7 op) s3 with
     |error er=>rw[h4]at h;cases h
     |ok q=>
      obtain⟨m,s4⟩:=q;rw[h4]at h;obtain⟨g4,hm⟩:=a6z f _ s3 m s4 g3 h4;cases h
      have hw:L5 op=4∧op=0∨(L5 op≤2∧op≠0):=by
       unfold L5;by_cases e0:op=0
       ·simp[e0]
       ·right;refine⟨?_,e0⟩;rw[if_neg e0];split<;>(try split)<;>omega
      rcases hw with⟨hw,he⟩|⟨hw,he⟩
      ·rw[hw]at hn;have hn:n<4294967296:=hn;refine⟨g4,by show op<32;omega,?_,?_,fun h=>absurd he h,a5t hc,a5t hm⟩
       ·show-2147483648≤T8 (L5 op) n;unfold T8;split<;>omega
       ·show T8 (L5 op) n≤2147483647;rw[hw];unfold T8;split<;>omega
      ·have h6:256^L5 op≤256^2:=Nat.pow_le_pow_right (by omega) hw;have hn:n<65536:=Nat.lt_of_lt_of_le hn h6;have hs:T8 (L5 op) n=n:=by unfold T8;rw[if_neg (by omega)]
       refine⟨g4,by show op<32;omega,?_,?_,fun _=> ?_,a5t hc,a5t hm⟩
       ·show-2147483648≤T8 (L5 op) n;rw[hs];omega
       ·show T8 (L5 op) n≤2147483647;rw[hs];omega
       ·show 0≤T8 (L5 op) n∧T8 (L5 op) n<65536;rw[hs];omega
structure b1O(h:Hd):Prop where
 from_:h.from_<65536
 to:h.to<65536
 at_:h.at_<65536
 cls:F4 h.cls=true
theorem b2Q(f:ByteArray):Y7 (V3 f) b1O:=by
 rw[a6u];exact X9 (a1P f 2) fun a ha=>X9 (a1P f 2) fun b hb=>X9 (a1P f 2) fun c hc=>X9 (a3z f) fun n hn=>a3y ⟨ha,hb,hc,hn⟩
theorem b4J(f:ByteArray):Y7 (Y6 f) (fun x=>F4 x.name=true∧y6 x.ty):=by
 rw[a6K];exact X9 (a3z f) fun n hn=>X9 (a6Y f) fun t ht=>a3y ⟨hn,ht⟩
structure a8e(m:Me):Prop where
 name:F4 m.name=true
 params:∀p∈m.params,y6 p
 ret:y6 m.ret
 stack:m.stack<256
 locals:m.locals<256
 code:∀i∈m.code,a3l i
 handlers:∀h∈m.handlers,b1O h
 np:m.params.length<256
 nc:m.code.length<65536
 nh:m.handlers.length<256
theorem b5W(f:ByteArray):Y7 (meth f) a8e:=by
 rw[a6V]
 exact X9 (a3z f) fun n hn=>X9 (a3A (a6Y f) f 1) fun ps hp=>X9 (a6Y f) fun t ht=>X9 (a1P f 1) fun s hs=>X9 (a1P f 1) fun l hl=>
  X9 (a3A (b7w f) f 2) fun is hi=>X9 (a3A (b2Q f) f 1) fun hs2 hh=>a3y ⟨hn,hp.2,ht,hs,hl,hi.2,hh.2,hp.1,hi.1,hh.1⟩
structure i8(c:Cl):Prop where
 name:F4 c.name=true
 super:F4 c.super=true
 fields:∀x∈c.fields,F4 x.name=true∧y6 x.ty
 methods:∀m∈c.methods,a8e m
 nf:c.fields.length<256
 nm:c.methods.length<256
theorem b7x(f:ByteArray):Y7 (cls f) i8:=by
 rw[a7o];exact X9 (a3z f) fun n hn=>X9 (a3z f) fun s hs=>X9 (a3A (b4J f) f 1) fun fs hf=>X9 (a3A (b5W f) f 1) fun ms hm=>a3y ⟨hn,hs,hf.2,hm.2,hf.1,hm.1⟩
theorem b5V(f:ByteArray):Y7 (K0 f) (fun _=>True):=fun st x st1 h0 h=>by
 unfold K0 at h;cases hn:V2 f st with
 |error er=>rw[hn]at h;cases h
 |ok q=>
  obtain⟨s,s1⟩:=q;rw[hn]at h;cases h;unfold V2 at hn;cases h1:A9 f 1 st with
  |error er=>rw[h1]at hn;cases hn
  |ok q=>
   obtain⟨k,s2⟩:=q;rw[h1]at hn;dsimp only at hn;obtain⟨rfl,-⟩:=O6 h1;split at hn
   ·split at hn
    ·rename_i hc;cases hn;refine⟨fun n hn=> ?_,trivial⟩;rcases List.mem_append.1 hn with h2|h2
     ·exact h0 n h2
     ·rw[List.mem_singleton.1 h2];simp only[Bool.and_eq_true]at hc;exact hc.1
    ·cases hn
   ·cases hn
theorem a9g(f:ByteArray)(c i:Nat):Y7 (I8 f c i) (fun _=>True):=fun st x st1 h0 h=>by
 unfold I8 at h;cases h1:A9 f 1 st with
 |error er=>rw[h1]at h;cases h
 |ok q=>
  obtain⟨k,s2⟩:=q;rw[h1]at h;dsimp only at h;obtain⟨rfl,-⟩:=O6 h1;split at h
  ·cases h;exact⟨h0,trivial⟩
  ·cases h
variable {c:Cl}
theorem b1t{f:ByteArray}(h:F7 f= .ok c):i8 c:=by
 unfold F7 at h;split at h
 ·cases h
 ·cases h1:I8 f 87 0 ⟨0,0,[]⟩with
  |error er=>rw[h1]at h;cases h
  |ok q=>
   obtain⟨u1,s1⟩:=q;rw[h1]at h;dsimp only at h;have g1:=(a9g f 87 0 _ u1 s1 (fun n hn=>by cases hn) h1).1;cases h2:I8 f 49 1 s1 with
   |error er=>rw[h2]at h;cases h
   |ok q=>
    obtain⟨u2,s2⟩:=q;rw[h2]at h;dsimp only at h;have g2:=(a9g f 49 1 _ u2 s2 g1 h2).1;cases h3:D5 f 1 (K0 f) s2 with
    |error er=>rw[h3]at h;cases h
    |ok q=>
     obtain⟨u3,s3⟩:=q;rw[h3]at h;dsimp only at h;have g3:=(a3A (b5V f) f 1 _ u3 s3 g2 h3).1;cases h4:cls f s3 with
     |error er=>rw[h4]at h;cases h
     |ok q=>
      obtain⟨c4,s4⟩:=q;rw[h4]at h;dsimp only at h;have g4:=(b7x f _ c4 s4 g3 h4).2;split at h
      ·cases h
      ·split at h
       ·cases h
       ·cases h;exact g4
theorem a0N(h:F4 n=true):n.size≤12:=by
 unfold F4 at h;simp only[Bool.and_eq_true,decide_eq_true_eq]at h;exact h.1.2
theorem a7t{t:Ty}(h:y6 t):t.name.size≤12:=by
 by_cases e:t.name=C3
 ·rw[e];decide
 ·exact a0N (h.2.2 e)
theorem i8.okCl(h:i8 c):a0I c:=⟨h.name,h.super,h.fields,fun m hm=>⟨(h.methods m hm).name,(h.methods m hm).ret,(h.methods m hm).params,fun d hd=>((h.methods m hm).handlers d hd).cls⟩⟩
end Cf
open Go.RowKit Go.Shelf Cf
namespace Kx
def LC(w:World)(base:Nat)(q:Qs)(c:Cl):Prop:=E5 base 129 3 G8 w (.slice q.fa c.fields.length q.fk) c.fields∧V8 base w (.slice q.ma c.methods.length q.mc) c.methods
theorem LC.of{base:Nat}{w:World}{v:Value}{c:Cl}(h:a0p base w v c):∃q,v= .agg (F8 c q).toArray∧LC w base q c:=by
 obtain⟨a1,k1,a2,k2,rfl,h1,h2⟩:=h;exact⟨⟨a1,k1,a2,k2⟩,rfl,h1,h2⟩
section
variable{w w':World}{bs b2:Nat}{q:Qs}{c:Cl}
theorem LC.keep(h:LC w bs q c)(hg:w.grownBy w' none):LC w' bs q c:=⟨h.1.keep hg (fun k e=>by cases e),h.2.keep hg (fun k e=>by cases e)⟩
theorem LC.lower(h:LC w bs q c)(hb:b2≤bs):LC w b2 q c:=by
 refine⟨S0 h.1 hb,?_⟩;obtain⟨css,h1,h2,h3⟩:=h.2;exact⟨css,h1,S0 h2 hb,fun i c m hc hm=>(h3 i c m hc hm).base hb⟩
theorem LC.onto{v:Value}{s n:Nat}{cs:List Value}(h:LC w bs q c)(ho:w.ownsRow b2 44 s v n cs)(hg:w.grownBy w' v.ownBlock):LC w' bs q c:=by
 refine⟨World.ownsRow.kept h.1 hg (a0u h.1 ho (by decide)),?_⟩;obtain⟨css,h1,h2,h3⟩:=h.2;refine⟨css,h1,h2.kept hg (a0u h2 ho (by decide)),fun i c m hc hm=> ?_⟩;obtain⟨pv,cv,hv,hc,g1,g2,g3,g4⟩:=h3 i c m hc hm;exact⟨pv,cv,hv,hc,World.ownsRow.kept g1 hg (a0u g1 ho (by decide)),World.ownsRow.kept g2 hg (a0u g2 ho (by decide)),World.ownsRow.kept g3 hg (a0u g3 ho (by decide)),g4⟩
theorem b1D:∀(css:List (List Value)) (_:∀c∈css,c.length=8) (j:Nat) (hj:j<css.length) (r:Nat) (_:r<8),css.flatten[j*8+r]? =css[j][r]?
 | [],_,_,hj,_,_=>by cases hj
 |x::l,h,0,_,r,hr=>by
  rw[List.flatten_cons,Nat.zero_mul,Nat.zero_add,List.getElem?_append_left (by rw[h x (by simp)];exact hr)];rfl
 |x::l,h,j+1,hj,r,hr=>by
  rw[List.flatten_cons,List.getElem?_append_right (by rw[h x (by simp)];omega),h x (by simp),show(j+1)*8+r-8=j*8+r from by omega];exact b1D l (fun c hc=>h c (by simp[hc])) j (by simpa using hj) r hr
theorem LC.rd(h:LC w bs q c):C0 w w.heap.size 3 G8 q.fa c.fields∧PM w w.heap.size q.ma c.methods:=by
 refine⟨a0k a9i h.1,fun j hj=> ?_⟩;obtain⟨css,h1,h2,h3⟩:=h.2;have hjc:j<css.length:=by omega
 obtain⟨pv,cv,hv,hc,g1,g2,g3,-⟩:=h3 j css[j] c.methods[j] (List.getElem?_eq_getElem hjc) (List.getElem?_eq_getElem hj);obtain⟨pa,pk,rfl⟩:=F1 g1;obtain⟨ca,ck,rfl⟩:=F1 g2;obtain⟨ha,hk,rfl⟩:=F1 g3;obtain⟨g,cap,hv,-,hg⟩:=h2.form (by omega);injection hv with hv _ _
 have e:c.methods.getD j K8=c.methods[j]:=by rw[List.getD_eq_getElem?_getD,List.getElem?_eq_getElem hj];rfl
 rw[e];refine⟨⟨g,0,none⟩,pa,ca,ha,pk,ck,hk,hv,hg,a0k (fun _=>rfl) g1,a0k (fun _=>rfl) g2,a0k (fun _=>rfl) g3,fun r u hu=> ?_⟩;have hr:r<8:=by have:=(List.getElem?_eq_some_iff.1 hu).1;simpa[mv]using this
 have h8:∀x∈css,x.length=8:=fun x hx=>by
  obtain⟨i,hi,rfl⟩:=List.getElem_of_mem hx;obtain⟨pv,cv,hv,hc,-⟩:=h3 i css[i] c.methods[i] (List.getElem?_eq_getElem hi) (List.getElem?_eq_getElem (by omega));rw[hc];rfl
 refine h2.cells (g:=g) (by rw[hv];rfl) (j*8+r) u ?_;rw[b1D css h8 j hjc r hr,hc];exact hu
end
structure T0(w:World)(B:Nat)(v:Value)(fs:List Cl)(qf:Nat→Qs):Prop where
 own:w.ownsRow B 44 4 v fs.length ((List.range fs.length).flatMap (K4 fs qf))
 lc:∀i,i<fs.length→LC w B (qf i) (cl fs i)
theorem T0.nil(w:World)(B:Nat)(qf:Nat→Qs):T0 w B (.slice none 0 0) [] qf:=⟨World.ownsRow_nil _ _ _ _,fun i hi=>by cases hi⟩
variable {w w':World}
variable {B:Nat}
variable {v:Value}
variable {fs:List Cl}
variable {qf:Nat→Qs}
theorem T0.keep(h:T0 w B v fs qf)(hg:w.grownBy w' none):T0 w' B v fs qf:=
 ⟨h.own.kept hg (by cases v.ownBlock<;>simp),fun i hi=>(h.lc i hi).keep hg⟩
def a2B(qf:Nat→Qs)(n:Nat)(q:Qs)(i:Nat):Qs:=if i=n then q else qf i
variable {c:Cl}
theorem T0.push{v':Value}{q:Qs}(h:T0 w B v fs qf)(hc:LC w B q c)(ho:w'.ownsRow B 44 4 v' (fs.length+1) ((List.range fs.length).flatMap (K4 fs qf)++F8 c q))(hg:w.grownBy w' v.ownBlock):
 T0 w' B v' (fs++ [c]) (a2B qf fs.length q):=by
 refine⟨?_,fun i hi=> ?_⟩
 ·rw[List.length_append,List.length_singleton,List.range_succ,List.flatMap_append]
  have e:(List.range fs.length).flatMap (K4 (fs++ [c]) (a2B qf fs.length q))=(List.range fs.length).flatMap (K4 fs qf):=by
   refine a4o (fun i hi=> ?_);have:=List.mem_range.1 hi;unfold K4 a2B;rw[L9 this,if_neg (by omega)]
  rw[e];simp only[List.flatMap_cons,List.flatMap_nil,List.append_nil,K4,a4N,a2B,if_true];exact ho
 ·rw[List.length_append,List.length_singleton]at hi;by_cases e:i=fs.length
  ·subst e;rw[a4N,a2B,if_pos rfl];exact hc.onto h.own hg
  ·rw[L9 (by omega),a2B,if_neg e];exact(h.lc i (by omega)).onto h.own hg
theorem a3f(h:i8 c):q8 c:=by
 have h12:(12:Nat)≤maxLen:=by decide
 refine⟨Nat.le_trans (a0N h.name) h12,Nat.le_trans (a0N h.super) h12,fun x hx=> ?_,fun x hx=> ?_,by have:=h.nf;omega,by have:=h.nm;omega⟩
 ·obtain⟨f,hf,rfl⟩:=List.mem_map.1 hx;exact Nat.le_trans (a0N (h.fields f hf).1) h12
 ·obtain⟨f,hf,rfl⟩:=List.mem_map.1 hx;exact Nat.le_trans (a0N (h.methods f hf).name) h12
theorem b8R(h:i8 c):Szc c:=⟨by have:=h.nf;omega,by have:=h.nm;omega,fun j hj=>by
 have:=h.methods _ (List.getElem_mem hj);have a:=this.np;have b:=this.nh;omega⟩
theorem T0.gvn{a:Option Addr}{k n:Nat}(h:T0 w B (.slice a n k) fs qf)(hok:∀c∈fs,i8 c)(hl:fs.length≤12):U7 w w.heap.size fs qf∧C0 w w.heap.size 4 (K4 fs qf) a (List.range fs.length):=by
 have hc:∀i,i<fs.length→i8 (cl fs i):=fun i hi=>by rw[U3 hi];exact hok _ (List.getElem_mem hi)
 refine⟨⟨fun i hi=>(h.lc i hi).rd.1,fun i hi=>(h.lc i hi).rd.2,fun i hi=>b8R (hc i hi),fun i hi=>⟨(a3f (hc i hi)).1,(a3f (hc i hi)).2.1⟩,fun i hi=>⟨(a3f (hc i hi)).2.2.2.2.1,(a3f (hc i hi)).2.2.2.2.2⟩,hl⟩,?_⟩;obtain⟨a',k',hv⟩:=F1 h.own;injection hv with hv hn hk
 have:=h.own;rw[hn]at this;exact a0k (a4F fs qf) (by simpa using this)
theorem b1h(hok:∀c∈fs,i8 c):SzL (A5++fs):=fun i hi=>by
 by_cases h9:i<9
 ·rw[L9 h9];have:=a0O h9;refine⟨fun j hj=> ?_,fun f hf=> ?_,by rw[this.1];simp,by rw[this.2.1];simp⟩
  ·rw[this.2.1]at hj;cases hj
  ·rw[this.1]at hf;cases hf
 ·obtain⟨j,rfl⟩:∃j,i=9+j:=⟨i-9,by omega⟩
  rw[R4];have hj:j<fs.length:=by rw[List.length_append,a7r]at hi;omega
  have hc:i8 (cl fs j):=by rw[U3 hj];exact hok _ (List.getElem_mem hj)
  have h12:(12:Nat)≤maxLen:=by decide
  refine⟨fun k hk=> ?_,fun f hf=>⟨Nat.le_trans (a7t (hc.fields f hf).2) h12,Nat.le_trans (a0N (hc.fields f hf).1) h12⟩,by have:=hc.nf;omega,by have:=hc.nm;omega⟩
  have hm:a8e ((cl fs j).methods.getD k K8):=by
   rw[List.getD_eq_getElem?_getD,List.getElem?_eq_getElem hk];exact hc.methods _ (List.getElem_mem hk)
  exact⟨fun t ht=>Nat.le_trans (a7t (hm.params t ht)) h12,fun d hd=>Nat.le_trans (a0N (hm.handlers d hd).cls) h12,Nat.le_trans (a7t hm.ret) h12,by have:=hm.np;omega,by have:=hm.nh;omega⟩
end Kx
namespace Cf
variable {α:Type}
def Y8(p:St→R α):Prop:=∀st er,p st= .error er→0<er.1
theorem V1{β:Type}{p:St→R α}{m:α→St→R β}(hp:Y8 p)(hm:∀a,Y8 (m a)):Y8 (fun st=>D6 (p st) m):=fun st er h=>by
 unfold D6 at h;cases hr:p st with
 |error e=>simp only[hr]at h;cases h;exact hp st _ hr
 |ok q=>simp only[hr]at h;exact hm q.1 q.2 er h
theorem a3C{a:α}:Y8 (fun st=> .ok (a,st)):=fun st er h=>by cases h
theorem a0v(f:ByteArray)(k:Nat):Y8 (A9 f k):=fun st er h=>by
 unfold A9 at h;split at h
 ·cases h
 ·cases h;show 0<2;omega
theorem b0B{p:St→R α}(hp:Y8 p):∀n,Y8 (D7 p n)
 |0=>fun st er h=>by simp only[D7]at h;cases h
 |n+1=>fun st er h=>by
  simp only[D7]at h;cases hq:p st with
  |error e=>rw[hq]at h;cases h;exact hp st _ hq
  |ok q=>
   rw[hq]at h;dsimp only at h;cases hr:D7 p n q.2 with
   |error e=>rw[hr]at h;cases h;exact b0B hp n q.2 _ hr
   |ok q2=>rw[hr]at h;cases h
theorem a3E{p:St→R α}(hp:Y8 p)(f:ByteArray)(k:Nat):Y8 (D5 f k p):=by
 rw[a9G];exact V1 (a0v f k) fun n=>b0B hp n
theorem a3D(f:ByteArray):Y8 (name f):=by
 rw[a9B];refine V1 (a0v f 1) fun n st er h=> ?_
 split at h
 ·cases h
 ·cases h;show 0<5;omega
theorem a6B(f:ByteArray)(b:Bool):Y8 (T9 f b):=by
 cases b with
 |true=>exact a3D f
 |false=>exact a3C (a:=ByteArray.empty)
theorem a6Z(f:ByteArray):Y8 (kind f):=by
 rw[a6X];refine V1 (a0v f 1) fun k st er h=> ?_
 by_cases h4:4<k
 ·simp only[h4,if_true]at h;cases h;show 0<3;omega
 ·simp only[h4,if_false]at h;exact V1 (a6B f _) (fun n=>a3C) st er h
theorem b7G(f:ByteArray):Y8 (O3 f):=fun st er h=>by
 unfold O3 at h;cases h1:A9 f 1 st with
 |error e=>rw[h1]at h;cases h;exact a0v f 1 st _ h1
 |ok q=>
  rw[h1]at h;dsimp only at h;split at h
  ·cases h;show 0<3;omega
  ·cases h2:A9 f (L5 q.1) q.2 with
   |error e=>rw[h2]at h;cases h;exact a0v f _ _ _ h2
   |ok q2=>
    rw[h2]at h;dsimp only at h;cases h3:T9 f (Z4 q.1) q2.2 with
    |error e=>rw[h3]at h;cases h;exact a6B f _ _ _ h3
    |ok q3=>
     rw[h3]at h;dsimp only at h;cases h4:T9 f (b7 q.1) q3.2 with
     |error e=>rw[h4]at h;cases h;exact a6B f _ _ _ h4
     |ok q4=>rw[h4]at h;cases h
theorem b2S(f:ByteArray):Y8 (V3 f):=by
 rw[a6u];exact V1 (a0v f 2) fun a=>V1 (a0v f 2) fun b=>V1 (a0v f 2) fun c=>V1 (a3D f) fun n=>a3C
theorem b4P(f:ByteArray):Y8 (Y6 f):=by
 rw[a6K];exact V1 (a3D f) fun n=>V1 (a6Z f) fun t=>a3C
theorem b6e(f:ByteArray):Y8 (meth f):=by
 rw[a6V]
 exact V1 (a3D f) fun n=>V1 (a3E (a6Z f) f 1) fun ps=>V1 (a6Z f) fun t=>V1 (a0v f 1) fun s=>V1 (a0v f 1) fun l=>
  V1 (a3E (b7G f) f 2) fun is=>V1 (a3E (b2S f) f 1) fun hs2=>a3C
theorem b7H(f:ByteArray):Y8 (cls f):=by
 rw[a7o];exact V1 (a3D f) fun n=>V1 (a3D f) fun s=>V1 (a3E (b4P f) f 1) fun fs=>V1 (a3E (b6e f) f 1) fun ms=>a3C
theorem b6d(f:ByteArray):Y8 (K0 f):=fun st er h=>by
 unfold K0 at h;cases hn:V2 f st with
 |error e=>
  rw[hn]at h;cases h;unfold V2 at hn;cases h1:A9 f 1 st with
  |error e=>rw[h1]at hn;cases hn;exact a0v f 1 st _ h1
  |ok q=>
   rw[h1]at hn;dsimp only at hn;split at hn
   ·split at hn
    ·cases hn
    ·cases hn;show 0<4;omega
   ·cases hn;show 0<2;omega
 |ok q=>rw[hn]at h;cases h
theorem a9h(f:ByteArray)(c i:Nat):Y8 (I8 f c i):=fun st er h=>by
 unfold I8 at h;cases h1:A9 f 1 st with
 |error e=>rw[h1]at h;cases h;exact a0v f 1 st _ h1
 |ok q=>
  rw[h1]at h;dsimp only at h;split at h
  ·cases h
  ·cases h;show 0<3;omega
theorem a5R{f:ByteArray}{er:Er}(h:F7 f= .error er):0<er.1:=by
 unfold F7 at h;split at h
 ·cases h;show 0<1;omega
 ·cases h1:I8 f 87 0 ⟨0,0,[]⟩with
  |error e=>rw[h1]at h;cases h;exact a9h f _ _ _ _ h1
  |ok q=>
   rw[h1]at h;dsimp only at h;cases h2:I8 f 49 1 q.2 with
   |error e=>rw[h2]at h;cases h;exact a9h f _ _ _ _ h2
   |ok q2=>
    rw[h2]at h;dsimp only at h;cases h3:D5 f 1 (K0 f) q2.2 with
    |error e=>rw[h3]at h;cases h;exact a3E (b6d f) f 1 _ _ h3
    |ok q3=>
     rw[h3]at h;dsimp only at h;cases h4:cls f q3.2 with
     |error e=>rw[h4]at h;cases h;exact b7H f _ _ h4
     |ok q4=>
      rw[h4]at h;dsimp only at h;split at h
      ·cases h;show 0<5;omega
      ·split at h
       ·cases h;show 0<6;omega
       ·cases h
end Cf
namespace Kx
def P9(s:ByteArray):List Value:=[.string s]
def a8g(B:Nat)(files:List ByteArray)(e:Ending)(w':World):Prop:=
 (∃(j:Nat) (hj:j<files.length) (er:Er),F7 files[j]= .error er∧(∀i (hi:i<files.length),i<j→∃c,F7 files[i]= .ok c)∧e= .returned (.tuple #[.slice none 0 0, .int .i64 er.1, .agg #[.int .i64 j, .int .i64 0, .int .i64 er.2]]))∨
 (∃(fs:List Cl) (v:Value) (qf:Nat→Qs),fs.length=files.length∧(∀i (hi:i<files.length),F7 files[i]= .ok (cl fs i))∧e= .returned (.tuple #[v, .int .i64 0, .agg #[.int .i64 0, .int .i64 0, .int .i64 0]])∧T0 w' B v fs qf)
variable {w w':World}
variable {c:Cl}
variable {e:Ending}
theorem a9k(h:a5S w (.ok c) e w'):w.grownBy w' none∧∃q,e= .returned (.tuple #[.agg #[.string c.name, .string c.super, .slice q.fa c.fields.length q.fk, .slice q.ma c.methods.length q.mc], .int .i64 0, .int .i64 0])∧LC w' w.heap.size q c:=by
 obtain⟨hg,v,k,rfl,hc,rfl⟩:=h;obtain⟨q,rfl,hl⟩:=LC.of hc;exact⟨hg,q,rfl,hl⟩
variable {er:Er}
theorem a8O(h:a5S w (.error er) e w'):w.grownBy w' none∧e= .returned (.tuple #[.agg #[.string ⟨#[]⟩, .string ⟨#[]⟩, .slice none 0 0, .slice none 0 0], .int .i64 er.1, .int .i64 er.2]):=by
 obtain⟨hg,v,k,rfl,rfl,rfl⟩:=h;exact⟨hg,rfl⟩
variable {B k:Nat}
theorem LC.far{q:Qs}(h:LC w B q c)(hg:w.grownBy w' (some k))(hk:k<B):LC w' B q c:=⟨h.1.keep hg (fun x e=>by cases e;exact hk),h.2.keep hg (fun x e=>by cases e;exact hk)⟩
variable {v:Value}
variable {fs:List Cl}
variable {qf:Nat→Qs}
theorem T0.far(h:T0 w B v fs qf)(hg:w.grownBy w' (some k))(hk:k<B):T0 w' B v fs qf:=
 ⟨h.own.kept hg (.inr (E9 h.own hk)),fun i hi=>(h.lc i hi).far hg hk⟩
theorem NC(w:World)(c:Cl)(q:Qs):Hid (∀j u,(F8 c q)[j]? =some u→((w.alloc (.cells #[.string c.name, .string c.super, .slice q.fa c.fields.length q.fk, .slice q.ma c.methods.length q.mc] 44)).alloc (.cells #[.string c.name, .string c.super, .slice q.fa c.fields.length q.fk, .slice q.ma c.methods.length q.mc] 44)).cell? ((⟨w.heap.size+1,0,none⟩:Addr).add j)=some u):=by
 have:=O5 (w.alloc (.cells #[.string c.name, .string c.super, .slice q.fa c.fields.length q.fk, .slice q.ma c.methods.length q.mc] 44)) (F8 c q) 44;unfold Hid;simpa[F8]using this
theorem T0.ownk(h:T0 w B v fs qf)(hk:fs.length=k):w.ownsRow B 44 4 v k ((List.range fs.length).flatMap (K4 fs qf)):=by
 subst hk;exact h.own
theorem b0f{s n:Nat}{t:TypeId}{xs:List Value}(hk:n=k)(h:w.ownsRow B t s v (k+1) xs):w.ownsRow B t s v (n+1) xs:=by
 subst hk;exact h
set_option maxRecDepth 100000 in
set_option maxHeartbeats 4000000 in
theorem a8w(w:World)(lim:Nat)(hl:lim≤w.heap.size)(files:List ByteArray)(a:Option Addr)(kk:Nat)(hR:Hid (C0 w lim 1 P9 a files))(hz:Hid (∀s∈files,s.size≤maxLen))(hn12:files.length≤12)(hS:Hid (p9 w)):
 Calls Tryz.prog 59 #[.slice a files.length kk] w fun e w'=>w.grownBy w' none∧a8g (w.heap.size+1) files e w':=by
 obtain⟨n,hn⟩:∃n,n=files.length:=⟨_,rfl⟩
 have HN:=A0 hn;rw[←hn]at hn12⊢;clear hn;have HB0:Hid (A3 (w.alloc (.cells #[.int .i64 0, .int .i64 0, .int .i64 0] 78)) w.heap.size #[.int .i64 0, .int .i64 0, .int .i64 0] 78):=A3.new w _ _;have HG0:Hid (w.grownBy (w.alloc (.cells #[.int .i64 0, .int .i64 0, .int .i64 0] 78)) none):=A2 _ _ _;go_enter Tryz.func59,Tryz.ntmps59;go_wp2_with fail
 go_loopw [5,13] (fun o i wr=>∃(k:Nat) (fs:List Cl) (qf:Nat→Qs),k≤n∧fs.length=k∧i= .int .i64 k∧Hid (T0 wr (w.heap.size+1) o fs qf)∧Hid (∀j (hj:j<files.length),j<k→F7 files[j]= .ok (cl fs j))∧Hid (A3 wr w.heap.size #[.int .i64 0, .int .i64 0, .int .i64 0] 78)∧Hid (w.grownBy wr none)) (fun _ i _=>n-(intOf i).toNat)
 case atStart=>exact⟨0,[],fun _=>q0,by omega,rfl,rfl,T0.nil _ _ _,fun j _ hj=>by omega,HB0,HG0⟩
 case round=>
  obtain⟨k,fs,qf,hk,hfl,rfl,hD,hall,hb,hg⟩:=hrel;obtain⟨va,vk,rfl⟩:=F1 hD.out.own;have HFL:=A0 hfl;rw[hfl];by_cases hlt:k<n
  ·have hkl:k<files.length:=by rw[←HN.out];exact hlt
   obtain⟨p,hp,-,hc⟩:=hR.out.keep hg.out k hkl;have c0:wr.cell? (p.add k)=some (.string files[k]):=by have:=hc 0 _ rfl;simpa using this
   subst hp;clear hc;obtain⟨s,hs⟩:∃s,s=files[k]:=⟨_,rfl⟩
   rw[←hs]at c0;have HSZ:s.size≤maxLen:=by rw[hs];exact hz.out _ (List.getElem_mem hkl)
   have HS1:=A0 hs;have HSh:=A0 (hS.out.keep hg.out (by simp));clear hs hfl;cases hd:F7 s with
   |error er=>
    have her:=a5R hd;have HDE:=A0 hd;have hne:(er.1:Int)≠0:=by omega
    clear hd;go_wp2_with (go_at_call 18;refine(a9j _ s HSZ HSh).mono ?_;intro e w4 he;rw[HDE.out]at he;obtain⟨hg4,rfl⟩:=a8O he;clear he;have hb4:=(hb.out.keep hg4 (by simp)).keep (A2 w4 (.cells #[.string ⟨#[]⟩, .string ⟨#[]⟩, .slice none 0 0, .slice none 0 0] 44) none) (by simp);have r0:=hb4.cell 0 _ rfl;have r1:=hb4.cell 1 _ rfl;have r2:=hb4.cell 2 _ rfl;have z0:=hb4.frozen 0;have z1:=hb4.frozen 1;have z2:=hb4.frozen 2;have HB4:=F5 hb4;have HG4:=F5 (A1 (A1 hg.out hg4) (A2 w4 (.cells #[.string ⟨#[]⟩, .string ⟨#[]⟩, .slice none 0 0, .slice none 0 0] 44) none));clear hb4 hg4)
    clear r0 r1 r2 z0 z1 z2;generalize w4.alloc (.cells #[.string ⟨#[]⟩, .string ⟨#[]⟩, .slice none 0 0, .slice none 0 0] 44)=W5 at HB4 HG4⊢;have hb6:=((HB4.out.set 0 (.int .i64 k)).set 1 (.int .i64 0)).set 2 (.int .i64 er.2);have hg6:=x9 (w:=w) HG4.out (Nat.le_refl _) (i:=0) (j:=1) (k:=2) (x:= .int .i64 k) (y:= .int .i64 0) (z:= .int .i64 er.2);generalize ((W5.setCell ⟨w.heap.size,0,none⟩ (.int .i64 k)).setCell ⟨w.heap.size,1,none⟩ (.int .i64 0)).setCell ⟨w.heap.size,2,none⟩ (.int .i64 er.2)=W6 at hb6 hg6⊢;have q0:=hb6.c0;have q1:=hb6.c1;have q2:=hb6.c2;refine bodyPost_ret (v:= .tuple #[.slice none 0 0, .int .i64 er.1, .agg #[.int .i64 k, .int .i64 0, .int .i64 er.2]]) (by simp[results,Tryz.results59,go_sem,q0,q1,q2]) rfl ⟨hg6, .inl ⟨k,hkl,er,by rw[←HS1.out];exact HDE.out,fun i hi hik=>⟨_,hall.out i hi hik⟩,rfl⟩⟩
   |ok c=>
    have HDE:=A0 hd;clear hd;obtain⟨inf,hi0,hz0,hz1,hz2⟩:=info_parts a3R;rw[HFL.out]at hD
    go_wp2_with (first
     |(go_at_call 18;refine(a9j _ s HSZ HSh).mono ?_;intro e w4 he;rw[HDE.out]at he;obtain⟨hg4,q,rfl,hlc⟩:=a9k he;clear he;have HLC:=F5 hlc;have HG4:=F5 hg4;clear hlc hg4)
     |(at_builtin;go_loud (refine wpList_append_own _ rfl _ _ 90 rfl (w.heap.size+1) 44 inf _ 4 80 Tryz.underlying90 hi0 hz0 hz1 hz2 rfl (by decide) _ k ((List.range fs.length).flatMap (K4 fs qf)) rfl (World.ownsRow.alloc (World.ownsRow.alloc ((T0.keep hD.out HG4.out).ownk HFL.out) _) _) ⟨w4.heap.size+1,0,none⟩ 1 1 (F8 c q) rfl rfl (NC w4 c q).out (by simp[F8,Value.oneCell']) (by unfold maxLen;omega) (by omega) (by have:=hg.out.size;have:=HG4.out.size;have:=hb.out.lt;simp;omega) ?_;intro v' w6 hown hgrow _;have HD6:=F5 (T0.push (((T0.keep hD.out HG4.out).keep (A2 w4 (.cells #[.string c.name, .string c.super, .slice q.fa c.fields.length q.fk, .slice q.ma c.methods.length q.mc] 44) none)).keep (A2 _ (.cells #[.string c.name, .string c.super, .slice q.fa c.fields.length q.fk, .slice q.ma c.methods.length q.mc] 44) none)) (((HLC.out.lower (by have:=hg.out.size;have:=hb.out.lt;omega)).keep (A2 w4 (.cells #[.string c.name, .string c.super, .slice q.fa c.fields.length q.fk, .slice q.ma c.methods.length q.mc] 44) none)).keep (A2 _ (.cells #[.string c.name, .string c.super, .slice q.fa c.fields.length q.fk, .slice q.ma c.methods.length q.mc] 44) none)) (b0f HFL.out hown) hgrow);have HG6:=F5 (C7 (A1 (A1 (A1 hg.out HG4.out) (A2 w4 (.cells #[.string c.name, .string c.super, .slice q.fa c.fields.length q.fk, .slice q.ma c.methods.length q.mc] 44) none)) (A2 _ (.cells #[.string c.name, .string c.super, .slice q.fa c.fields.length q.fk, .slice q.ma c.methods.length q.mc] 44) none)) hgrow (fun x e=> .inl (by have:=(K9 hD.out.own e).1;omega)));have HB6:=F5 ((((hb.out.keep HG4.out (by simp)).keep (A2 w4 (.cells #[.string c.name, .string c.super, .slice q.fa c.fields.length q.fk, .slice q.ma c.methods.length q.mc] 44) none) (by simp)).keep (A2 _ (.cells #[.string c.name, .string c.super, .slice q.fa c.fields.length q.fk, .slice q.ma c.methods.length q.mc] 44) none) (by simp)).keep hgrow (fun e=>E9 hD.out.own (Nat.lt_succ_self _) e.symm));clear hown hgrow)))
    go_roundw
    case rel=>exact⟨k+1,fs++ [c],a2B qf fs.length q,by omega,by simp[HFL.out],by go_num,HD6,by
     intro j hj hjk;rcases Nat.lt_or_ge j k with h1|h1
     ·rw[L9 (by rw[HFL.out];exact h1)];exact hall.out j hj h1
     ·obtain rfl:j=k:=by omega
      have e2:cl (fs++ [c]) j=c:=by rw[←HFL.out];exact a4N _ _
      rw[e2];have:=HDE.out;rw[HS1.out]at this;exact this,HB6,HG6⟩
    case measure=>simp[intOf];omega
  ·have hkn:k=n:=by omega
   rw[HFL.out]at hD;have r0:=hb.out.cell 0 _ rfl;have r1:=hb.out.cell 1 _ rfl;have r2:=hb.out.cell 2 _ rfl;have z0:=hb.out.frozen 0;have z1:=hb.out.frozen 1;have z2:=hb.out.frozen 2;go_wp2_with fail
   clear r0 r1 r2 z0 z1 z2;have hb6:=((hb.out.set 0 (.int .i64 0)).set 1 (.int .i64 0)).set 2 (.int .i64 0);have hg6:=x9 (w:=w) hg.out (Nat.le_refl _) (i:=0) (j:=1) (k:=2) (x:= .int .i64 0) (y:= .int .i64 0) (z:= .int .i64 0);have hs6:=A1 (A1 (A6 wr ⟨w.heap.size,0,none⟩ (.int .i64 0)) (A6 _ ⟨w.heap.size,1,none⟩ (.int .i64 0))) (A6 _ ⟨w.heap.size,2,none⟩ (.int .i64 0));generalize ((wr.setCell ⟨w.heap.size,0,none⟩ (.int .i64 0)).setCell ⟨w.heap.size,1,none⟩ (.int .i64 0)).setCell ⟨w.heap.size,2,none⟩ (.int .i64 0)=W6 at hb6 hg6 hs6⊢;have q0:=hb6.c0;have q1:=hb6.c1;have q2:=hb6.c2;refine bodyPost_ret (v:= .tuple #[.slice va k vk, .int .i64 0, .agg #[.int .i64 0, .int .i64 0, .int .i64 0]]) (by simp[results,Tryz.results59,go_sem,q0,q1,q2]) rfl ⟨hg6, .inr ⟨fs, .slice va k vk,qf,by rw[HFL.out,hkn,HN.out],fun i hi=>hall.out i hi (by rw[hkn,HN.out];exact hi),rfl,?_⟩⟩;have:=hD.out.far hs6 (Nat.lt_succ_self _);exact this
def a6b(B0:Nat)(bo:Bool)(files:List ByteArray)(e:Ending)(w':World):Prop:=
 (12<files.length∧e= .returned (.tuple #[.pointer none, .int .i64 17, .agg #[.int .i64 0, .int .i64 0, .int .i64 0]]))∨
 (files.length≤12∧∃(j:Nat) (hj:j<files.length) (er:Er),F7 files[j]= .error er∧(∀i (hi:i<files.length),i<j→∃c,F7 files[i]= .ok c)∧e= .returned (.tuple #[.pointer none, .int .i64 er.1, .agg #[.int .i64 j, .int .i64 0, .int .i64 er.2]]))∨
 (files.length≤12∧∃(fs:List Cl),fs.length=files.length∧(∀i (hi:i<files.length),F7 files[i]= .ok (cl fs i))∧
   ((∃er:Er,P7 fs= .error er∧e= .returned (.tuple #[.pointer none, .int .i64 er.1, .agg #[.int .i64 er.2, .int .i64 0, .int .i64 0]]))∨
    (P7 fs= .ok ()∧∃(P B b:Nat) (v:Value) (m1 m2 m3:Nat) (qf:Nat→Qs),e= .returned (.tuple #[.pointer (some ⟨P,0,none⟩), .int .i64 0, .agg #[.int .i64 0, .int .i64 0, .int .i64 0]])∧
      B0≤P∧B0≤B∧A3 w' P #[v, .map (some m1), .map (some m2), .map (some m3), .bool bo] 158∧Gm w' B b v m1 m2 m3 (A5++fs) (K6 qf))))
theorem a5J{files:List ByteArray}(hl:fs.length=files.length)(h:∀i (hi:i<files.length),F7 files[i]= .ok (cl fs i)):∀c∈fs,i8 c:=fun c hc=>by
 obtain⟨i,hi,rfl⟩:=List.getElem_of_mem hc;have:=h i (by omega);rw[U3 hi]at this;exact Cf.b1t this
theorem a7j:∀(rs:List (Nat→Bool)) (n k:Nat) (er:Er),V0 rs n k= .error er→k≤er.1
 | [],n,k,er,h=>by simp[V0]at h
 |r::rs,n,k,er,h=>by
  simp only[V0]at h;split at h
  ·cases h;exact Nat.le_refl _
  ·exact Nat.le_trans (Nat.le_succ _) (a7j rs n (k+1) er h)
theorem b0p(h:P7 fs= .error er):0<er.1:=Nat.lt_of_lt_of_le (by decide) (a7j _ _ _ _ h)
set_option maxRecDepth 100000 in
set_option maxHeartbeats 4000000 in
theorem b7j(w:World)(lim:Nat)(hl:lim≤w.heap.size)(files:List ByteArray)(a:Option Addr)(kk:Nat)(hR:Hid (C0 w lim 1 P9 a files))(hz:Hid (∀s∈files,s.size≤maxLen))(hS:Hid (p9 w))(hBin:Hid (Bin w)):
 Calls Tryz.prog 31 #[.slice a files.length kk, .bool false] w fun e w'=>w.grownBy w' none∧a6b w.heap.size false files e w':=by
 obtain⟨n,hn⟩:∃n,n=files.length:=⟨_,rfl⟩
 have HN:=A0 hn
 have HDA:Hid (n≤12→Calls Tryz.prog 59 #[.slice a n kk] (w.alloc (.cells #[.int .i64 0, .int .i64 0, .int .i64 0] 78)) fun e w'=>(w.alloc (.cells #[.int .i64 0, .int .i64 0, .int .i64 0] 78)).grownBy w' none∧a8g (w.heap.size+2) files e w'):=fun h12=>by
  have:=a8w (w.alloc (.cells #[.int .i64 0, .int .i64 0, .int .i64 0] 78)) lim (by simp;omega) files a kk (hR.out.keep (A2 _ _ _)) hz (by omega) (hS.out.keep (A2 w (.cells #[.int .i64 0, .int .i64 0, .int .i64 0] 78) none) (by simp));rw[←hn,World.size_alloc]at this;exact this
 rw[←hn];clear hn;have HB0:Hid (A3 (w.alloc (.cells #[.int .i64 0, .int .i64 0, .int .i64 0] 78)) w.heap.size #[.int .i64 0, .int .i64 0, .int .i64 0] 78):=A3.new w _ _;have HG0:Hid (w.grownBy (w.alloc (.cells #[.int .i64 0, .int .i64 0, .int .i64 0] 78)) none):=A2 _ _ _;have HBN:Hid (Bin w):=hBin;clear hR hS hBin;by_cases h12:12<n
 ·go_enter Tryz.func31,Tryz.ntmps31;have r0:=HB0.out.cell 0 _ rfl;have r1:=HB0.out.cell 1 _ rfl;have r2:=HB0.out.cell 2 _ rfl;have z0:=HB0.out.frozen 0;have z1:=HB0.out.frozen 1;have z2:=HB0.out.frozen 2;go_wp2_with fail
  refine bodyPost_ret (v:= .tuple #[.pointer none, .int .i64 17, .agg #[.int .i64 0, .int .i64 0, .int .i64 0]]) (by simp[results,Tryz.results31,go_sem,r0,r1,r2]) rfl ⟨HG0.out, .inl ⟨by rw[←HN.out];exact h12,rfl⟩⟩
 ·go_enter Tryz.func31,Tryz.ntmps31;go_wp2_with (go_at_call 59;refine(HDA.out (by omega)).mono ?_)
  rintro e w1 ⟨hg1,⟨j,hj,er,hde,hpre,rfl⟩|⟨fs,v,qf,hfl,hall,rfl,hD⟩⟩
  ·have her:=a5R hde;have hne:(er.1:Int)≠0:=by omega
   have HDE:=A0 hde;have HPR:=F5 hpre;clear hde hpre her;have hb1:=HB0.out.keep hg1 (by simp);have hq1:=hb1.keep (A2 w1 (.cells #[.int .i64 j, .int .i64 0, .int .i64 er.2] 78) none) (by simp);have hP1:A3 (w1.alloc (.cells #[.int .i64 j, .int .i64 0, .int .i64 er.2] 78)) w1.heap.size #[.int .i64 j, .int .i64 0, .int .i64 er.2] 78:=A3.new w1 _ _;have z0:=hq1.frozen 0;have z1:=hq1.frozen 1;have z2:=hq1.frozen 2;have r0:=hq1.cell 0 _ rfl;have r1:=hq1.cell 1 _ rfl;have r2:=hq1.cell 2 _ rfl;have p0:=hP1.cell 0 _ rfl;have p1:=hP1.cell 1 _ rfl;have p2:=hP1.cell 2 _ rfl;have hg5w:w.grownBy (w1.alloc (.cells #[.int .i64 j, .int .i64 0, .int .i64 er.2] 78)) none:=A1 (A1 HG0.out hg1) (A2 _ _ _);go_wp2_with fail
   go_region
   all_goals
    have hb6:=A3.keep (row:=none) (((hq1.set 0 (.int .i64 j)).set 1 (.int .i64 0)).set 2 (.int .i64 er.2)) (B8 _ none) (by simp);have hg6:=A1 (x9 (w:=w) hg5w (Nat.le_refl _) (i:=0) (j:=1) (k:=2) (x:= .int .i64 j) (y:= .int .i64 0) (z:= .int .i64 er.2)) (B8 _ none);clear r0 r1 r2 z0 z1 z2 p0 p1 p2;generalize ((((w1.alloc (.cells #[.int .i64 j, .int .i64 0, .int .i64 er.2] 78)).setCell ⟨w.heap.size,0,none⟩ (.int .i64 j)).setCell ⟨w.heap.size,1,none⟩ (.int .i64 0)).setCell ⟨w.heap.size,2,none⟩ (.int .i64 er.2)).drew=W6 at hb6 hg6⊢;have q0:=hb6.c0;have q1:=hb6.c1;have q2:=hb6.c2;go_wp2_with fail
    refine bodyPost_ret (v:= .tuple #[.pointer none, .int .i64 er.1, .agg #[.int .i64 j, .int .i64 0, .int .i64 er.2]]) (by simp[results,Tryz.results31,go_sem,q0,q1,q2]) rfl ⟨hg6, .inr (.inl ⟨by rw[←HN.out];omega,j,hj,er,HDE.out,HPR.out,rfl⟩)⟩
  ·obtain⟨va,vk,rfl⟩:=F1 hD.own;have hck:=a5J hfl hall;have h12f:fs.length≤12:=by rw[hfl,←HN.out];omega
   obtain⟨W2,hW2⟩:∃W2,W2=w1.alloc (.cells #[.int .i64 0, .int .i64 0, .int .i64 0] 78):=⟨_,rfl⟩
   have hg12:w1.grownBy W2 none:=by rw[hW2];exact A2 _ _ _
   have hgv:=(hD.keep hg12).gvn hck h12f
   have HLK:Hid (Calls Tryz.prog 60 #[.slice va fs.length vk] W2 fun e w'=>W2.grownBy w' none∧a1V (W2.heap.size+1) fs qf (P7 fs) e w'):=
    b0r W2 W2.heap.size (Nat.le_refl _) fs qf va vk hgv.1 (fun c hc=>a3f (hck c hc)) (fun c hc=>(hck c hc).okCl) (b1h hck) hgv.2 (HBN.out.keep (A1 HG0.out (A1 hg1 hg12)))
   have hz2:W2.heap.size=w1.heap.size+1:=by rw[hW2];simp
   have HB1:=A0 ((HB0.out.keep hg1 (by simp)).keep hg12 (by simp));have HPL:Hid (A3 W2 w1.heap.size #[.int .i64 0, .int .i64 0, .int .i64 0] 78):=by rw[hW2];exact A3.new w1 _ _
   have HGW:=A0 (A1 HG0.out (A1 hg1 hg12));have HALL:=F5 hall;have HFL:=F5 hfl;have HZ2:=F5 hz2;rw[hz2]at HLK;clear hck hg12 hgv hD hall hfl HDA hg1 hz2;rw[hW2]at HLK HB1 HPL HGW;go_wp2_with (go_at_call 60;refine HLK.out.mono ?_)
   rintro e w3 ⟨hg3,hla⟩;have hb3:=HB1.out.keep hg3 (by simp);cases hlp:P7 fs with
   |error er=>
    rw[hlp]at hla;obtain rfl:=hla;have HLP:=A0 hlp;have hne:(er.1:Int)≠0:=by have:=b0p hlp;omega
    clear hlp;have hb4:=hb3.keep (A2 w3 (.cells #[.slice none 0 0, .map none, .map none, .map none] 151) none) (by simp);have hg4w:w.grownBy (w3.alloc (.cells #[.slice none 0 0, .map none, .map none, .map none] 151)) none:=A1 (A1 HGW.out hg3) (A2 _ _ _);have r0:=hb4.cell 0 _ rfl;have r1:=hb4.cell 1 _ rfl;have r2:=hb4.cell 2 _ rfl;have z0:=hb4.frozen 0;have z1:=hb4.frozen 1;have z2:=hb4.frozen 2;go_wp2_with fail
    clear r0 r1 r2 z0 z1 z2;have hb6:=((hb4.set 0 (.int .i64 er.2)).set 1 (.int .i64 0)).set 2 (.int .i64 0);have hg6:=x9 (w:=w) hg4w (Nat.le_refl _) (i:=0) (j:=1) (k:=2) (x:= .int .i64 er.2) (y:= .int .i64 0) (z:= .int .i64 0);generalize (((w3.alloc (.cells #[.slice none 0 0, .map none, .map none, .map none] 151)).setCell ⟨w.heap.size,0,none⟩ (.int .i64 er.2)).setCell ⟨w.heap.size,1,none⟩ (.int .i64 0)).setCell ⟨w.heap.size,2,none⟩ (.int .i64 0)=W6 at hb6 hg6⊢;have q0:=hb6.c0;have q1:=hb6.c1;have q2:=hb6.c2;refine bodyPost_ret (v:= .tuple #[.pointer none, .int .i64 er.1, .agg #[.int .i64 er.2, .int .i64 0, .int .i64 0]]) (by simp[results,Tryz.results31,go_sem,q0,q1,q2]) rfl ⟨hg6, .inr (.inr ⟨by rw[←HN.out];omega,fs,HFL.out,HALL.out, .inl ⟨er,HLP.out,rfl⟩⟩)⟩
   |ok u=>
    rw[hlp]at hla;obtain⟨b,v,m1,m2,m3,rfl,hgm⟩:=hla;obtain⟨ra,rk,rfl⟩:=F1 hgm.own;obtain⟨NL,hNL⟩:∃NL,NL=(A5++fs).length:=⟨_,rfl⟩
    rw[←hNL]at hgm⊢;clear hNL;have HLP:Hid (P7 fs= .ok ()):=hlp;have HGM:=F5 hgm;clear hlp hgm;have hb4:=(hb3.keep (A2 w3 (.cells #[.slice ra NL rk, .map (some m1), .map (some m2), .map (some m3)] 151) none) (by simp)).keep (A2 _ (.cells #[.slice ra NL rk, .map (some m1), .map (some m2), .map (some m3), .bool false] 158) none) (by simp);have hg4w:w.grownBy ((w3.alloc (.cells #[.slice ra NL rk, .map (some m1), .map (some m2), .map (some m3)] 151)).alloc (.cells #[.slice ra NL rk, .map (some m1), .map (some m2), .map (some m3), .bool false] 158)) none:=A1 (A1 (A1 HGW.out hg3) (A2 _ _ _)) (A2 _ _ _)
    have hp5:A3 ((w3.alloc (.cells #[.slice ra NL rk, .map (some m1), .map (some m2), .map (some m3)] 151)).alloc (.cells #[.slice ra NL rk, .map (some m1), .map (some m2), .map (some m3), .bool false] 158)) (w3.heap.size+1) #[.slice ra NL rk, .map (some m1), .map (some m2), .map (some m3), .bool false] 158:=by
     have:=A3.new (w3.alloc (.cells #[.slice ra NL rk, .map (some m1), .map (some m2), .map (some m3)] 151)) #[.slice ra NL rk, .map (some m1), .map (some m2), .map (some m3), .bool false] 158;rw[World.size_alloc]at this;exact this
    have HP5:=F5 hp5;have HGM5:=F5 ((HGM.out.keep (A2 w3 (.cells #[.slice ra NL rk, .map (some m1), .map (some m2), .map (some m3)] 151) none)).keep (A2 _ (.cells #[.slice ra NL rk, .map (some m1), .map (some m2), .map (some m3), .bool false] 158) none));have HB4:=F5 hb4;have HG4:=F5 hg4w;have n0:=(A3.new w3 #[.slice ra NL rk, .map (some m1), .map (some m2), .map (some m3)] 151).c0;have n1:=(A3.new w3 #[.slice ra NL rk, .map (some m1), .map (some m2), .map (some m3)] 151).c1;have n2:=(A3.new w3 #[.slice ra NL rk, .map (some m1), .map (some m2), .map (some m3)] 151).c2;have n3:=(A3.new w3 #[.slice ra NL rk, .map (some m1), .map (some m2), .map (some m3)] 151).c3;have r0:=hb4.cell 0 _ rfl;have r1:=hb4.cell 1 _ rfl;have r2:=hb4.cell 2 _ rfl;have z0:=hb4.frozen 0;have z1:=hb4.frozen 1;have z2:=hb4.frozen 2;clear hp5 hb4 hg4w;go_wp2_with fail
    clear r0 r1 r2 z0 z1 z2 n0 n1 n2 n3;have hb6:=((HB4.out.set 0 (.int .i64 0)).set 1 (.int .i64 0)).set 2 (.int .i64 0);have hs6:=A1 (A1 (A6 ((w3.alloc (.cells #[.slice ra NL rk, .map (some m1), .map (some m2), .map (some m3)] 151)).alloc (.cells #[.slice ra NL rk, .map (some m1), .map (some m2), .map (some m3), .bool false] 158)) ⟨w.heap.size,0,none⟩ (.int .i64 0)) (A6 _ ⟨w.heap.size,1,none⟩ (.int .i64 0))) (A6 _ ⟨w.heap.size,2,none⟩ (.int .i64 0));have hg6:=x9 (w:=w) HG4.out (Nat.le_refl _) (i:=0) (j:=1) (k:=2) (x:= .int .i64 0) (y:= .int .i64 0) (z:= .int .i64 0);generalize ((((w3.alloc (.cells #[.slice ra NL rk, .map (some m1), .map (some m2), .map (some m3)] 151)).alloc (.cells #[.slice ra NL rk, .map (some m1), .map (some m2), .map (some m3), .bool false] 158)).setCell ⟨w.heap.size,0,none⟩ (.int .i64 0)).setCell ⟨w.heap.size,1,none⟩ (.int .i64 0)).setCell ⟨w.heap.size,2,none⟩ (.int .i64 0)=W6 at hb6 hg6 hs6⊢;have q0:=hb6.c0;have q1:=hb6.c1;have q2:=hb6.c2;have hbt:=hb3.lt;have hw1:=HGW.out.size;refine bodyPost_ret (v:= .tuple #[.pointer (some ⟨w3.heap.size+1,0,none⟩), .int .i64 0, .agg #[.int .i64 0, .int .i64 0, .int .i64 0]]) (by simp[results,Tryz.results31,go_sem,q0,q1,q2]) rfl ⟨hg6, .inr (.inr ⟨by rw[←HN.out];omega,fs,HFL.out,HALL.out, .inr ⟨HLP.out,w3.heap.size+1,w1.heap.size+1+1,b,_,m1,m2,m3,qf,rfl,(by have:=HGW.out.size;have:=hg3.size;simp at*;omega),(by have:=HGW.out.size;simp at*;omega),HP5.out.keep hs6 (by simp;omega),Am.far HGM5.out hs6 (by show w.heap.size<_;simp at hw1;omega)⟩⟩)⟩
end Kx
theorem b1f:wrap64 ((ByteArray.mk #[87,49])[0].toNat:Int)=87:=by kernel_rfl
theorem b1g:wrap64 ((ByteArray.mk #[87,49])[1].toNat:Int)=49:=by kernel_rfl
theorem b4B(f:ByteArray)(c i:Nat):I8 f c i=fun st=>D6 (A9 f 1 st) fun n st1=>if n=c then .ok ((),st1)else .error (3,i):=by
 funext st
 unfold I8 D6;cases A9 f 1 st<;>rfl
theorem a7c(f:ByteArray)(c i:Nat)(s:Except Er St):C6 s (I8 f c i)=D6 (C6 s (A9 f 1)) fun n st1=>if n=c then .ok ((),st1)else .error (3,i):=by
 rw[b4B,a5K]
variable {f:ByteArray}
variable {E b c i n:Nat}
variable {s:Except Er St}
theorem a8o{er:Er}(h:E6 (C6 s (A9 f 1))= .error er):C8 s (I8 f c i) () (.error er):=by
 have e:C6 s (I8 f c i)= .error er:=by
  rw[a7c];cases hr:C6 s (A9 f 1)with
  |error er'=>rw[hr]at h;cases h;rfl
  |ok q=>rw[hr]at h;cases h
 unfold C8;rw[e];exact⟨(fun _ _ e=>by cases e),rfl⟩
variable {st1:St}
theorem a8s(hn:∀a' st,C6 s (A9 f 1)= .ok (a',st)→a'=n)(h:E6 (C6 s (A9 f 1))= .ok st1)(hc:n=c):C8 s (I8 f c i) () (.ok st1):=by
 have e:C6 s (I8 f c i)= .ok ((),st1):=by
  rw[a7c];cases hr:C6 s (A9 f 1)with
  |error er'=>rw[hr]at h;cases h
  |ok q=>
   obtain⟨a,st⟩:=q;rw[hr]at h;cases h;have:=hn a st1 hr;subst this;simp only[D6,hc,if_true]
 unfold C8;rw[e];exact⟨(fun _ _ e=>by cases e;rfl),rfl⟩
theorem a8t(hn:∀a' st,C6 s (A9 f 1)= .ok (a',st)→a'=n)(h:E6 (C6 s (A9 f 1))= .ok st1)(hc:¬n=c):C8 s (I8 f c i) () (.error (3,i)):=by
 have e:C6 s (I8 f c i)= .error (3,i):=by
  rw[a7c];cases hr:C6 s (A9 f 1)with
  |error er'=>rw[hr]at h;cases h
  |ok q=>
   obtain⟨a,st⟩:=q;have:=hn a st hr;subst this;simp only[D6,hc,if_false]
 unfold C8;rw[e];exact⟨(fun _ _ e=>by cases e),rfl⟩
variable {w:World}
variable {pv:Value}
theorem D9.errCell(h:D9 w b f pv s):∃x:Nat,w.cell? ⟨b,4,none⟩=some (.int .i64 x)∧((x=0∧∃st,s= .ok st)∨(x≠0∧∃er,s= .error er)):=by
 cases s with
 |ok st=>exact⟨0,h.2.cells0.2.2.2.2.1, .inl ⟨rfl,st,rfl⟩⟩
 |error er=>exact⟨er.1,h.err.1, .inr ⟨h.1,er,rfl⟩⟩
theorem a8W{α:Type}(er:Er)(p:St→R α)(a:α):C8 (.error er) p a (.error er):=⟨(fun _ _ e=>by cases e),rfl⟩
theorem D9.any(h:D9 w b f pv s):∃(a:Nat) (names:List ByteArray) (t:Int) (e p:Nat),Ey w b f pv a names t e p∧
 (∀st,s= .ok st→a=st.at_∧names=st.pool∧t=st.used-1∧e=0)∧(∀er,s= .error er→e=er.1∧p=er.2∧e≠0):=by
 cases s with
 |ok st=>exact⟨_,_,_,_,_,h.2,(fun _ e=>by cases e;exact⟨rfl,rfl,rfl,rfl⟩),(fun _ e=>by cases e)⟩
 |error er=>
  obtain⟨h1,a,names,t,h2⟩:=h;exact⟨_,_,_,_,_,h2,(fun _ e=>by cases e),(fun _ e=>by cases e;exact⟨rfl,rfl,h1⟩)⟩
def a2F(f:ByteArray)(s:Except Er St):Except Er St:=match s with| .ok st=>if st.used<st.pool.length then .error (5,f.size)else .ok st| .error er=> .error er
def a2a(f:ByteArray)(s:Except Er St):Except Er St:=match s with| .ok st=>if st.at_<f.size then .error (6,st.at_)else .ok st| .error er=> .error er
theorem b6M(f:ByteArray)(s:Except Er St):C8 s (a1C f) () (a2a f (a2F f s)):=by
 cases s with
 |error er=>exact a8W _ _ _
 |ok st=>
  unfold C8;simp only[C6,a1C,a2F];by_cases h1:st.used<st.pool.length
  ·simp only[h1,if_true,a2a];exact⟨(fun _ _ e=>by cases e),rfl⟩
  ·simp only[h1,if_false,a2a];by_cases h2:st.at_<f.size
   ·simp only[h2,if_true];exact⟨(fun _ _ e=>by cases e),rfl⟩
   ·simp only[h2,if_false];exact⟨(fun _ _ _=>trivial),rfl⟩
theorem b0j{k:Nat}(hs:∀st,s= .ok st→st.pool=[])(h:E6 (C6 s (A9 f k))= .ok st1):st1.pool=[]:=by
 cases s with
 |error er=>cases h
 |ok st=>
  cases hr:A9 f k st with
  |error er=>rw[show C6 (Except.ok st) (A9 f k)= .error er from hr]at h;cases h
  |ok q=>
   obtain⟨n,st2⟩:=q;rw[show C6 (Except.ok st) (A9 f k)= .ok (n,st2)from hr]at h;cases h;rw[(O6 hr).1];exact hs st rfl
theorem b5C{w':World}{st:St}{e:Ending}(h:b1G w b f (D5 f 1 (K0 f) st) e w'):e= .returned (.tuple #[])∧w.grownBy w' (some b)∧∃pv xs s3,D9 w' b f pv s3∧C8 (.ok st) (D5 f 1 (K0 f)) xs s3:=by
 obtain⟨h1,h2,pv,h3⟩:=h;cases hr:D5 f 1 (K0 f) st with
 |error er=>
  rw[hr]at h3;refine⟨h1,h2,pv,[],_,h3,?_⟩;unfold C8;rw[show C6 (Except.ok st) (D5 f 1 (K0 f))= .error er from hr];exact⟨(fun _ _ e=>by cases e),rfl⟩
 |ok q=>
  obtain⟨xs,st3⟩:=q;rw[hr]at h3;refine⟨h1,h2,pv,xs,_,h3,?_⟩;unfold C8;rw[show C6 (Except.ok st) (D5 f 1 (K0 f))= .ok (xs,st3)from hr];exact⟨(fun _ _ e=>by cases e;rfl),rfl⟩
def a7W(f:ByteArray)(R E:Nat)(t:Nat→Value):Act:=⟨#[.string f,t 1, .pointer (some ⟨R,0,none⟩), .int .i64 0, .int .i64 0, .pointer (some ⟨E,0,none⟩),t 6,t 7,t 8,t 9,t 10,t 11,t 12,t 13,t 14,t 15,t 16,t 17,t 18,t 19,t 20,t 21,t 22,t 23,t 24,t 25,t 26,t 27,t 28,t 29,t 30,t 31,t 32,t 33,t 34,t 35,t 36,t 37,t 38,t 39,t 40,t 41,t 42,t 43,t 44,t 45,t 46,t 47,t 48,t 49,t 50,t 51,t 52,t 53,t 54,t 55,t 56,t 57,t 58,t 59,t 60,t 61,t 62,t 63,t 64,t 65,t 66,t 67,t 68,t 69,t 70,t 71,t 72,t 73,t 74,t 75,t 76,t 77,t 78,t 79,t 80,t 81,t 82,t 83,t 84,t 85,t 86,t 87,t 88,t 89,t 90,t 91,t 92,t 93,t 94,t 95,t 96,t 97,t 98,t 99,t 100,t 101,t 102,t 103,t 104,t 105,t 106,t 107,t 108,t 109,t 110,t 111,t 112,t 113,t 114,t 115,t 116,t 117,t 118,t 119,t 120,t 121,t 122,t 123,t 124,t 125,t 126,t 127,t 128,t 129,t 130,t 131,t 132,t 133,t 134,t 135,t 136,t 137,t 138,t 139,t 140,t 141,t 142,t 143,t 144,t 145],[]⟩
def a6j(f:ByteArray)(R E C:Nat)(t:Nat→Value):Act:=⟨#[.string f,t 1, .pointer (some ⟨R,0,none⟩), .int .i64 0, .int .i64 0, .pointer (some ⟨E,0,none⟩),t 6,t 7, .pointer (some ⟨C,0,none⟩),t 9,t 10,t 11,t 12,t 13,t 14,t 15,t 16,t 17,t 18,t 19,t 20,t 21,t 22,t 23,t 24,t 25,t 26,t 27,t 28,t 29,t 30,t 31,t 32,t 33,t 34,t 35,t 36,t 37,t 38,t 39,t 40,t 41,t 42,t 43,t 44,t 45,t 46,t 47,t 48,t 49,t 50,t 51,t 52,t 53,t 54,t 55,t 56,t 57,t 58,t 59,t 60,t 61,t 62,t 63,t 64,t 65,t 66,t 67,t 68,t 69,t 70,t 71,t 72,t 73,t 74,t 75,t 76,t 77,t 78,t 79,t 80,t 81,t 82,t 83,t 84,t 85,t 86,t 87,t 88,t 89,t 90,t 91,t 92,t 93,t 94,t 95,t 96,t 97,t 98,t 99,t 100,t 101,t 102,t 103,t 104,t 105,t 106,t 107,t 108,t 109,t 110,t 111,t 112,t 113,t 114,t 115,t 116,t 117,t 118,t 119,t 120,t 121,t 122,t 123,t 124,t 125,t 126,t 127,t 128,t 129,t 130,t 131,t 132,t 133,t 134,t 135,t 136,t 137,t 138,t 139,t 140,t 141,t 142,t 143,t 144,t 145],[]⟩
def a6n(f:ByteArray)(R E:Nat)(Q:World→Prop)(a:Act)(w:World):Prop:=Q w∧∃t:Nat→Value,a=a7W f R E t
variable {Q:World→Prop}
theorem a6n.of{R:Nat}(a:Act)(h:a=a7W f R E (fun k=>a.tmps.getD k undef))(hR:Q w):a6n f R E Q a w:=⟨hR,_,h⟩
def DeJ(f:ByteArray)(R E C:Nat)(Q:World→Prop)(a:Act)(w:World):Prop:=Q w∧∃t:Nat→Value,a=a6j f R E C t
theorem DeJ.of{R C:Nat}(a:Act)(h:a=a6j f R E C (fun k=>a.tmps.getD k undef))(hR:Q w):DeJ f R E C Q a w:=⟨hR,_,h⟩
structure DS(w:World)(R E C:Nat)(f:ByteArray)(pv:Value)(c:Array Value)(s:Except Er St)(wr:World):Prop where
 eye:D9 wr E f pv s
 me:A3 wr C c 44
 out:A3 wr R #[.string ⟨#[]⟩, .string ⟨#[]⟩, .slice none 0 0, .slice none 0 0] 44
 grown:w.grownBy wr none
structure DL(w:World)(R E C:Nat)(f:ByteArray)(pv:Value)(c:Array Value)(fs:List R9)(ms:List Me)(lf lm:Value)(s:Except Er St)(wr:World):Prop where
 ds:DS w R E C f pv c s wr
 rf:E5 (C+1) 129 3 G8 wr lf fs
 rm:V8 (C+1) wr lm ms
section
variable{w wr w1:World}{R E C g:Nat}{f:ByteArray}{pv:Value}{c:Array Value}{fs:List R9}{ms:List Me}{lf lm:Value}{s s1:Except Er St}
theorem DS.step(h:DS w R E C f pv c s wr)(hg:wr.grownBy w1 (some E))(he:D9 w1 E f pv s1)(hE:w.heap.size≤E)(hC:E≠C)(hR:E≠R):DS w R E C f pv c s1 w1:=
 ⟨he,h.me.keep hg (by simpa using fun e=>hC e.symm),h.out.keep hg (by simpa using fun e=>hR e.symm),C7 h.grown hg (fun k e=> .inl (by cases e;exact hE))⟩
theorem DS.setC(h:DS w R E C f pv c s wr)(hC:w.heap.size≤C)(hE:E≠C)(hR:R≠C)(hp:pv.ownBlock≠some C)(j:Nat)(v:Value):DS w R E C f pv (c.setIfInBounds j v) s (wr.setCell ⟨C,j,none⟩ v):=
 ⟨h.eye.keep (A6 _ ⟨C,j,none⟩ _) (by simpa using hE) (.inr hp),h.me.set j v,h.out.keep (A6 _ ⟨C,j,none⟩ _) (by simpa using hR),a8 h.grown hC j v⟩
theorem DS.fresh(h:DS w R E C f pv c s wr)(hg:wr.grownBy w1 none):DS w R E C f pv c s w1:=
 ⟨h.eye.keep0 hg,h.me.keep hg (by simp),h.out.keep hg (by simp),K2 h.grown hg⟩
theorem DS.beside(h:DS w R E C f pv c s wr)(hg:wr.grownBy w1 (some g))(hE:E≠g)(hC:C≠g)(hR:R≠g)(hp:pv.ownBlock≠some g)(hw:w.heap.size≤g):DS w R E C f pv c s w1:=
 ⟨h.eye.keep hg (by simpa using hE) (.inr hp),h.me.keep hg (by simpa using hC),h.out.keep hg (by simpa using hR),C7 h.grown hg (fun k e=> .inl (by cases e;exact hw))⟩
theorem DS.turn{e sz n:Nat}{l:Value}{cs:List Value}(h:DS w R E C f pv c s wr)(ho:wr.ownsRow (C+1) e sz l n cs)(hg:wr.grownBy w1 l.ownBlock)(hE:E<C)(hR:R<C)(hw:w.heap.size≤C)(hp:∀k,C≤k→pv.ownBlock≠some k):DS w R E C f pv c s w1:=
 ⟨h.eye.keep hg (fun e=>E9 ho (show E<C+1 by omega) e.symm) (a5o hp ho (by omega)),h.me.keep hg (fun e=>E9 ho (show C<C+1 by omega) e.symm),h.out.keep hg (fun e=>E9 ho (show R<C+1 by omega) e.symm),
  C7 h.grown hg (fun k e=> .inl (by have:=(K9 ho e).1;omega))⟩
theorem DL.step(h:DL w R E C f pv c fs ms lf lm s wr)(hg:wr.grownBy w1 (some E))(he:D9 w1 E f pv s1)(hE:w.heap.size≤E)(hC:E<C)(hR:E≠R):DL w R E C f pv c fs ms lf lm s1 w1:=
 ⟨h.ds.step hg he hE (by omega) hR,h.rf.keep hg (fun k e=>by cases e;omega),h.rm.keep hg (fun k e=>by cases e;omega)⟩
theorem DL.setC(h:DL w R E C f pv c fs ms lf lm s wr)(hC:w.heap.size≤C)(hE:E≠C)(hR:R≠C)(hp:pv.ownBlock≠some C)(j:Nat)(v:Value):DL w R E C f pv (c.setIfInBounds j v) fs ms lf lm s (wr.setCell ⟨C,j,none⟩ v):=
 ⟨h.ds.setC hC hE hR hp j v,h.rf.keep (A6 _ ⟨C,j,none⟩ _) (fun k e=>by cases e;simp),h.rm.keep (A6 _ ⟨C,j,none⟩ _) (fun k e=>by cases e;simp)⟩
theorem DL.fresh(h:DL w R E C f pv c fs ms lf lm s wr)(hg:wr.grownBy w1 none):DL w R E C f pv c fs ms lf lm s w1:=
 ⟨⟨h.ds.eye.keep0 hg,h.ds.me.keep hg (by simp),h.ds.out.keep hg (by simp),K2 h.ds.grown hg⟩,h.rf.keep hg (by simp),h.rm.keep hg (by simp)⟩
end
theorem a7n(W:World)(t:Array Value)(R:Nat)(x0 x1 x2 x3:Value)(T:TypeId)(x y:Int)(h2:t.getD 2 undef= .pointer (some ⟨R,0,none⟩))(h3:t.getD 3 undef= .int .i64 x)(h4:t.getD 4 undef= .int .i64 y)(h:A3 W R #[x0,x1,x2,x3] T):
 (results Tryz.f66 t).run Tryz.prog W= .ok (.tuple #[.agg #[x0,x1,x2,x3], .int .i64 x, .int .i64 y]) W:=by
 have c0:=h.cell 0 x0 rfl;have c1:=h.cell 1 x1 rfl;have c2:=h.cell 2 x2 rfl;have c3:=h.cell 3 x3 rfl;rw[Array.getD_eq_getD_getElem?]at h2 h3 h4;simp[results,Tryz.results66,go_sem,h2,h3,h4,c0,c1,c2,c3]
end Go.Proofs.YtdhophglnhcjbaaGreatDoor
