/- P11: a part of the proof that the last text tells. -/
import Derived.Test.YtdhophglnhcjbaaGreatDoorP00
set_option linter.all false
set_option maxRecDepth 100000
set_option maxHeartbeats 40000000
open Go.Proofs.Tryz
namespace Go.Proofs.YtdhophglnhcjbaaGreatDoor
section
namespace Cf
structure n9 where
 kind:Int
 name:ByteArray
structure a1v where
 name:ByteArray
 ty:n9
structure XIn where
 op:Int
 a:Int
 cls:ByteArray
 mem:ByteArray
structure XHd where
 from_:Int
 to:Int
 at_:Int
 cls:ByteArray
structure S5 where
 name:ByteArray
 params:List n9
 ret:n9
 stack:Int
 locals:Int
 code:List XIn
 handlers:List XHd
structure Y9 where
 name:ByteArray
 super:ByteArray
 fields:List a1v
 methods:List S5
abbrev I7:=Option (Int×Nat⊕ByteArray)
abbrev I7.num(n:Int)(w:Nat):I7:=some (.inl (n,w))
abbrev I7.nm(s:ByteArray):I7:=some (.inr s)
abbrev I7.bad:I7:=none
structure WS where
 names:List ByteArray
 out:List UInt8
def N8:Nat→Nat→List UInt8
 |0,_=> []
 |w+1,n=>UInt8.ofNat (n/256^w)::N8 w n
theorem a5X:∀(w n:Nat),(N8 w n).length=w
 |0,_=>rfl
 |w+1,n=>by simp[N8,a5X w n]
def F5(l:List ByteArray)(s:ByteArray):Nat:=l.findIdx fun x=>decide (x=s)
def T0(l:List ByteArray)(s:ByteArray):List ByteArray:=if F5 l s<l.length then l else l++ [s]
def I5(t:I7)(s:WS):Option WS:=
 match t with
 |some (.inl (n,w))=>if 0≤n∧n<256^w then some ⟨s.names,s.out++N8 w n.toNat⟩else none
 |some (.inr x)=>if E3 x∧F5 s.names x<256 then some ⟨T0 s.names x,s.out++ [UInt8.ofNat (F5 s.names x)]⟩else none
 |none=>none
def A8:List I7→Option WS→Option WS
 | [],s=>s
 |t::l,s=>A8 l (s.bind (I5 t))
theorem o6(a b:List I7)(s:Option WS):A8 (a++b) s=A8 b (A8 a s):=by
 induction a generalizing s with
 |nil=>rfl
 |cons t a ih=>simp[A8,ih]
theorem a5z(l:List I7):A8 l none=none:=by
 induction l with
 |nil=>rfl
 |cons t l ih=>simpa[A8]using ih
def o8(b:Bool)(s:ByteArray):List I7:=if b then [.nm s]else if s.size=0 then []else [.bad]
def M0(t:n9):List I7:=if 0≤t.kind∧t.kind≤4 then .num t.kind 1::o8 (a0N t.kind.toNat) t.name else [.bad]
def p9(f:a1v):List I7:= .nm f.name::M0 f.ty
def F7(w:Nat)(a:Int):List I7:=
 if w=4 then(if-2147483648≤a∧a≤2147483647 then [.num (if a<0 then a+4294967296 else a) 4]else [.bad])
 else if w=0 then(if a=0 then []else [.bad])else [.num a w]
def X5(i:XIn):List I7:=
 if 0≤i.op∧i.op<32 then .num i.op 1::(F7 (F3 i.op.toNat) i.a++o8 (Y5 i.op.toNat) i.cls++o8 (Z4 i.op.toNat) i.mem)else [.bad]
def a0o(h:XHd):List I7:=[.num h.from_ 2, .num h.to 2, .num h.at_ 2, .nm h.cls]
def K9{α:Type}(w:Nat)(f:α→List I7)(l:List α):List I7:= .num l.length w::l.flatMap f
def a0m(m:S5):List I7:= .nm m.name::(K9 1 M0 m.params++M0 m.ret++ [.num m.stack 1, .num m.locals 1]++K9 2 X5 m.code++K9 1 a0o m.handlers)
def a2h(c:Y9):List I7:= .nm c.name:: .nm c.super::(K9 1 p9 c.fields++K9 1 a0m c.methods)
def E7(l:List ByteArray):List UInt8:=l.flatMap fun s=>UInt8.ofNat s.size::s.data.toList
def enc(c:Y9):Except Nat (List UInt8):=
 match A8 (a2h c) (some ⟨[],[]⟩)with
 |none=> .error 19
 |some s=>if 255<s.names.length then .error 19 else
  let file:=[87,49,UInt8.ofNat s.names.length]++E7 s.names++s.out
  if 2048<file.length then .error 1 else .ok file
end Cf
end
end Go.Proofs.YtdhophglnhcjbaaGreatDoor
