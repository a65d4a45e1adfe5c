/- P22: a part of the proof that the last text tells. -/
import Derived.Test.YtdhophglnhcjbaaGreatDoorP00
set_option linter.all false
namespace Go.Proofs.YtdhophglnhcjbaaGreatDoor
namespace Cf
structure XTy where
 kind:Int
 name:ByteArray
structure a6l where
 name:ByteArray
 ty:XTy
structure XIn where
 op:Int
 a:Int
 cls:ByteArray
 mem:ByteArray
structure XHd where
 from_:Int
 to:Int
 at_:Int
 cls:ByteArray
structure XMe where
 name:ByteArray
 params:List XTy
 ret:XTy
 stack:Int
 locals:Int
 code:List XIn
 handlers:List XHd
structure XCl where
 name:ByteArray
 super:ByteArray
 fields:List a6l
 methods:List XMe
abbrev T6:=Option (Int×Nat⊕ByteArray)
abbrev T6.num(n:Int)(w:Nat):T6:=some (.inl (n,w))
abbrev T6.nm(s:ByteArray):T6:=some (.inr s)
abbrev T6.bad:T6:=none
structure WS where
 names:List ByteArray
 out:List UInt8
def O4:Nat→Nat→List UInt8
 |0,_=> []
 |w+1,n=>UInt8.ofNat (n/256^w)::O4 w n
theorem a2v:∀(w n:Nat),(O4 w n).length=w
 |0,_=>rfl
 |w+1,n=>by simp[O4,a2v w n]
def a1Y(l:List ByteArray)(s:ByteArray):Nat:=l.findIdx fun x=>decide (x=s)
def a0P(l:List ByteArray)(s:ByteArray):List ByteArray:=if a1Y l s<l.length then l else l++ [s]
def E1(t:T6)(s:WS):Option WS:=
 match t with
 |some (.inl (n,w))=>if 0≤n∧n<256^w then some ⟨s.names,s.out++O4 w n.toNat⟩else none
 |some (.inr x)=>if F4 x∧a1Y s.names x<256 then some ⟨a0P s.names x,s.out++ [UInt8.ofNat (a1Y s.names x)]⟩else none
 |none=>none
def G4:List T6→Option WS→Option WS
 | [],s=>s
 |t::l,s=>G4 l (s.bind (E1 t))
theorem a4q(a b:List T6)(s:Option WS):G4 (a++b) s=G4 b (G4 a s):=by
 induction a generalizing s with
 |nil=>rfl
 |cons t a ih=>simp[G4,ih]
theorem a9r(l:List T6):G4 l none=none:=by
 induction l with
 |nil=>rfl
 |cons t l ih=>simpa[G4]using ih
def a3P(b:Bool)(s:ByteArray):List T6:=if b then [.nm s]else if s.size=0 then []else [.bad]
def X4(t:XTy):List T6:=if 0≤t.kind∧t.kind≤4 then .num t.kind 1::a3P (o7 t.kind.toNat) t.name else [.bad]
def a4Q(f:a6l):List T6:= .nm f.name::X4 f.ty
def b1N(w:Nat)(a:Int):List T6:=
 if w=4 then(if-2147483648≤a∧a≤2147483647 then [.num (if a<0 then a+4294967296 else a) 4]else [.bad])
 else if w=0 then(if a=0 then []else [.bad])else [.num a w]
def a1r(i:XIn):List T6:=
 if 0≤i.op∧i.op<32 then .num i.op 1::(b1N (L5 i.op.toNat) i.a++a3P (Z4 i.op.toNat) i.cls++a3P (b7 i.op.toNat) i.mem)else [.bad]
def a1Z(h:XHd):List T6:=[.num h.from_ 2, .num h.to 2, .num h.at_ 2, .nm h.cls]
def a3c{α:Type}(w:Nat)(f:α→List T6)(l:List α):List T6:= .num l.length w::l.flatMap f
def a2D(m:XMe):List T6:= .nm m.name::(a3c 1 X4 m.params++X4 m.ret++ [.num m.stack 1, .num m.locals 1]++a3c 2 a1r m.code++a3c 1 a1Z m.handlers)
def a7X(c:XCl):List T6:= .nm c.name:: .nm c.super::(a3c 1 a4Q c.fields++a3c 1 a2D c.methods)
def a1j(l:List ByteArray):List UInt8:=l.flatMap fun s=>UInt8.ofNat s.size::s.data.toList
def enc(c:XCl):Except Nat (List UInt8):=
 match G4 (a7X c) (some ⟨[],[]⟩)with
 |none=> .error 19
 |some s=>if 255<s.names.length then .error 19 else
  let file:=[87,49,UInt8.ofNat s.names.length]++a1j s.names++s.out
  if 2048<file.length then .error 1 else .ok file
end Cf
end Go.Proofs.YtdhophglnhcjbaaGreatDoor
