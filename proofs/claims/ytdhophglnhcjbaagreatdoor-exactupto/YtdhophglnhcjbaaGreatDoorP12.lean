/- P12: a part of the proof that the last text tells. -/
import Derived.Test.YtdhophglnhcjbaaGreatDoorP10
import Derived.Test.YtdhophglnhcjbaaGreatDoorP11
import Derived.Lib.AppendStr
import Derived.Lib.SlBytesConst
set_option linter.all false
set_option maxRecDepth 100000
set_option maxHeartbeats 40000000
open Go.Proofs.Tryz
namespace Go.Proofs.YtdhophglnhcjbaaGreatDoor
section
theorem c7m{P:Prop}(h:P:=by
 have e:(n % 256:Int)=((UInt8.ofNat (n % 256).toNat).toNat:Int):=by
  have:=a4c (n % 256) (by omega) (by omega);rw[←this]
 exact a1f):P:=h
theorem a1f{P:Prop}(h:P:=by
 have HE:=A0 e;clear e;go_wp2_with (go_at_call 213;refine(a2B wr b mb mo pv bv' pool _ wrong _ _ HE.out HW hbl).mono ?_;rintro e w4 ⟨rfl,hk4,bv4,hw4⟩;try dsimp only)
 first
  |exact⟨⟨0,bv4,by omega,rfl,hw4,HK.out.trans hk4⟩,by simp[intOf]⟩
  |(go_roundw
    case rel=>exact⟨0,bv4,by omega,rfl,hw4,HK.out.trans hk4⟩
    case measure=>simp[intOf])):P:=h
theorem a1h{P:Prop}(h:P:=by
 clear hW hM h1 h2 h3 h4 h5 h6;go_wp2_with fail
 (try simp only[Exit.inBlock,Exit.then]);refine bodyPost_ret (results_none rfl _ _ _) rfl ?_
 exact⟨rfl,HKa.out,HD.out⟩):P:=h
theorem a1w{P:Prop}(h:P:=by
 have hje:j=xs.length:=by omega
 subst hje;go_wp2_with fail
 go_end0;refine⟨rfl,HK.out,?_⟩;rw[HE.out xs.length (Nat.le_refl _),List.drop_length];exact HW.out):P:=h
theorem a2s{P:Prop}(h:P:=by
 go_wp2_with fail
 all_goals first
  |((try simp only[Exit.inBlock,Exit.then]);refine bodyPost_ret (results_none rfl _ _ _) rfl ?_;exact⟨rfl,rfl⟩)):P:=h
theorem a4q{P:Prop}(h:P:=by
 have HE:=A0 e;clear e;go_wp2_with (go_at_call 213;refine(a2B wr b mb mo pv bv' pool _ wrong _ _ HE.out HW hbl).mono ?_;rintro e w4 ⟨rfl,hk4,bv4,hw4⟩;try dsimp only)
 first
  |exact⟨⟨1,bv4,by omega,rfl,hw4,HK.out.trans hk4⟩,by simp[intOf]⟩
  |(go_roundw
    case rel=>exact⟨1,bv4,by omega,rfl,hw4,HK.out.trans hk4⟩
    case measure=>simp[intOf])):P:=h
theorem a5m{P:Prop}(h:P:=by
 intro j _;rw[a0x hm,←o6,←o6,←List.flatMap_append,List.take_append_drop];rfl):P:=h
theorem b4b{P:Prop}(h:P:=by
 unfold Hid;rw[HE.out j hj];exact .skip _ hW hM h1 h2 h3 h4 h5):P:=h
theorem c5g{P:Prop}(h:P:=by
 go_enter func289,ntmps289;go_wp2_with fail
 go_quiet (fail)
 go_wp2_with fail
 go_ret2
 exact⟨rfl,K3 _ _ _⟩):P:=h
theorem c5w{P:Prop}(h:P:=by
 by_cases h1:F5 l s<n
 ·simp[h1,show F5 l s<n+1 by omega]
 ·by_cases h2:F5 l s=n
  ·exact absurd (a8U h2 (by omega)).symm e
  ·simp[h1,show¬F5 l s<n+1 by omega]):P:=h
theorem c5x{P:Prop}(h:P:=by
 simp only[a5c,N8,Int.toNat_natCast,List.cons.injEq,and_true];refine⟨?_,?_,?_,?_⟩<;>apply UInt8.toNat_inj.1<;>simp only[UInt8.toNat_ofNat']<;>omega):P:=h
theorem c6a{P:Prop}(h:P:=by
 exact⟨rfl,(C4.ofNone hg).trans (.ofB (A9 _ ⟨b,3,none⟩ _)),D0.wrong (hW.keep hg) (hM.same (hg.block mb hW.mblt (by simp))) h1 h2 h3 h4⟩):P:=h
theorem c6v{P:Prop}(h:P:=by
 go_wp2_with fail
 go_end0;exact⟨rfl,HK.out,_,HW.out⟩):P:=h
theorem c7j{P:Prop}(h:P:=by
 rintro e w' ⟨rfl,hk,hw⟩;rw[b2u hn];exact⟨rfl,hk, .bad hW hM h1 h2 h3 h4 hw⟩):P:=h
end
section
open Go.RowKit Cf
theorem a5I(l:List ByteArray)(s:ByteArray):F5 l s≤l.length:=List.findIdx_le_length
theorem a8V{l:List ByteArray}{s:ByteArray}{j:Nat}(hj:j<l.length)(h:l.getD j ByteArray.empty=s)(h0:∀i,i<j→l.getD i ByteArray.empty≠s):F5 l s=j:=by
 unfold F5;rw[List.findIdx_eq hj];refine⟨by simpa[List.getD,hj]using h,fun i hi=> ?_⟩;have:=h0 i hi;simpa[List.getD,show i<l.length by omega]using this
theorem a1z(r:Option WS):A8 [.bad] r=none:=by cases r<;>rfl
def a0Y(n:Int):Prop:= -9223372036854775808≤n∧n≤9223372036854775807
def l6(s:ByteArray):Prop:=s.size≤1099511627776
theorem T9(t:I7)(l:List I7)(r:Option WS):A8 (t::l) r=A8 l (r.bind (I5 t)):=rfl
def X8(t:n9):List Value:=[.int .i64 t.kind, .string t.name]
def a0a(t:a1v):List Value:=[.string t.name, .int .i64 t.ty.kind, .string t.ty.name]
def xIn(t:XIn):List Value:=[.int .i64 t.op, .int .i64 t.a, .string t.cls, .string t.mem]
def xHd(t:XHd):List Value:=[.int .i64 t.from_, .int .i64 t.to, .int .i64 t.at_, .string t.cls]
def a4j(t:n9):Prop:=a0Y t.kind∧l6 t.name
def a9L(t:a1v):Prop:=l6 t.name∧a4j t.ty
def P0(t:XIn):Prop:=a0Y t.op∧a0Y t.a∧l6 t.cls∧l6 t.mem
def a7H(t:XHd):Prop:=a0Y t.from_∧a0Y t.to∧a0Y t.at_∧l6 t.cls
structure a4k(m:S5):Prop where
 name:l6 m.name
 ret:a4j m.ret
 stack:a0Y m.stack
 locals:a0Y m.locals
 params:∀j (hj:j<m.params.length),a4j m.params[j]
 code:∀j (hj:j<m.code.length),P0 m.code[j]
 handlers:∀j (hj:j<m.handlers.length),a7H m.handlers[j]
def a1o(m:S5):Nat:=12+3*m.params.length+5*m.code.length+5*m.handlers.length
theorem a5F{α:Type}(f:α→List I7)(xs:List α)(j:Nat)(hj:j<xs.length)(r:Option WS):A8 ((xs.take (j+1)).flatMap f) r=A8 (f xs[j]) (A8 ((xs.take j).flatMap f) r):=by
 rw[List.take_succ_eq_append_getElem hj,List.flatMap_append,o6];simp
def l8(w:World)(lim:Nat)(a:Option Addr)(ms:List S5):Prop:=
 ∀j (hj:j<ms.length),∃(p:Addr) (pa ca ha:Option Addr) (pk ck hk:Nat),a=some p∧p.block<lim∧B8 w lim 2 X8 pa ms[j].params∧B8 w lim 4 xIn ca ms[j].code∧B8 w lim 4 xHd ha ms[j].handlers∧
  ∀r u,([Value.string ms[j].name, .slice pa ms[j].params.length pk, .int .i64 ms[j].ret.kind, .string ms[j].ret.name, .int .i64 ms[j].stack, .int .i64 ms[j].locals, .slice ca ms[j].code.length ck, .slice ha ms[j].handlers.length hk]:List Value)[r]? =some u→w.cell? (p.add (j*8+r))=some u
variable {w w':World}
theorem l8.keep{lim:Nat}{a:Option Addr}{ms:List S5}(h:l8 w lim a ms)(hg:w.grownBy w' none):l8 w' lim a ms:=by
 intro j hj;obtain⟨p,pa,ca,ha,pk,ck,hhk,h1,h2,h3,h4,h5,h6⟩:=h j hj;exact⟨p,pa,ca,ha,pk,ck,hhk,h1,h2,h3.keep hg,h4.keep hg,h5.keep hg,fun r u hu=>hg.cell (h6 r u hu) (by simp)⟩
structure a1K(c:Y9):Prop where
 name:l6 c.name
 super:l6 c.super
 fields:∀j (hj:j<c.fields.length),a9L c.fields[j]
 methods:∀j (hj:j<c.methods.length),a4k c.methods[j]
def o9(ms:List S5):Nat:=(ms.map a1o).sum
def a0U(c:Y9):Nat:=10+5*c.fields.length+o9 c.methods
theorem b0E(ms:List S5):ms.length≤o9 ms:=by
 unfold o9;induction ms with
 |nil=>simp
 |cons m l ih=>simp only[List.map_cons,List.sum_cons,List.length_cons];unfold a1o at*;omega
def a5e(r:Except Nat (List UInt8)):ByteArray:=match r with| .ok l=>⟨l.toArray⟩| .error _=>⟨#[]⟩
def a7A(r:Except Nat (List UInt8)):Nat:=match r with| .ok _=>0| .error n=>n
theorem a1j{x:ByteArray}(h:E3 x=true):x.size≤12:=by
 simp only[E3,Bool.and_eq_true,decide_eq_true_eq]at h;exact h.1.2
def O0(x:UInt8):Value:= .int .u8 x.toNat
structure Wr(w:World)(b mb:Nat)(mo:Obj)(pv bv:Value)(pool body:List UInt8)(wrong:Bool):Prop where
 blk:A3 w b #[.map (some mb),pv,bv, .bool wrong] 195
 map:w.heap[mb]? =some mo
 notCells:∀cs t fr,mo≠ .cells cs t fr
 poolR:w.ownsRow (b+1) 5 1 pv pool.length (pool.map O0)
 bodyR:w.ownsRow (b+1) 5 1 bv body.length (body.map O0)
 apart:pv.ownBlock=none∨pv.ownBlock≠bv.ownBlock
def a9H(w:World)(b mb k:Nat):Prop:=k=b∨k=mb∨(b<k∧∃cs fr,w.heap[k]? =some (.cells cs 5 fr))
structure C4(w w':World)(b mb:Nat):Prop where
 os:w'.os=w.os
 tape:w'.tape=w.tape
 output:w'.output=w.output
 size:w.heap.size≤w'.heap.size
 block:∀k,k<w.heap.size→¬a9H w b mb k→w'.heap[k]? =w.heap[k]?
theorem C4.refl(w:World)(b mb:Nat):C4 w w b mb:=⟨rfl,rfl,rfl,Nat.le_refl _,fun _ _ _=>rfl⟩
variable {b mb n sz:Nat}
theorem C4.trans{w1 w2:World}(h:C4 w w1 b mb)(h1:C4 w1 w2 b mb):C4 w w2 b mb:=
 ⟨h1.os.trans h.os,h1.tape.trans h.tape,h1.output.trans h.output,Nat.le_trans h.size h1.size,fun k hk hm=>by
  have e:=h.block k hk hm;refine(h1.block k (Nat.lt_of_lt_of_le hk h.size) (fun hm1=>hm ?_)).trans e;rcases hm1 with h2|h2|⟨h2,cs,fr,h3⟩
  ·exact .inl h2
  ·exact .inr (.inl h2)
  ·exact .inr (.inr ⟨h2,cs,fr,by rw[←e];exact h3⟩)⟩
theorem C4.of{row:Option Nat}(h:w.grownBy w' row)(hr:∀k,row=some k→k<w.heap.size→a9H w b mb k):C4 w w' b mb:=
 ⟨h.os,h.tape,h.output,h.size,fun k hk hm=>h.block k hk (fun e=>hm (hr k e.symm hk))⟩
theorem C4.ofNone(h:w.grownBy w' none):C4 w w' b mb:=C4.of h (fun _ e=>by cases e)
theorem C4.ofB(h:w.grownBy w' (some b)):C4 w w' b mb:=C4.of h (fun k e _=> .inl (by cases e;rfl))
theorem C4.blk{g:Nat}{cs:Array Value}{t:TypeId}(h:C4 w w' b mb)(hb:A3 w g cs t)(hg:g≠b)(hg2:g≠mb)(ht:t≠5):A3 w' g cs t:=
 (h.block g hb.lt (fun hm=>by
   rcases hm with h2|h2|⟨_,cs',fr,h3⟩
   ·exact hg h2
   ·exact hg2 h2
   ·have:some (Obj.cells cs t (0,0))=some (Obj.cells cs' 5 fr):=by rw[←h3];exact hb.symm
    simp at this;exact ht this.2.1)).trans hb
variable {v:Value}
theorem C4.cell{a:Addr}(h:C4 w w' b mb)(hc:w.cell? a=some v)(ha:a.block<b)(hm:a.block≠mb)(hb:b<w.heap.size):w'.cell? a=some v:=by
 rw[World.cell?_of_block (h.block a.block (by omega) (fun hm'=>by rcases hm' with h2|h2|⟨h2,_⟩<;>omega))];exact hc
variable {cs:List Value}
theorem a8W(h:w.ownsRow (b+1) 5 sz v n cs):∀k,v.ownBlock=some k→a9H w b mb k:=by
 intro k hk;rcases h.2 with⟨rfl,_⟩|⟨g,cap,cur,rfl,hb,hg,_⟩
 ·simp[Value.ownBlock]at hk
 ·simp only[Value.ownBlock,Option.some.injEq]at hk;subst hk;exact .inr (.inr ⟨by omega,_,_,hg⟩)
theorem a6J{base e:Nat}{mo:Obj}(h:w.ownsRow base e sz v n cs)(hm:w.heap[mb]? =some mo)(hc:∀cs t fr,mo≠ .cells cs t fr):v.ownBlock≠some mb:=by
 intro hk;rcases h.2 with⟨rfl,_⟩|⟨g,cap,cur,rfl,hb,hg,_⟩
 ·simp[Value.ownBlock]at hk
 ·simp only[Value.ownBlock,Option.some.injEq]at hk;subst hk;rw[hm]at hg;exact hc _ _ _ (Option.some.inj hg)
section
variable{w w':World}{b mb:Nat}{mo:Obj}{pv bv:Value}{pool body:List UInt8}{wrong:Bool}
theorem Wr.mbne(h:Wr w b mb mo pv bv pool body wrong):mb≠b:=by
 rintro rfl;have h1:=h.map;have h2:=h.blk;unfold A3 at h2;rw[h1]at h2;exact h.notCells _ _ _ (Option.some.inj h2)
theorem Wr.mblt(h:Wr w b mb mo pv bv pool body wrong):mb<w.heap.size:=(Array.getElem?_eq_some_iff.1 h.map).1
theorem Wr.keep(h:Wr w b mb mo pv bv pool body wrong)(hg:w.grownBy w' none):Wr w' b mb mo pv bv pool body wrong:=
 ⟨h.blk.keep hg (by simp),(hg.block mb h.mblt (by simp)).trans h.map,h.notCells,h.poolR.kept hg (by cases pv.ownBlock<;>simp),h.bodyR.kept hg (by cases bv.ownBlock<;>simp),h.apart⟩
theorem Wr.spoil(h:Wr w b mb mo pv bv pool body wrong):Wr (w.setCell ⟨b,3,none⟩ (.bool true)) b mb mo pv bv pool body true:=
 ⟨h.blk.set 3 _,((A9 w ⟨b,3,none⟩ (.bool true)).block mb h.mblt (by simpa using h.mbne)).trans h.map,h.notCells,h.poolR.kept (A9 w ⟨b,3,none⟩ _) (.inr (K0 h.poolR (Nat.lt_succ_self _))),h.bodyR.kept (A9 w ⟨b,3,none⟩ _) (.inr (K0 h.bodyR (Nat.lt_succ_self _))),h.apart⟩
theorem Wr.setBody{w1:World}{bv':Value}{body':List UInt8}(h:Wr w b mb mo pv bv pool body wrong)(h1:w.grownBy w1 bv.ownBlock)(ho:w1.ownsRow (b+1) 5 1 bv' body'.length (body'.map O0))(ha:bv'.ownBlock=bv.ownBlock∨∀k,bv'.ownBlock=some k→w.heap.size≤k):
 Wr (w1.setCell ⟨b,2,none⟩ bv') b mb mo pv bv' pool body' wrong:=by
 have hnb:=K0 h.bodyR (Nat.lt_succ_self _);have hnm:=a6J h.bodyR h.map h.notCells;refine⟨(h.blk.keep h1 (fun e=>hnb e.symm)).set 2 _,?_,h.notCells,?_,ho.kept (A9 w1 ⟨b,2,none⟩ _) (.inr (K0 ho (Nat.lt_succ_self _))),?_⟩
 ·exact((A9 w1 ⟨b,2,none⟩ bv').block mb (Nat.lt_of_lt_of_le h.mblt h1.size) (by simpa using h.mbne)).trans ((h1.block mb h.mblt (fun e=>hnm e.symm)).trans h.map)
 ·exact(World.ownsRow.kept h.poolR h1 h.apart).kept (A9 w1 ⟨b,2,none⟩ _) (.inr (K0 h.poolR (Nat.lt_succ_self _)))
 ·rcases ha with ha|ha
  ·rw[ha];exact h.apart
  ·cases hp:pv.ownBlock with
   |none=>exact .inl rfl
   |some g=>
    refine .inr (fun e=> ?_);have h2:=ha g e.symm;have h3:=(Y4 h.poolR hp).2;omega
end
def a0d(body:List UInt8)(x:UInt8):List UInt8:=if body.length≤2048 then body++ [x]else body
variable {body:List UInt8}
theorem a8S{x:UInt8}(h:body.length≤2049):(a0d body x).length≤2049:=by
 unfold a0d;split<;>(try simp)<;>omega
theorem a8y(l:List UInt8)(x:UInt8):a0d (l.take 2049) x=(l++ [x]).take 2049:=by
 unfold a0d;by_cases h:l.length≤2048
 ·rw[List.take_of_length_le (by omega),if_pos h,List.take_of_length_le (by simp;omega)]
 ·rw[if_neg (by rw[List.length_take];omega),List.take_append_of_le_length (by omega)]
theorem b8N(w:World)(b mb:Nat)(mo:Obj)(pv bv:Value)(pool body:List UInt8)(wrong:Bool)(x:UInt8)(h:Hid (Wr w b mb mo pv bv pool body wrong))(hl:body.length≤2049):
 Calls prog 213 #[.pointer (some ⟨b,0,none⟩), .int .u8 x.toNat] w fun e w'=>e= .returned (.tuple #[])∧C4 w w' b mb∧∃bv',Wr w' b mb mo pv bv' pool (a0d body x) wrong:=by
 obtain⟨a,k,rfl⟩:=F0 h.out.bodyR;have c2:=h.out.blk.c2;have z2:=h.out.blk.frozen 2;have hbl:=h.out.blk.lt;by_cases hs:body.length≤2048
 ·obtain⟨i,hi,hz0,hz1,hz2⟩:=info_parts a7s;have hne:=K0 h.out.bodyR (Nat.lt_succ_self _);go_enter func213,ntmps213;go_wp2_with (at_builtin;go_loud (refine wpList_append_lies _ rfl _ _ 193 rfl (b+1) 5 i _ 1 1 underlying193 hi hz0 hz1 hz2 rfl (by decide) _ body.length (body.map O0) rfl (World.ownsRow.alloc h.out.bodyR _) ⟨w.heap.size,0,none⟩ 1 1 [O0 x] rfl rfl (S6 w [O0 x] 5) (by simp[O0,Value.oneCell']) (by omega) (by unfold maxLen;omega) (by omega) (by simp;omega) (w.heap.size+1) (by simp) ?_))
  intro g cap w8 hown hgrow hlie hglt;have hp:a0d body x=body++ [x]:=by unfold a0d;rw[if_pos hs]
  have hgA:=A1 (A2 w (.cells #[.int .u8 x.toNat] 5) _) hgrow;have hO8:w8.ownsRow (b+1) 5 1 (.slice (some ⟨g,0,none⟩) (body.length+1) cap) (body++ [x]).length ((body++ [x]).map O0):=by simpa using hown
  have HW8:Hid (Wr (w8.setCell ⟨b,2,none⟩ (.slice (some ⟨g,0,none⟩) (body.length+1) cap)) b mb mo pv (.slice (some ⟨g,0,none⟩) (body.length+1) cap) pool (body++ [x]) wrong):=
   h.out.setBody hgA hO8 (by
    rcases hlie with hlie|hlie
    ·exact .inl (by rw[hlie];rfl)
    ·refine .inr (fun q hq=> ?_);simp only[Value.ownBlock,Option.some.injEq]at hq;omega)
  have HK8:Hid (C4 w (w8.setCell ⟨b,2,none⟩ (.slice (some ⟨g,0,none⟩) (body.length+1) cap)) b mb):=(C4.of hgA (fun q hq _=>a8W h.out.bodyR q hq)).trans (.ofB (A9 _ ⟨b,2,none⟩ _));have d2:w8.cell? ⟨b,2,none⟩=some (.slice a body.length k):=(hgA.cell_far ⟨b,2,none⟩ hbl (fun e=>hne e.symm)).trans c2;have y2:=(hgA.frozen_far ⟨b,2,none⟩ hbl (fun e=>hne e.symm)).trans z2;clear hown hgrow hgA hO8 c2 z2 hlie;go_wp2_with fail
  go_end0;rw[hp];exact⟨rfl,HK8.out,_,HW8.out⟩
 ·have hp:a0d body x=body:=by unfold a0d;rw[if_neg hs]
  go_enter func213,ntmps213;go_wp2_with fail
  go_end0;rw[hp];exact⟨rfl, .refl _ _ _,_,h.out⟩
def loB(m:Nat):Int:=if m=4 then-2147483648 else 0
def hiB(m:Nat):Int:=if m=4 then 2147483647 else 256^m-1
theorem a3e(m:Nat)(hm:m=0∨m=1∨m=2∨m=4)(w:World):
 Calls prog 289 #[.int .i64 m] w fun e w'=>e= .returned (.tuple #[.int .i64 (loB m), .int .i64 (hiB m)])∧w.grownBy w' none:=by
 rcases hm with rfl|rfl|rfl|rfl
 ·exact c5g
 ·exact c5g
 ·exact c5g
 ·go_enter func289,ntmps289;go_wp2_with fail
  go_ret2
  exact⟨rfl,I8 _ _⟩
theorem a4c(z:Int)(h0:0≤z)(h1:z<256):z=((UInt8.ofNat z.toNat).toNat:Int):=by
 have:(UInt8.ofNat z.toNat).toNat=z.toNat:=by rw[UInt8.toNat_ofNat'];omega
 rw[this];omega
theorem a2B(w:World)(b mb:Nat)(mo:Obj)(pv bv:Value)(pool body:List UInt8)(wrong:Bool)(x:UInt8)(z:Int)(hz:z=(x.toNat:Int))(h:Hid (Wr w b mb mo pv bv pool body wrong))(hl:body.length≤2049):
 Calls prog 213 #[.pointer (some ⟨b,0,none⟩), .int .u8 z] w fun e w'=>e= .returned (.tuple #[])∧C4 w w' b mb∧∃bv',Wr w' b mb mo pv bv' pool (a0d body x) wrong:=by
 subst hz;exact b8N w b mb mo pv bv pool body wrong x h hl
def a0A(body:List UInt8)(l:List UInt8):List UInt8:=l.foldl a0d body
theorem a6I{l:List UInt8}:∀{body:List UInt8},body.length≤2049→(a0A body l).length≤2049:=by
 induction l with
 |nil=>intro body h;exact h
 |cons x l ih=>intro body h;exact ih (a8S h)
theorem b5C(l:List UInt8)(body:List UInt8):a0A (body.take 2049) l=(body++l).take 2049:=by
 induction l generalizing body with
 |nil=>simp[a0A]
 |cons x l ih=>
  show a0A (a0d (body.take 2049) x) l=_;rw[a8y,ih];simp
def a6d(n:Int):List UInt8:=[UInt8.ofNat (n % 256).toNat]
theorem b4J(w:World)(b mb:Nat)(mo:Obj)(pv bv:Value)(pool body:List UInt8)(wrong:Bool)(n:Int)(h:Hid (Wr w b mb mo pv bv pool body wrong))(hl:body.length≤2049)(hr:0≤n∧n≤255):
 Calls prog 214 #[.pointer (some ⟨b,0,none⟩), .int .i64 n, .int .i64 1] w fun e w'=>e= .returned (.tuple #[])∧C4 w w' b mb∧∃bv',Wr w' b mb mo pv bv' pool (a0A body (a6d n)) wrong:=by
 go_enter func214,ntmps214;go_wp2_with (go_at_call 289;refine(a3e 1 (by omega) w).mono ?_;rintro e w1 ⟨rfl,hg1⟩;have HW1:=A0 (h.out.keep hg1);have HK1:Hid (C4 w w1 b mb):= .ofNone hg1;clear hg1;simp only[loB,hiB];try dsimp only)
 go_loopw [8] (fun i wr=>∃(j:Nat) (bv':Value),j≤1∧i= .int .i64 (8*((j:Int)-1))∧Wr wr b mb mo pv bv' pool (a0A body ((a6d n).take (1-j))) wrong∧C4 w wr b mb) (fun i _=>(intOf i+8).toNat)
 case atStart=>exact⟨1,bv,by omega,rfl,HW1.out,HK1.out⟩
 case round=>
  clear HW1 HK1;obtain⟨j,bv',hj,rfl,hw,hkp⟩:=hrel;have HW:=A0 hw;have HK:=A0 hkp;have hbl:(a0A body ((a6d n).take (1-j))).length≤2049:=a6I hl;clear hw hkp;have hj5:j=0∨j=1:=by omega
  rcases hj5 with rfl|rfl
  ·exact c6v
  ·have e:(n:Int)=((UInt8.ofNat (n % 256).toNat).toNat:Int):=by
    have:=a4c (n % 256) (by omega) (by omega);rw[←this];omega
   exact a1f
def a6c(n:Int):List UInt8:=[UInt8.ofNat (n/256 % 256).toNat,UInt8.ofNat (n % 256).toNat]
theorem b4I(w:World)(b mb:Nat)(mo:Obj)(pv bv:Value)(pool body:List UInt8)(wrong:Bool)(n:Int)(h:Hid (Wr w b mb mo pv bv pool body wrong))(hl:body.length≤2049)(hr:0≤n∧n≤65535):
 Calls prog 214 #[.pointer (some ⟨b,0,none⟩), .int .i64 n, .int .i64 2] w fun e w'=>e= .returned (.tuple #[])∧C4 w w' b mb∧∃bv',Wr w' b mb mo pv bv' pool (a0A body (a6c n)) wrong:=by
 go_enter func214,ntmps214;go_wp2_with (go_at_call 289;refine(a3e 2 (by omega) w).mono ?_;rintro e w1 ⟨rfl,hg1⟩;have HW1:=A0 (h.out.keep hg1);have HK1:Hid (C4 w w1 b mb):= .ofNone hg1;clear hg1;simp only[loB,hiB];try dsimp only)
 go_loopw [8] (fun i wr=>∃(j:Nat) (bv':Value),j≤2∧i= .int .i64 (8*((j:Int)-1))∧Wr wr b mb mo pv bv' pool (a0A body ((a6c n).take (2-j))) wrong∧C4 w wr b mb) (fun i _=>(intOf i+8).toNat)
 case atStart=>exact⟨2,bv,by omega,rfl,HW1.out,HK1.out⟩
 case round=>
  clear HW1 HK1;obtain⟨j,bv',hj,rfl,hw,hkp⟩:=hrel;have HW:=A0 hw;have HK:=A0 hkp;have hbl:(a0A body ((a6c n).take (2-j))).length≤2049:=a6I hl;clear hw hkp;have hj5:j=0∨j=1∨j=2:=by omega
  rcases hj5 with rfl|rfl|rfl
  ·exact c6v
  ·exact c7m
  ·have e:(n/256:Int)=((UInt8.ofNat (n/256 % 256).toNat).toNat:Int):=by
    have:=a4c (n/256 % 256) (by omega) (by omega);rw[←this];omega
   exact a4q
def a5c(n:Int):List UInt8:=[UInt8.ofNat (n/16777216 % 256).toNat,UInt8.ofNat (n/65536 % 256).toNat,UInt8.ofNat (n/256 % 256).toNat,UInt8.ofNat (n % 256).toNat]
theorem b4H(w:World)(b mb:Nat)(mo:Obj)(pv bv:Value)(pool body:List UInt8)(wrong:Bool)(n:Int)(h:Hid (Wr w b mb mo pv bv pool body wrong))(hl:body.length≤2049)(hr: -2147483648≤n∧n≤2147483647):
 Calls prog 214 #[.pointer (some ⟨b,0,none⟩), .int .i64 n, .int .i64 4] w fun e w'=>e= .returned (.tuple #[])∧C4 w w' b mb∧∃bv',Wr w' b mb mo pv bv' pool (a0A body (a5c n)) wrong:=by
 go_enter func214,ntmps214;go_wp2_with (go_at_call 289;refine(a3e 4 (by omega) w).mono ?_;rintro e w1 ⟨rfl,hg1⟩;have HW1:=A0 (h.out.keep hg1);have HK1:Hid (C4 w w1 b mb):= .ofNone hg1;clear hg1;simp only[loB,hiB];try dsimp only)
 go_loopw [8] (fun i wr=>∃(j:Nat) (bv':Value),j≤4∧i= .int .i64 (8*((j:Int)-1))∧Wr wr b mb mo pv bv' pool (a0A body ((a5c n).take (4-j))) wrong∧C4 w wr b mb) (fun i _=>(intOf i+8).toNat)
 case atStart=>exact⟨4,bv,by omega,rfl,HW1.out,HK1.out⟩
 case round=>
  clear HW1 HK1;obtain⟨j,bv',hj,rfl,hw,hkp⟩:=hrel;have HW:=A0 hw;have HK:=A0 hkp;have hbl:(a0A body ((a5c n).take (4-j))).length≤2049:=a6I hl;clear hw hkp;have hj5:j=0∨j=1∨j=2∨j=3∨j=4:=by omega
  rcases hj5 with rfl|rfl|rfl|rfl|rfl
  ·exact c6v
  ·exact c7m
  ·have e:(n/256 % 256:Int)=((UInt8.ofNat (n/256 % 256).toNat).toNat:Int):=by
    have:=a4c (n/256 % 256) (by omega) (by omega);rw[←this]
   exact a4q
  ·have e:(n/65536 % 256:Int)=((UInt8.ofNat (n/65536 % 256).toNat).toNat:Int):=by
    have:=a4c (n/65536 % 256) (by omega) (by omega);rw[←this]
   have HE:=A0 e;clear e;go_wp2_with (go_at_call 213;refine(a2B wr b mb mo pv bv' pool _ wrong _ _ HE.out HW hbl).mono ?_;rintro e w4 ⟨rfl,hk4,bv4,hw4⟩;try dsimp only)
   first
    |exact⟨⟨2,bv4,by omega,rfl,hw4,HK.out.trans hk4⟩,by simp[intOf]⟩
    |(go_roundw
      case rel=>exact⟨2,bv4,by omega,rfl,hw4,HK.out.trans hk4⟩
      case measure=>simp[intOf])
  ·have e:(n/16777216 % 256:Int)=((UInt8.ofNat (n/16777216 % 256).toNat).toNat:Int):=by
    have:=a4c (n/16777216 % 256) (by omega) (by omega);rw[←this]
   have HE:=A0 e;clear e;go_wp2_with (go_at_call 213;refine(a2B wr b mb mo pv bv' pool _ wrong _ _ HE.out HW hbl).mono ?_;rintro e w4 ⟨rfl,hk4,bv4,hw4⟩;try dsimp only)
   first
    |exact⟨⟨3,bv4,by omega,rfl,hw4,HK.out.trans hk4⟩,by simp[intOf]⟩
    |(go_roundw
      case rel=>exact⟨3,bv4,by omega,rfl,hw4,HK.out.trans hk4⟩
      case measure=>simp[intOf])
theorem b5l(w:World)(b mb:Nat)(mo:Obj)(pv bv:Value)(pool body:List UInt8)(wrong:Bool)(n:Int)(h:Hid (Wr w b mb mo pv bv pool body wrong))(hr:n<0∨255<n):
 Calls prog 214 #[.pointer (some ⟨b,0,none⟩), .int .i64 n, .int .i64 1] w fun e w'=>e= .returned (.tuple #[])∧C4 w w' b mb∧Wr w' b mb mo pv bv pool body true:=by
 go_enter func214,ntmps214;rcases hr with hr|hr
 all_goals
  go_wp2_with (go_at_call 289;refine(a3e 1 (by omega) w).mono ?_;rintro e w1 ⟨rfl,hg1⟩;have HW1:=A0 (h.out.keep hg1);have HK1:Hid (C4 w w1 b mb):= .ofNone hg1;have c3:=HW1.out.blk.c3;have z3:=HW1.out.blk.frozen 3;clear hg1;simp only[loB,hiB];try dsimp only)
  all_goals
   refine bodyPost_ret (results_none rfl _ _ _) rfl ?_;exact⟨rfl,HK1.out.trans (.ofB (A9 _ ⟨b,3,none⟩ _)),HW1.out.spoil⟩
theorem b5k(w:World)(b mb:Nat)(mo:Obj)(pv bv:Value)(pool body:List UInt8)(wrong:Bool)(n:Int)(h:Hid (Wr w b mb mo pv bv pool body wrong))(hr:n<0∨65535<n):
 Calls prog 214 #[.pointer (some ⟨b,0,none⟩), .int .i64 n, .int .i64 2] w fun e w'=>e= .returned (.tuple #[])∧C4 w w' b mb∧Wr w' b mb mo pv bv pool body true:=by
 go_enter func214,ntmps214;rcases hr with hr|hr
 all_goals
  go_wp2_with (go_at_call 289;refine(a3e 2 (by omega) w).mono ?_;rintro e w1 ⟨rfl,hg1⟩;have HW1:=A0 (h.out.keep hg1);have HK1:Hid (C4 w w1 b mb):= .ofNone hg1;have c3:=HW1.out.blk.c3;have z3:=HW1.out.blk.frozen 3;clear hg1;simp only[loB,hiB];try dsimp only)
  all_goals
   refine bodyPost_ret (results_none rfl _ _ _) rfl ?_;exact⟨rfl,HK1.out.trans (.ofB (A9 _ ⟨b,3,none⟩ _)),HW1.out.spoil⟩
theorem b5j(w:World)(b mb:Nat)(mo:Obj)(pv bv:Value)(pool body:List UInt8)(wrong:Bool)(n:Int)(h:Hid (Wr w b mb mo pv bv pool body wrong))(hr:n< -2147483648∨2147483647<n):
 Calls prog 214 #[.pointer (some ⟨b,0,none⟩), .int .i64 n, .int .i64 4] w fun e w'=>e= .returned (.tuple #[])∧C4 w w' b mb∧Wr w' b mb mo pv bv pool body true:=by
 go_enter func214,ntmps214;rcases hr with hr|hr
 all_goals
  go_wp2_with (go_at_call 289;refine(a3e 4 (by omega) w).mono ?_;rintro e w1 ⟨rfl,hg1⟩;have HW1:=A0 (h.out.keep hg1);have HK1:Hid (C4 w w1 b mb):= .ofNone hg1;have c3:=HW1.out.blk.c3;have z3:=HW1.out.blk.frozen 3;clear hg1;simp only[loB,hiB];try dsimp only)
  all_goals
   refine bodyPost_ret (results_none rfl _ _ _) rfl ?_;exact⟨rfl,HK1.out.trans (.ofB (A9 _ ⟨b,3,none⟩ _)),HW1.out.spoil⟩
theorem b5m(w:World)(b mb:Nat)(mo:Obj)(pv bv:Value)(pool body:List UInt8)(wrong:Bool)(n:Int)(h:Hid (Wr w b mb mo pv bv pool body wrong))(hr:n<0∨0<n):
 Calls prog 214 #[.pointer (some ⟨b,0,none⟩), .int .i64 n, .int .i64 0] w fun e w'=>e= .returned (.tuple #[])∧C4 w w' b mb∧Wr w' b mb mo pv bv pool body true:=by
 go_enter func214,ntmps214;rcases hr with hr|hr
 all_goals
  go_wp2_with (go_at_call 289;refine(a3e 0 (by omega) w).mono ?_;rintro e w1 ⟨rfl,hg1⟩;have HW1:=A0 (h.out.keep hg1);have HK1:Hid (C4 w w1 b mb):= .ofNone hg1;have c3:=HW1.out.blk.c3;have z3:=HW1.out.blk.frozen 3;clear hg1;simp only[loB,hiB];try dsimp only)
  all_goals
   refine bodyPost_ret (results_none rfl _ _ _) rfl ?_;exact⟨rfl,HK1.out.trans (.ofB (A9 _ ⟨b,3,none⟩ _)),HW1.out.spoil⟩
theorem b4K(w:World)(b mb:Nat)(mo:Obj)(pv bv:Value)(pool body:List UInt8)(wrong:Bool)(h:Hid (Wr w b mb mo pv bv pool body wrong)):
 Calls prog 214 #[.pointer (some ⟨b,0,none⟩), .int .i64 0, .int .i64 0] w fun e w'=>e= .returned (.tuple #[])∧C4 w w' b mb∧Wr w' b mb mo pv bv pool body wrong:=by
 go_enter func214,ntmps214;go_wp2_with (go_at_call 289;refine(a3e 0 (by omega) w).mono ?_;rintro e w1 ⟨rfl,hg1⟩;have HW1:=A0 (h.out.keep hg1);have HK1:Hid (C4 w w1 b mb):= .ofNone hg1;clear hg1;simp only[loB,hiB];try dsimp only)
 go_loop [8] (fun i=>i= .int .i64 (-8)) (fun _=>0)
 case atStart=>rfl
 case round=>
  subst hrel;go_wp2_with fail
  go_end0;exact⟨rfl,HK1.out,HW1.out⟩
abbrev DU:=DataW Unit
def R9(s:ByteArray):Lit:= .string s.data.toList
variable {s:ByteArray}
theorem b2F{t:ByteArray}(h:s≠t):R9 s≠R9 t:=by
 intro e;apply h;unfold R9 at e;injection e with e
 apply ByteArray.ext;exact Array.toList_inj.1 e
def y8(l:List ByteArray):Nat→DU
 |0=> .map []
 |n+1=>(y8 l n).put (R9 (l.getD n ByteArray.empty)) (.lit (.int .i64 n))
def a0F(l:List ByteArray):DU:=y8 l l.length
theorem b1p(l:List ByteArray)(x:ByteArray):∀n,n≤l.length→y8 (l++ [x]) n=y8 l n
 |0,_=>rfl
 |n+1,h=>by
  have e:(l++ [x]).getD n ByteArray.empty=l.getD n ByteArray.empty:=by
   simp only[List.getD];rw[List.getElem?_append_left (by omega)]
  show(y8 (l++ [x]) n).put _ _=(y8 l n).put _ _;rw[b1p l x n (by omega),e]
theorem b8d(l:List ByteArray)(x:ByteArray):a0F (l++ [x])=(a0F l).put (R9 x) (.lit (.int .i64 l.length)):=by
 unfold a0F;rw[List.length_append,List.length_singleton];show(y8 (l++ [x]) l.length).put _ _=_;rw[b1p l x _ (Nat.le_refl _)];congr 2
 simp[List.getD]
variable {l names:List ByteArray}
theorem b7S(hn:l.Nodup){n:Nat}(h:n<l.length):F5 l (l.getD n ByteArray.empty)=n:=by
 refine a8V h rfl (fun i hi e=> ?_);have hi2:i<l.length:=by omega
 simp only[List.getD,List.getElem?_eq_getElem hi2,List.getElem?_eq_getElem h,Option.getD_some]at e;have:=(List.getElem_inj hn).1 e;omega
theorem a8U{n:Nat}(h:F5 l s=n)(hn:n<l.length):l.getD n ByteArray.empty=s:=by
 have h1:=List.findIdx_getElem (p:=fun x=>decide (x=s)) (xs:=l) (w:=by unfold F5 at h;omega);unfold F5 at h;subst h;simp only[List.getD,List.getElem?_eq_getElem hn,Option.getD_some];simpa using h1
structure c0D(l:List ByteArray)(n:Nat):Prop where
 tidy:Maps.Tidy (y8 l n)
 size:Maps.size (y8 l n)=n
 has:∀s,Maps.has (y8 l n) (R9 s)=decide (F5 l s<n)
 at_:∀s z,(y8 l n).atKey (R9 s) z=if F5 l s<n then .lit (.int .i64 (F5 l s))else z
theorem a7h(l:List ByteArray)(hn:l.Nodup):∀n,n≤l.length→c0D l n
 |0,_=>⟨Maps.tidy_empty,rfl,fun s=>by simp[y8,Maps.has],fun s z=>by simp[y8,DataW.atKey]⟩
 |n+1,h=>by
  have F:=a7h l hn n (by omega);have hk:WideAt.IsKeyLit (R9 (l.getD n ByteArray.empty)):=trivial;have hp:=b7S hn (n:=n) (by omega);refine⟨F.tidy.put hk _,?_,fun s=> ?_,fun s z=> ?_⟩
  ·show Maps.size ((y8 l n).put _ _)=_;rw[Maps.size_put F.tidy,F.has,hp,F.size];simp
  ·show Maps.has ((y8 l n).put _ _) _=_;by_cases e:s=l.getD n ByteArray.empty
   ·subst e;rw[Maps.has_put_same F.tidy.isMap hk,hp];simp
   ·rw[Maps.has_put_other (b2F e),F.has];exact c5w
  ·show((y8 l n).put _ _).atKey _ _=_;by_cases e:s=l.getD n ByteArray.empty
   ·subst e;rw[Maps.atKey_put_same F.tidy.isMap hk,hp];simp
   ·rw[Maps.atKey_put_other (b2F e),F.at_];exact c5w
def a2j(w:World)(mb:Nat)(names:List ByteArray):Prop:=w.ownsMap (H:=Unit) prog 9 (plainElem prog 3) mb names.length (a0F names)
variable {w w':World}
variable {b m mb:Nat}
theorem a2j.same(h:a2j w mb names)(e:w'.heap[mb]? =w.heap[mb]?):a2j w' mb names:=by
 obtain⟨es,clock,h1,h2⟩:=h;exact⟨es,clock,e.trans h1,h2⟩
def D0(w:World)(b mb:Nat)(r:Option WS):Prop:=
 ∃mo pv bv body wrong names,Wr w b mb mo pv bv (E7 names) body wrong∧a2j w mb names∧names.Nodup∧names.length≤255∧(∀x∈names,E3 x=true)∧body.length≤2049∧
  (∀s,r=some s→s.names.length≤255→wrong=false∧names=s.names∧body=s.out.take 2049)∧((∀s,r=some s→255<s.names.length)→wrong=true)
variable {r:Option WS}
theorem D0.lt(h:D0 w b mb r):b<w.heap.size:=by
 obtain⟨mo,pv,bv,body,wrong,names,hW,-⟩:=h;exact hW.blk.lt
theorem D0.keep(h:D0 w b mb r)(hg:w.grownBy w' none):D0 w' b mb r:=by
 obtain⟨mo,pv,bv,body,wrong,names,hW,hM,h1⟩:=h;exact⟨mo,pv,bv,body,wrong,names,hW.keep hg,hM.same (hg.block mb hW.mblt (by simp)),h1⟩
variable {mo:Obj}
variable {bv bv' pv pv':Value}
theorem Wr.sameMap{pool pool' body':List UInt8}{wrong wrong':Bool}(h:Wr w b mb mo pv bv pool body wrong)(h':Wr w' b mb mo pv' bv' pool' body' wrong'):w'.heap[mb]? =w.heap[mb]? :=h'.map.trans h.map.symm
theorem a0x(hm:m=1∨m=2)(n:Int):F7 m n=[.num n m]:=by
 rcases hm with rfl|rfl<;>rfl
variable {n:Int}
theorem c2l(h:0≤n∧n<256^m)(s:WS):I5 (.num n m) s=some ⟨s.names,s.out++N8 m n.toNat⟩:=by
 simp only[I5];rw[if_pos h]
theorem b2u(h:¬(0≤n∧n<256^m))(r:Option WS):r.bind (I5 (.num n m))=none:=by
 cases r with
 |none=>rfl
 |some s=>simp only[Option.bind_some,I5];rw[if_neg h]
theorem D0.more{wrong:Bool}{r':Option WS}(l:List UInt8)(hW:Wr w b mb mo pv bv (E7 names) body wrong)(hM:a2j w mb names)(h1:names.Nodup)(h2:names.length≤255)(h3:∀x∈names,E3 x=true)(h4:body.length≤2049)
 (h5:∀s,r=some s→s.names.length≤255→wrong=false∧names=s.names∧body=s.out.take 2049) (h6:(∀s,r=some s→255<s.names.length)→wrong=true)
 (hr:r'=r.map fun s=>(⟨s.names,s.out++l⟩:WS)) (hW':Wr w' b mb mo pv bv' (E7 names) (a0A body l) wrong):D0 w' b mb r':=by
 refine⟨mo,pv,bv',_,wrong,names,hW',hM.same (hW.sameMap hW'),h1,h2,h3,a6I h4,?_,?_⟩
 ·intro s hs hs2;rw[hr]at hs;cases r with
  |none=>cases hs
  |some s0=>
   simp only[Option.map_some,Option.some.injEq]at hs;subst hs;obtain⟨g1,g2,g3⟩:=h5 s0 rfl hs2;exact⟨g1,g2,by rw[g3,b5C]⟩
 ·intro hs;refine h6 (fun s e=> ?_);subst e;exact hs ⟨s.names,s.out++l⟩ (by rw[hr];rfl)
theorem D0.bad{wrong:Bool}(hW:Wr w b mb mo pv bv (E7 names) body wrong)(hM:a2j w mb names)(h1:names.Nodup)(h2:names.length≤255)(h3:∀x∈names,E3 x=true)(h4:body.length≤2049)
 (hW':Wr w' b mb mo pv' bv' (E7 names) body true):D0 w' b mb none:=
 ⟨mo,pv',bv',body,true,names,hW',hM.same (hW.sameMap hW'),h1,h2,h3,h4,(fun s e=>by cases e),fun _=>rfl⟩
theorem c4I(h:0≤n∧n<256):a6d n=N8 1 n.toNat:=by
 obtain⟨x,rfl⟩:∃x:Nat,n=x:=⟨n.toNat,by omega⟩
 simp only[a6d,N8,Int.toNat_natCast,List.cons.injEq,and_true];apply UInt8.toNat_inj.1;simp only[UInt8.toNat_ofNat'];omega
theorem c4H(h:0≤n∧n<65536):a6c n=N8 2 n.toNat:=by
 obtain⟨x,rfl⟩:∃x:Nat,n=x:=⟨n.toNat,by omega⟩
 simp only[a6c,N8,Int.toNat_natCast,List.cons.injEq,and_true];refine⟨?_,?_⟩<;>apply UInt8.toNat_inj.1<;>simp only[UInt8.toNat_ofNat']<;>omega
theorem c4G(h: -2147483648≤n∧n≤2147483647):a5c n=N8 4 (if n<0 then n+4294967296 else n).toNat:=by
 by_cases hn:n<0
 ·rw[if_pos hn];obtain⟨x,hx⟩:∃x:Nat,n+4294967296=x:=⟨(n+4294967296).toNat,by omega⟩
  rw[hx];obtain rfl:n=(x:Int)-4294967296:=by omega
  exact c5x
 ·rw[if_neg hn];obtain⟨x,rfl⟩:∃x:Nat,n=x:=⟨n.toNat,by omega⟩
  exact c5x
theorem a9g(h:0≤n∧n<256^m)(r:Option WS):r.bind (I5 (.num n m))=r.map fun s=>(⟨s.names,s.out++N8 m n.toNat⟩:WS):=by
 cases r with
 |none=>rfl
 |some s=>rw[Option.bind_some,c2l h];rfl
theorem a0I(w:World)(b mb:Nat)(r:Option WS)(n:Int)(m:Nat)(hm:m=0∨m=1∨m=2∨m=4)(h:Hid (D0 w b mb r)):
 Calls prog 214 #[.pointer (some ⟨b,0,none⟩), .int .i64 n, .int .i64 m] w fun e w'=>e= .returned (.tuple #[])∧C4 w w' b mb∧D0 w' b mb (A8 (F7 m n) r):=by
 obtain⟨mo,pv,bv,body,wrong,names,hW,hM,h1,h2,h3,h4,h5,h6⟩:=h.out;rcases hm with rfl|rfl|rfl|rfl
 ·by_cases hn:n=0
  ·subst hn;refine(b4K w b mb mo pv bv _ body wrong hW).mono ?_;rintro e w' ⟨rfl,hk,hw⟩;exact⟨rfl,hk,mo,pv,bv,body,wrong,names,hw,hM.same (hW.sameMap hw),h1,h2,h3,h4,h5,h6⟩
  ·refine(b5m w b mb mo pv bv _ body wrong n hW (by omega)).mono ?_;rintro e w' ⟨rfl,hk,hw⟩
   have e:A8 (F7 0 n) r=none:=by
    simp only[F7,hn];exact a1z r
   rw[e];exact⟨rfl,hk, .bad hW hM h1 h2 h3 h4 hw⟩
 ·rw[a0x (.inl rfl)];show Calls _ _ _ _ (fun e w'=>e= .returned (.tuple #[])∧C4 w w' b mb∧D0 w' b mb (r.bind (I5 (.num n 1))));by_cases hn:0≤n∧n<256^1
  ·refine(b4J w b mb mo pv bv _ body wrong n hW h4 (by omega)).mono ?_;rintro e w' ⟨rfl,hk,bv',hw⟩;rw[c4I (by omega)]at hw;exact⟨rfl,hk, .more _ hW hM h1 h2 h3 h4 h5 h6 (a9g hn r) hw⟩
  ·refine(b5l w b mb mo pv bv _ body wrong n hW (by omega)).mono ?_;exact c7j
 ·rw[a0x (.inr rfl)];show Calls _ _ _ _ (fun e w'=>e= .returned (.tuple #[])∧C4 w w' b mb∧D0 w' b mb (r.bind (I5 (.num n 2))));by_cases hn:0≤n∧n<256^2
  ·refine(b4I w b mb mo pv bv _ body wrong n hW h4 (by omega)).mono ?_;rintro e w' ⟨rfl,hk,bv',hw⟩;rw[c4H (by omega)]at hw;exact⟨rfl,hk, .more _ hW hM h1 h2 h3 h4 h5 h6 (a9g hn r) hw⟩
  ·refine(b5k w b mb mo pv bv _ body wrong n hW (by omega)).mono ?_;exact c7j
 ·by_cases hn: -2147483648≤n∧n≤2147483647
  ·refine(b4H w b mb mo pv bv _ body wrong n hW h4 hn).mono ?_;rintro e w' ⟨rfl,hk,bv',hw⟩;rw[c4G hn]at hw
   have e:A8 (F7 4 n) r=r.bind (I5 (.num (if n<0 then n+4294967296 else n) 4)):=by
    simp only[F7,hn];rfl
   rw[e];exact⟨rfl,hk, .more _ hW hM h1 h2 h3 h4 h5 h6 (a9g (by split<;>omega) r) hw⟩
  ·refine(b5j w b mb mo pv bv _ body wrong n hW (by omega)).mono ?_;rintro e w' ⟨rfl,hk,hw⟩
   have e:A8 (F7 4 n) r=none:=by
    simp only[F7,hn];exact a1z r
   rw[e];exact⟨rfl,hk, .bad hW hM h1 h2 h3 h4 hw⟩
theorem a6j:Maps.Keyed prog 9:=Maps.Keyed.of_law (WideMaps.string_law underlying9)
theorem a0y(w:World):(zeroValue 3).run prog w= .ok (.int .i64 0) w:=by kernel_rfl
theorem b4L(w:World)(b mb:Nat)(mo:Obj)(pv bv:Value)(pool body:List UInt8)(wrong:Bool)(D:DU)(n:Nat)(s:ByteArray)(p:Nat)(hp:p<256)(hs:Hid (s.size≤maxLen))(h:Hid (Wr w b mb mo pv bv pool body wrong))(hM:Hid (w.ownsMap (H:=Unit) prog 9 (plainElem prog 3) mb n D))(hl:body.length≤2049)
 (HHh:Hid (Maps.has D (R9 s)=true)) (HA:Hid (D.atKey (R9 s) (.lit (.int .i64 0))= .lit (.int .i64 p))):
 Calls prog 141 #[.pointer (some ⟨b,0,none⟩), .string s] w fun e w'=>e= .returned (.tuple #[])∧C4 w w' b mb∧∃bv',Wr w' b mb mo pv bv' pool (a0d body (UInt8.ofNat p)) wrong:=by
 have he:((p:Nat):Int)=((UInt8.ofNat p).toNat:Int):=by
  have:(UInt8.ofNat p).toNat=p:=by rw[UInt8.toNat_ofNat'];omega
  rw[this]
 have c0:=h.out.blk.c0;have HE:=A0 he;clear he;go_enter func141,ntmps141;go_wp2_with (at_lookup;go_loud (refine wpList_lookup_own_ok_int _ rfl _ _ 148 rfl 9 3 .i64 a6j underlying148 underlying3 (a0y _) mb n D rfl hM.out _ (R9 s) rfl (WideMaps.keyOf_string_mk underlying9 hs.out) ?_);intro c hc hwf;rw[HA.out]at hc;injection hc with hc;injection hc with _ hc;subst hc;clear hwf;rw[HHh.out])
 all_goals(try go_wp2_with (go_at_call 213;refine(a2B _ b mb mo pv bv pool body wrong _ _ HE.out h hl).mono ?_;rintro e w4 ⟨rfl,hk4,bv4,hw4⟩;try dsimp only))
 go_end0;exact⟨rfl,hk4,bv4,hw4⟩
theorem b5n(w:World)(b mb:Nat)(mo:Obj)(pv bv:Value)(body:List UInt8)(wrong:Bool)(names:List ByteArray)(s:ByteArray)(hs:Hid (s.size≤maxLen))(h:Hid (Wr w b mb mo pv bv (E7 names) body wrong))(hM:Hid (a2j w mb names))(hnd:names.Nodup)(hl:body.length≤2049)(hn:names.length≤255)(hk:F5 names s<names.length):
 Calls prog 141 #[.pointer (some ⟨b,0,none⟩), .string s] w fun e w'=>e= .returned (.tuple #[])∧C4 w w' b mb∧∃bv',Wr w' b mb mo pv bv' (E7 names) (a0d body (UInt8.ofNat (F5 names s))) wrong:=by
 have F:=a7h names hnd names.length (Nat.le_refl _)
 have hh:Maps.has (a0F names) (R9 s)=true:=by
  have:=F.has s;rw[decide_eq_true hk]at this;exact this
 have ha:(a0F names).atKey (R9 s) (.lit (.int .i64 0))= .lit (.int .i64 (F5 names s)):=by
  have:=F.at_ s (.lit (.int .i64 0));rw[if_pos hk]at this;exact this
 exact b4L w b mb mo pv bv (E7 names) body wrong (a0F names) names.length s (F5 names s) (by omega) hs h hM hl hh ha
theorem a8p(s:ByteArray)(w:World)(hs:s.size≤1099511627776):
 Calls prog 212 #[.string s] w fun e w'=>e= .returned (.bool (E3 s))∧w=w':=by
 by_cases h2:s.size≤2048
 ·exact b0S s w h2
 ·go_enter func212,ntmps212;go_wp2
  go_ret;exact⟨by simp[E3];intro _ h;omega,rfl⟩
open Go.Lib in
theorem b5y{P:Program}(w:World)(base:Nat)(t u ty e:TypeId)(i:TypeInfo)(ht:P.underlying t=some (.slice e))(hu:P.underlying u=some .string)(hi:P.info? e=some i)(hz:i.zero=some (.int .u8 0))
 (hsize:i.size=1) (hby:i.bytes=1) (g n cap:Nat) (xs:List Value) (hown:w.ownsRow base e 1 (.slice (some ⟨g,0,none⟩) n cap) n xs) (s:ByteArray)
 (h63:n+s.size≤maxLen) (hbytes:n+s.size≤140737488355328) (hbase:base≤w.heap.size):
 ∃v' w',(Builtin.append_ #[t,u] ty #[.slice (some ⟨g,0,none⟩) n cap, .string s]).run P w= .ok v' w'∧w'.ownsRow base e 1 v' (n+s.size) (xs++strCells s)∧w.grownBy w' (some g)∧
  (v'.ownBlock=some g∨v'.ownBlock=some w.heap.size):=by
 obtain⟨v',w',hr,h2,h3,h4⟩:=run_append_own_string (P:=P) w base t u ty e i ht hu hi hz hsize hby _ n xs hown s h63 hbytes hbase;refine⟨v',w',hr,h2,h3,?_⟩;have hxl:xs.length=n:=by simpa using hown.1
 rcases hown.2 with⟨hv,_⟩|⟨g',cap',cur,hv,hb,hg,hroom,hcm,hcs,htake⟩
 ·cases hv
 ·injection hv with hv1 hv2 hv3
  injection hv1 with hv1
  injection hv1 with hv1
  subst hv1 hv3;by_cases hc:n+s.size≤cap
  ·have hr2:=run_append_room_string (P:=P) w t u ty e i ht hu hi hsize g n cap cur hg s hc (by simp at hcs;omega);rw[hr]at hr2;injection hr2 with e1 e2
   exact .inl (by rw[e1];rfl)
  ·have holds:=hown.cells (g:=g) rfl;have hr2:=run_append_grow_string (P:=P) w t u ty e i (.int .u8 0) ht hu hi hz ⟨g,0,none⟩ n cap xs (by rw[hsize];simpa using hxl) holds s (by omega) (by simp only[maxLen]at h63;omega) (by rw[hby];exact growslice_fits (by omega) (by omega));rw[hr]at hr2;injection hr2 with e1 e2
   exact .inr (by rw[e1];rfl)
open Go.Lib in
theorem b4p{P:Program}{w:World}{ops:Array Oper}{rest:List Oper}{o:Oper}{a:Act}{Q:Exit→Act→World→Prop}(hgd:o.guard=none)(sl x:Operand)(t u:TypeId)
 (ho:o.op= .call {callee:= .builtin .append,args:= #[sl,x],argTypes:= #[t,u]})
 (base:Nat) (e:TypeId) (i:TypeInfo) (ht:P.underlying t=some (.slice e)) (hu:P.underlying u=some .string) (hi:P.info? e=some i) (hz:i.zero=some (.int .u8 0))
 (hsize:i.size=1) (hby:i.bytes=1)
 (g n cap:Nat) (xs:List Value) (hs:a.eval sl= .slice (some ⟨g,0,none⟩) n cap) (hown:w.ownsRow base e 1 (.slice (some ⟨g,0,none⟩) n cap) n xs) (s:ByteArray) (hx:a.eval x= .string s)
 (h63:n+s.size≤maxLen) (hbytes:n+s.size≤140737488355328) (hbase:base≤w.heap.size)
 (h:∀v' w',w'.ownsRow base e 1 v' (n+s.size) (xs++strCells s)→w.grownBy w' (some g)→(v'.ownBlock=some g∨v'.ownBlock=some w.heap.size)→wpList P ops Q rest (a.put o.dst v') w'):wpList P ops Q (o::rest) a w:=by
 refine wpList_plain hgd fun K hK=> ?_
 obtain⟨v',w',hr,h2,h3,h4⟩:=b5y (P:=P) w base t u o.type e i ht hu hi hz hsize hby g n cap xs hown s h63 hbytes hbase;unfold Oper.wp execOp;simp only[ho,resolve,invoke,builtin,Sem.run_bind,Sem.run_pure,Result.andThen_ok,List.map_toArray,List.map_cons,List.map_nil,hs,hx,hr];exact hK _ _ (h v' w' h2 h3 h4)
section
variable{w w':World}{b mb:Nat}{mo:Obj}{pv bv:Value}{pool body:List UInt8}{wrong:Bool}
open Go.ChangeMaps in
theorem b2K(h:w.mapTurned w' mb):w.grownBy w' (some mb)∧∃mo',w'.heap[mb]? =some mo'∧∀cs t fr,mo'≠ .cells cs t fr:=by
 obtain⟨es,clock,es',clock',hb,rfl⟩:=h;refine⟨⟨rfl,rfl,rfl,by simp[setBlock],fun k _ hk=>heap_setBlock_other hb _ (fun e=>hk (by rw[e]))⟩,_,heap_setBlock_same hb _,fun cs t fr e=>by cases e⟩
theorem Wr.turn(h:Wr w b mb mo pv bv pool body wrong)(ht:w.mapTurned w' mb):∃mo',Wr w' b mb mo' pv bv pool body wrong:=by
 obtain⟨hg,mo',h1,h2⟩:=b2K ht;exact⟨mo',h.blk.keep hg (by intro e;exact h.mbne (Option.some.inj e).symm),h1,h2,h.poolR.kept hg (.inr (a6J h.poolR h.map h.notCells)),h.bodyR.kept hg (.inr (a6J h.bodyR h.map h.notCells)),h.apart⟩
theorem Wr.setPool{w1:World}{pv':Value}{pool':List UInt8}(h:Wr w b mb mo pv bv pool body wrong)(h1:w.grownBy w1 pv.ownBlock)(ho:w1.ownsRow (b+1) 5 1 pv' pool'.length (pool'.map O0))(ha:pv'.ownBlock=pv.ownBlock∨∀k,pv'.ownBlock=some k→w.heap.size≤k):
 Wr (w1.setCell ⟨b,1,none⟩ pv') b mb mo pv' bv pool' body wrong:=by
 have hnb:=K0 h.poolR (Nat.lt_succ_self _);have hnm:=a6J h.poolR h.map h.notCells
 have hap:bv.ownBlock=none∨bv.ownBlock≠pv.ownBlock:=by
  rcases h.apart with e|e
  ·cases hb:bv.ownBlock with
   |none=>exact .inl rfl
   |some g=>exact .inr (by rw[e];exact fun c=>by cases c)
  ·exact .inr (fun c=>e c.symm)
 refine⟨(h.blk.keep h1 (fun e=>hnb e.symm)).set 1 _,?_,h.notCells,ho.kept (A9 w1 ⟨b,1,none⟩ _) (.inr (K0 ho (Nat.lt_succ_self _))),?_,?_⟩
 ·exact((A9 w1 ⟨b,1,none⟩ pv').block mb (Nat.lt_of_lt_of_le h.mblt h1.size) (by simpa using h.mbne)).trans ((h1.block mb h.mblt (fun e=>hnm e.symm)).trans h.map)
 ·exact(World.ownsRow.kept h.bodyR h1 hap).kept (A9 w1 ⟨b,1,none⟩ _) (.inr (K0 h.bodyR (Nat.lt_succ_self _)))
 ·rcases ha with ha|ha
  ·rw[ha];exact h.apart
  ·cases hb:bv.ownBlock with
   |none=>
    cases hp:pv'.ownBlock with
    |none=>exact .inl rfl
    |some g=>exact .inr (fun c=>by cases c)
   |some g=>
    refine .inr (fun e=> ?_);have h2:=ha g e;have h3:=(Y4 h.bodyR hb).2;omega
end
variable {w w':World}
variable {b lim mb:Nat}
theorem a6C{n:Nat}{D:DU}(h:w.ownsMap (H:=Unit) prog 9 (plainElem prog 3) mb n D)(e:w'.heap[mb]? =w.heap[mb]?):w'.ownsMap (H:=Unit) prog 9 (plainElem prog 3) mb n D:=by
 obtain⟨es,clock,h1,h2⟩:=h;exact⟨es,clock,e.trans h1,h2⟩
theorem c4U(s:ByteArray):Go.Lib.strCells s=s.data.toList.map O0:=rfl
theorem b6j(w:World)(b mb:Nat)(mo:Obj)(pv bv:Value)(pool body:List UInt8)(wrong:Bool)(D:DU)(n:Nat)(s:ByteArray)(hn:n<255)(hs:s.size≤12)(h:Hid (Wr w b mb mo pv bv pool body wrong))(hM:Hid (w.ownsMap (H:=Unit) prog 9 (plainElem prog 3) mb n D))(hl:body.length≤2049)(hpl:pool.length≤4096)
 (HHh:Hid (Maps.has D (R9 s)=false)) (HA:Hid (D.atKey (R9 s) (.lit (.int .i64 0))= .lit (.int .i64 0))) (HS:Hid (Maps.size D=n)) (HN:Hid (E3 s=true)):
 Calls prog 141 #[.pointer (some ⟨b,0,none⟩), .string s] w fun e w'=>e= .returned (.tuple #[])∧C4 w w' b mb∧∃mo' pv' bv',Wr w' b mb mo' pv' bv' (pool++(UInt8.ofNat s.size::s.data.toList)) (a0d body (UInt8.ofNat n)) wrong∧w'.ownsMap (H:=Unit) prog 9 (plainElem prog 3) mb (n+1) (D.put (R9 s) (.lit (.int .i64 n))):=by
 obtain⟨pa,pk,rfl⟩:=F0 h.out.poolR;obtain⟨i,hi,hz0,hz1,hz2⟩:=info_parts a7s
 have hb:((s.size:Nat):Int)=((UInt8.ofNat s.size).toNat:Int):=by
  have:(UInt8.ofNat s.size).toNat=s.size:=by rw[UInt8.toNat_ofNat'];omega
  rw[this]
 have HB:=A0 hb.symm;clear hb;have hs12:Hid (s.size≤maxLen):=by unfold Hid maxLen;omega
 have he:((n:Nat):Int)=((UInt8.ofNat n).toNat:Int):=by
  have:(UInt8.ofNat n).toNat=n:=by rw[UInt8.toNat_ofNat'];omega
  rw[this]
 have HE:=A0 he;clear he;have c0:=h.out.blk.c0;go_enter func141,ntmps141;go_wp2_with (at_lookup;go_loud (refine wpList_lookup_own_ok_int _ rfl _ _ 148 rfl 9 3 .i64 a6j underlying148 underlying3 (a0y _) mb n D rfl hM.out _ (R9 s) rfl (WideMaps.keyOf_string_mk underlying9 hs12.out) ?_);intro c hc hwf;rw[HA.out]at hc;injection hc with hc;injection hc with _ hc;subst hc;clear hwf;rw[HHh.out])
 go_wp2_with (go_at_call 212;refine(a8p s _ (by omega)).mono ?_;rintro e w' ⟨rfl,rfl⟩;rw[HN.out])
 rw[hM.out.len underlying148,HS.out];simp only[Result.andThen_ok];have hval:plainElem (H:=Unit) prog 3 (.int .i64 (n:Int))=some (.lit (.int .i64 n),[]):=plainElem_int underlying3 (by simp[Lit.wf,IntKind.min,IntKind.max,IntKind.signed,IntKind.bits];omega);have HV:=A0 hval;clear hval
 go_wp2_with (first
  |(at_len;refine wpList_len_own _ rfl _ 148 rfl 9 3 underlying148 _ mb n D rfl hM.out ?_;rw[HS.out])
  |(at_mapUpdate;go_loud (refine wpList_mapUpdate_in _ rfl _ _ _ 148 rfl 9 3 a6j underlying148 _ mb n D rfl hM.out (by unfold maxLen;omega) _ _ (R9 s) rfl rfl (WideMaps.keyOf_string_mk underlying9 hs12.out) _ [] HV.out ?_);intro w1 hown1 hturn1;obtain⟨mo1,hw1⟩:=h.out.turn hturn1;have HW1:=A0 hw1;have HM1:=A0 hown1;have HK1:Hid (C4 w w1 b mb):= .of (b2K hturn1).1 (fun k hk _=> .inr (.inl (Option.some.inj hk).symm));clear hown1 hturn1 hw1;have d1:=HW1.out.blk.c1;have y1:=HW1.out.blk.frozen 1;have hbl1:=HW1.out.blk.lt)
  |(at_builtin;first
     |(go_loud (refine b4p rfl _ _ 193 9 rfl (b+1) 5 i underlying193 underlying9 hi hz0 hz1 hz2 g1 (pool.length+1) k1 _ rfl HO2.out s rfl (by unfold maxLen;omega) (by omega) hb2.out ?_)
       intro v3 w3 hown3 hgrow3 hlie3;obtain⟨va,vk,rfl⟩:=F0 hown3
       go_loud (
        have hlen3:pool.length+1+s.size=(pool++UInt8.ofNat s.size::s.data.toList).length:=by simp only[List.length_append,List.length_cons,Array.length_toList];have:s.data.size=s.size:=rfl;omega
        have hO3:w3.ownsRow (b+1) 5 1 (.slice va (pool.length+1+s.size) vk) (pool++UInt8.ofNat s.size::s.data.toList).length ((pool++UInt8.ofNat s.size::s.data.toList).map O0):=by
         rw[←hlen3];have e3:(pool++UInt8.ofNat s.size::s.data.toList).map O0=(pool++ [UInt8.ofNat s.size]).map O0++Go.Lib.strCells s:=by simp[c4U]
         rw[e3];exact hown3
        have HW3:Hid (Wr (w3.setCell ⟨b,1,none⟩ (.slice va (pool.length+1+s.size) vk)) b mb mo1 (.slice va (pool.length+1+s.size) vk) bv (pool++UInt8.ofNat s.size::s.data.toList) body wrong):=HW2.out.setPool hgrow3 hO3 (by
         rcases hlie3 with e|e
         ·exact .inl e
         ·exact .inr (fun k hk=>by rw[e]at hk;injection hk with hk;omega))
        have HK3:Hid (C4 w (w3.setCell ⟨b,1,none⟩ (.slice va (pool.length+1+s.size) vk)) b mb):=HK2.out.trans ((C4.of hgrow3 (fun k hk _=>a8W HO2.out k hk)).trans (.ofB (A9 _ ⟨b,1,none⟩ _)));have HM3:=A0 (a6C HM2.out (HW2.out.sameMap HW3.out));have d3:w3.cell? ⟨b,1,none⟩=some (.slice (some ⟨g1,0,none⟩) (pool.length+1) k1):=(hgrow3.cell_far ⟨b,1,none⟩ hb2.out (fun e=>by simp only[Option.some.injEq]at e;omega)).trans e2;have y3:=(hgrow3.frozen_far ⟨b,1,none⟩ hb2.out (fun e=>by simp only[Option.some.injEq]at e;omega)).trans f2;clear hown3 hgrow3 hlie3 e2 f2 hO3 hlen3))
     |(go_loud (refine wpList_append_lies _ rfl _ _ 193 rfl (b+1) 5 i _ 1 1 underlying193 hi hz0 hz1 hz2 rfl (by decide) _ pool.length (pool.map O0) rfl (World.ownsRow.alloc HW1.out.poolR _) ⟨w1.heap.size,0,none⟩ 1 1 [.int .u8 s.size] rfl rfl (S6 w1 [.int .u8 s.size] 5) (by simp[Value.oneCell']) (by omega) (by unfold maxLen;omega) (by omega) (by simp;omega) (w1.heap.size+1) (by simp) ?_)
       intro g1 k1 w2 hown2 hgrow2 hlie2 hlt2
       go_loud (
        have hgA:=A1 (A2 w1 (.cells #[.int .u8 s.size] 5) _) hgrow2;have hO2:w2.ownsRow (b+1) 5 1 (.slice (some ⟨g1,0,none⟩) (pool.length+1) k1) (pool++ [UInt8.ofNat s.size]).length ((pool++ [UInt8.ofNat s.size]).map O0):=by rw[List.map_append,List.map_singleton,show O0 (UInt8.ofNat s.size)= .int .u8 (s.size:Int)from by unfold O0;rw[HB.out],List.length_append];exact hown2
        have HW2:Hid (Wr (w2.setCell ⟨b,1,none⟩ (.slice (some ⟨g1,0,none⟩) (pool.length+1) k1)) b mb mo1 (.slice (some ⟨g1,0,none⟩) (pool.length+1) k1) bv (pool++ [UInt8.ofNat s.size]) body wrong):=
         HW1.out.setPool hgA hO2 (by
          rcases hlie2 with e|e
          ·exact .inl e.symm
          ·refine .inr (fun q hq=> ?_);simp only[Value.ownBlock,Option.some.injEq]at hq;omega)
        have HK2:Hid (C4 w (w2.setCell ⟨b,1,none⟩ (.slice (some ⟨g1,0,none⟩) (pool.length+1) k1)) b mb):=HK1.out.trans ((C4.of hgA (fun k hk _=>a8W HW1.out.poolR k hk)).trans (.ofB (A9 _ ⟨b,1,none⟩ _)));have HM2:=A0 (a6C HM1.out (HW1.out.sameMap HW2.out));have HO2:Hid ((w2.setCell ⟨b,1,none⟩ (.slice (some ⟨g1,0,none⟩) (pool.length+1) k1)).ownsRow (b+1) 5 1 (.slice (some ⟨g1,0,none⟩) (pool.length+1) k1) (pool.length+1) ((pool++ [UInt8.ofNat s.size]).map O0)):=by simpa[Hid]using HW2.out.poolR
        have hne1:=K0 HW1.out.poolR (Nat.lt_succ_self _);have d2:w2.cell? ⟨b,1,none⟩=some (.slice pa pool.length pk):=(hgA.cell_far ⟨b,1,none⟩ hbl1 (fun e=>hne1 e.symm)).trans d1;have y2:=(hgA.frozen_far ⟨b,1,none⟩ hbl1 (fun e=>hne1 e.symm)).trans y1;have e2:=HW2.out.blk.c1;have f2:=HW2.out.blk.frozen 1;have hb2:Hid (b+1≤(w2.setCell ⟨b,1,none⟩ (.slice (some ⟨g1,0,none⟩) (pool.length+1) k1)).heap.size):=HW2.out.blk.lt
        have hg1:b<g1:=by
         obtain⟨_,_,q1,q2,_⟩:=HO2.out.form (by omega);injection q1 with q1;injection q1 with q1;injection q1 with q1;omega
        clear hown2 hgrow2 hlie2 hlt2 hgA hO2 d1 y1 hne1))))
 go_wp2_with (go_at_call 213;refine(a2B _ b mb mo1 _ bv (pool++UInt8.ofNat s.size::s.data.toList) body wrong _ _ HE.out HW3 hl).mono ?_;rintro e w4 ⟨rfl,hk4,bv4,hw4⟩;try dsimp only)
 go_end0;exact⟨rfl,HK3.out.trans hk4,mo1,_,bv4,hw4,a6C HM3.out (HW3.out.sameMap hw4)⟩
theorem b6l(w:World)(b mb:Nat)(mo:Obj)(pv bv:Value)(pool body:List UInt8)(wrong:Bool)(D:DU)(n:Nat)(s:ByteArray)(hs:Hid (s.size≤1099511627776))(h:Hid (Wr w b mb mo pv bv pool body wrong))(hM:Hid (w.ownsMap (H:=Unit) prog 9 (plainElem prog 3) mb n D))
 (HHh:Hid (Maps.has D (R9 s)=false)) (HA:Hid (D.atKey (R9 s) (.lit (.int .i64 0))= .lit (.int .i64 0))) (HN:Hid (E3 s=false)):
 Calls prog 141 #[.pointer (some ⟨b,0,none⟩), .string s] w fun e w'=>e= .returned (.tuple #[])∧C4 w w' b mb∧Wr w' b mb mo pv bv pool body true:=by
 have hs12:Hid (s.size≤maxLen):=by unfold Hid maxLen;have:=hs.out;omega
 have c0:=h.out.blk.c0;have c3:=h.out.blk.c3;have z3:=h.out.blk.frozen 3;have HW1:=A0 h.out.spoil;have HK1:Hid (C4 w (w.setCell ⟨b,3,none⟩ (.bool true)) b mb):= .ofB (A9 w ⟨b,3,none⟩ _);go_enter func141,ntmps141;go_wp2_with (at_lookup;go_loud (refine wpList_lookup_own_ok_int _ rfl _ _ 148 rfl 9 3 .i64 a6j underlying148 underlying3 (a0y _) mb n D rfl hM.out _ (R9 s) rfl (WideMaps.keyOf_string_mk underlying9 hs12.out) ?_);intro c hc hwf;rw[HA.out]at hc;injection hc with hc;injection hc with _ hc;subst hc;clear hwf;rw[HHh.out])
 go_wp2_with (go_at_call 212;refine(a8p s _ hs.out).mono ?_;rintro e w' ⟨rfl,rfl⟩;rw[HN.out])
 all_goals
  (try simp only[Exit.inBlock,Exit.then]);refine bodyPost_ret (results_none rfl _ _ _) rfl ?_
  exact⟨rfl,HK1.out,HW1.out⟩
theorem b6k(w:World)(b mb:Nat)(mo:Obj)(pv bv:Value)(pool body:List UInt8)(wrong:Bool)(D:DU)(n:Nat)(s:ByteArray)(hs:Hid (s.size≤1099511627776))(h:Hid (Wr w b mb mo pv bv pool body wrong))(hM:Hid (w.ownsMap (H:=Unit) prog 9 (plainElem prog 3) mb n D))
 (HHh:Hid (Maps.has D (R9 s)=false)) (HA:Hid (D.atKey (R9 s) (.lit (.int .i64 0))= .lit (.int .i64 0))) (HN:Hid (E3 s=true)) (HS:Hid (Maps.size D=255)):
 Calls prog 141 #[.pointer (some ⟨b,0,none⟩), .string s] w fun e w'=>e= .returned (.tuple #[])∧C4 w w' b mb∧Wr w' b mb mo pv bv pool body true:=by
 have hs12:Hid (s.size≤maxLen):=by unfold Hid maxLen;have:=hs.out;omega
 have c0:=h.out.blk.c0;have c3:=h.out.blk.c3;have z3:=h.out.blk.frozen 3;have HW1:=A0 h.out.spoil;have HK1:Hid (C4 w (w.setCell ⟨b,3,none⟩ (.bool true)) b mb):= .ofB (A9 w ⟨b,3,none⟩ _);go_enter func141,ntmps141;go_wp2_with (at_lookup;go_loud (refine wpList_lookup_own_ok_int _ rfl _ _ 148 rfl 9 3 .i64 a6j underlying148 underlying3 (a0y _) mb n D rfl hM.out _ (R9 s) rfl (WideMaps.keyOf_string_mk underlying9 hs12.out) ?_);intro c hc hwf;rw[HA.out]at hc;injection hc with hc;injection hc with _ hc;subst hc;clear hwf;rw[HHh.out])
 go_wp2_with (go_at_call 212;refine(a8p s _ hs.out).mono ?_;rintro e w' ⟨rfl,rfl⟩;rw[HN.out])
 rw[hM.out.len underlying148,HS.out];simp only[Result.andThen_ok];go_wp2_with fail
 all_goals
  (try simp only[Exit.inBlock,Exit.then]);refine bodyPost_ret (results_none rfl _ _ _) rfl ?_
  exact⟨rfl,HK1.out,HW1.out⟩
theorem a4h(names:List ByteArray)(t:ByteArray)(s:WS)(s':WS)(h:I5 (.nm t) s=some s'):E3 t=true∧s'=⟨T0 s.names t,s.out++ [UInt8.ofNat (F5 s.names t)]⟩:=by
 simp only[I5]at h;split at h
 ·rename_i hc;exact⟨hc.1,(Option.some.inj h).symm⟩
 ·cases h
theorem a5w(l:List ByteArray)(t:ByteArray):l.length≤(T0 l t).length:=by
 unfold T0;split<;>simp
theorem b4t(l:List ByteArray)(t:ByteArray):E7 (l++ [t])=E7 l++(UInt8.ofNat t.size::t.data.toList):=by
 simp[E7,List.flatMap_append]
variable {l names:List ByteArray}
variable {t:ByteArray}
theorem b7R(h:F5 l t<l.length):t∈l:=by
 have:=a8U (l:=l) (s:=t) rfl h;rw[←this];simp only[List.getD,List.getElem?_eq_getElem h,Option.getD_some];exact List.getElem_mem h
theorem b4U(h:¬F5 l t<l.length):t∉l:=by
 intro hm;apply h;unfold F5;exact List.findIdx_lt_length_of_exists ⟨t,hm,by simp⟩
theorem b0c:∀{names:List ByteArray},(∀x∈names,E3 x=true)→(E7 names).length≤13*names.length
 | [],_=>Nat.le_refl _
 |x::l,h=>by
  have h1:=b0c (names:=l) (fun y hy=>h y (List.mem_cons_of_mem _ hy));have h2:=h x (List.mem_cons_self);simp only[E3,Bool.and_eq_true,decide_eq_true_eq]at h2;have h3:x.data.size=x.size:=rfl;have e:E7 (x::l)=(UInt8.ofNat x.size::x.data.toList)++E7 l:=rfl;rw[e];simp only[List.length_append,List.length_cons,Array.length_toList];omega
theorem b0g(h2:names.length≤255)(h3:∀x∈names,E3 x=true):(E7 names).length≤4096:=by
 have:=b0c h3;omega
theorem a4z(w:World)(b mb:Nat)(r:Option WS)(t:ByteArray)(ht:t.size≤1099511627776)(h:Hid (D0 w b mb r)):
 Calls prog 141 #[.pointer (some ⟨b,0,none⟩), .string t] w fun e w'=>e= .returned (.tuple #[])∧C4 w w' b mb∧D0 w' b mb (A8 [.nm t] r):=by
 obtain⟨mo,pv,bv,body,wrong,names,hW,hM,h1,h2,h3,h4,h5,h6⟩:=h.out;show Calls _ _ _ _ (fun e w'=>e= .returned (.tuple #[])∧C4 w w' b mb∧D0 w' b mb (r.bind (I5 (.nm t))));have F:=a7h names h1 names.length (Nat.le_refl _);have hs':t.size≤maxLen:=by unfold maxLen;omega
 have hnot:wrong=false→∃s,r=some s∧s.names.length≤255∧names=s.names∧body=s.out.take 2049:=by
  intro hw;cases r with
  |none=>have:=h6 (fun s e=>by cases e);rw[hw]at this;cases this
  |some s=>
   by_cases hl:s.names.length≤255
   ·exact⟨s,rfl,hl,(h5 s rfl hl).2⟩
   ·have:=h6 (fun s' e=>by injection e with e;subst e;omega);rw[hw]at this;cases this
 by_cases hk:F5 names t<names.length
 ·refine(b5n w b mb mo pv bv body wrong names t hs' hW hM h1 h4 h2 hk).mono ?_;rintro e w' ⟨rfl,hkp,bv',hw⟩;refine⟨rfl,hkp,mo,pv,bv',_,wrong,names,hw,hM.same (hW.sameMap hw),h1,h2,h3,a8S h4,?_,?_⟩
  ·intro s' hs hl;obtain⟨s,rfl,hst⟩:=Option.bind_eq_some_iff.1 hs;obtain⟨_,rfl⟩:=a4h names t s s' hst;have hle:=a5w s.names t;obtain⟨g1,g2,g3⟩:=h5 s rfl (by simp only at hl;omega);refine⟨g1,?_,?_⟩
   ·simp only[T0];rw[←g2,if_pos hk]
   ·simp only;rw[g3,g2,a8y]
  ·intro hs;cases hw2:wrong with
   |true=>rfl
   |false=>
    obtain⟨s,rfl,hl,g2,g3⟩:=hnot hw2;subst g2
    have:=hs ⟨T0 s.names t,s.out++ [UInt8.ofNat (F5 s.names t)]⟩ (by
     simp only[Option.bind_some,I5];rw[if_pos ⟨h3 t (b7R hk),by omega⟩])
    simp only[T0,if_pos hk]at this;omega
 ·have hhas:Maps.has (a0F names) (R9 t)=false:=by
   have:=F.has t;rw[decide_eq_false hk]at this;exact this
  have hat:(a0F names).atKey (R9 t) (.lit (.int .i64 0))= .lit (.int .i64 0):=by
   have:=F.at_ t (.lit (.int .i64 0));rw[if_neg hk]at this;exact this
  have hpos:F5 names t=names.length:=by have:=a5I names t;omega
  by_cases hn:E3 t=true
  ·by_cases hc:names.length<255
   ·have ht12:t.size≤12:=by
     simp only[E3,Bool.and_eq_true,decide_eq_true_eq]at hn;exact hn.1.2
    refine(b6j w b mb mo pv bv (E7 names) body wrong (a0F names) names.length t hc ht12 hW hM h4 (b0g h2 h3) hhas hat F.size hn).mono ?_;rintro e w' ⟨rfl,hkp,mo',pv',bv',hw,hm⟩;refine⟨rfl,hkp,mo',pv',bv',a0d body (UInt8.ofNat names.length),wrong,names++ [t],by rw[b4t];exact hw,?_,?_,by simp;omega,?_,a8S h4,?_,?_⟩
    ·unfold a2j;rw[b8d,List.length_append,List.length_singleton];exact hm
    ·exact List.nodup_append.2 ⟨h1,by simp,fun a ha c hc'=>by simp only[List.mem_singleton]at hc';subst hc';exact fun e=>b4U hk (e▸ha)⟩
    ·intro x hx;rcases List.mem_append.1 hx with hx|hx
     ·exact h3 x hx
     ·simp only[List.mem_singleton]at hx;subst hx;exact hn
    ·intro s' hs hl;obtain⟨s,rfl,hst⟩:=Option.bind_eq_some_iff.1 hs;obtain⟨_,rfl⟩:=a4h names t s s' hst;have hle:=a5w s.names t;obtain⟨g1,g2,g3⟩:=h5 s rfl (by simp only at hl;omega);refine⟨g1,?_,?_⟩
     ·simp only[T0];rw[←g2,if_neg hk]
     ·simp only;rw[g3,←g2,hpos,a8y]
    ·intro hs;cases hw2:wrong with
     |true=>rfl
     |false=>
      obtain⟨s,rfl,hl,g2,g3⟩:=hnot hw2;subst g2
      have:=hs ⟨T0 s.names t,s.out++ [UInt8.ofNat (F5 s.names t)]⟩ (by
       simp only[Option.bind_some,I5];rw[if_pos ⟨hn,by omega⟩])
      simp only[T0,if_neg hk,List.length_append,List.length_singleton]at this;omega
   ·have hc':names.length=255:=by omega
    refine(b6k w b mb mo pv bv (E7 names) body wrong (a0F names) names.length t ht hW hM hhas hat hn (by rw[←hc'];exact F.size)).mono ?_;rintro e w' ⟨rfl,hkp,hw⟩;refine⟨rfl,hkp,mo,pv,bv,body,true,names,hw,hM.same (hW.sameMap hw),h1,h2,h3,h4,?_,fun _=>rfl⟩;intro s' hs hl;exfalso;obtain⟨s,rfl,hst⟩:=Option.bind_eq_some_iff.1 hs;obtain⟨_,rfl⟩:=a4h names t s s' hst;have hle:=a5w s.names t;obtain⟨g1,g2,g3⟩:=h5 s rfl (by simp only at hl;omega);simp only[T0]at hl;rw[←g2,if_neg hk]at hl;simp at hl;omega
  ·have hn':E3 t=false:=by simpa using hn
   refine(b6l w b mb mo pv bv (E7 names) body wrong (a0F names) names.length t ht hW hM hhas hat hn').mono ?_;rintro e w' ⟨rfl,hkp,hw⟩;refine⟨rfl,hkp,mo,pv,bv,body,true,names,hw,hM.same (hW.sameMap hw),h1,h2,h3,h4,?_,fun _=>rfl⟩;intro s' hs hl;exfalso;obtain⟨s,rfl,hst⟩:=Option.bind_eq_some_iff.1 hs;exact hn (a4h names t s s' hst).1
variable {mo:Obj}
variable {bv pv:Value}
variable {body:List UInt8}
theorem D0.wrong{wrong:Bool}(hW:Wr w b mb mo pv bv (E7 names) body wrong)(hM:a2j w mb names)(h1:names.Nodup)(h2:names.length≤255)(h3:∀x∈names,E3 x=true)(h4:body.length≤2049):
 D0 (w.setCell ⟨b,3,none⟩ (.bool true)) b mb none:= .bad hW hM h1 h2 h3 h4 hW.spoil
theorem b6m(w:World)(b mb:Nat)(mo:Obj)(pv bv:Value)(pool body:List UInt8)(wrong:Bool)(s:ByteArray)(hs:s.size≠0)(h:Hid (Wr w b mb mo pv bv pool body wrong)):
 Calls prog 290 #[.pointer (some ⟨b,0,none⟩), .bool false, .string s] w fun e w'=>e= .returned (.tuple #[])∧w'=w.setCell ⟨b,3,none⟩ (.bool true):=by
 have c3:=h.out.blk.c3;have z3:=h.out.blk.frozen 3
 have hem:Hid (s.toList.isEmpty=false):=by
  unfold Hid;rw[ByteArray.toList_eq];cases hd:s.data.toList with
  |nil=>
   exfalso;apply hs;have:s.data.toList.length=0:=by rw[hd];rfl
   simpa using this
  |cons x l=>rfl
 go_enter func290,ntmps290;go_wp2_with fail
 all_goals first
  |(go_end0;exact⟨rfl,rfl⟩)
  |(exfalso;have:=hem.out;simp_all)
theorem b4x(w:World)(b:Nat):
 Calls prog 290 #[.pointer (some ⟨b,0,none⟩), .bool false, .string ByteArray.empty] w fun e w'=>e= .returned (.tuple #[])∧w'=w:=by
 have hem:Hid (ByteArray.empty.toList.isEmpty=true):=by unfold Hid;rw[ByteArray.toList_eq];rfl
 go_enter func290,ntmps290;go_wp2_with fail
 all_goals first
  |(go_end0;exact⟨rfl,rfl⟩)
  |(exfalso;have:=hem.out;simp_all)
theorem a8c(w:World)(b mb:Nat)(r:Option WS)(c:Bool)(t:ByteArray)(ht:t.size≤1099511627776)(h:Hid (D0 w b mb r)):
 Calls prog 290 #[.pointer (some ⟨b,0,none⟩), .bool c, .string t] w fun e w'=>e= .returned (.tuple #[])∧C4 w w' b mb∧D0 w' b mb (A8 (o8 c t) r):=by
 cases c with
 |true=>
  show Calls _ _ _ _ (fun e w'=>e= .returned (.tuple #[])∧C4 w w' b mb∧D0 w' b mb (A8 [.nm t] r));go_enter func290,ntmps290;go_wp2_with (go_at_call 141;refine(a4z w b mb r t ht h).mono ?_;rintro e w4 ⟨rfl,hk4,hw4⟩;try dsimp only)
  go_end0;exact⟨rfl,hk4,hw4⟩
 |false=>
  by_cases hs:t.size=0
  ·have e:t=ByteArray.empty:=by
    apply ByteArray.ext;apply Array.eq_empty_of_size_eq_zero hs
   subst e;refine(b4x w b).mono ?_;rintro e w' ⟨rfl,rfl⟩;exact⟨rfl,C4.refl _ _ _,h.out⟩
  ·obtain⟨mo,pv,bv,body,wrong,names,hW,hM,h1,h2,h3,h4,h5,h6⟩:=h.out;refine(b6m w b mb mo pv bv _ body wrong t hs hW).mono ?_;rintro e w' ⟨rfl,rfl⟩;refine⟨rfl, .ofB (A9 w ⟨b,3,none⟩ _),?_⟩
   have e:A8 (o8 false t) r=none:=by
    simp only[o8,hs];exact a1z r
   rw[e];exact D0.wrong hW hM h1 h2 h3 h4
variable {r:Option WS}
theorem D0.mblt(h:D0 w b mb r):mb<w.heap.size:=by
 obtain⟨mo,pv,bv,body,wrong,names,hW,-⟩:=h;exact hW.mblt
theorem b8T(w:World)(b mb:Nat)(mo:Obj)(pv bv:Value)(pool body:List UInt8)(wrong:Bool)(k:Int)(s:ByteArray)(hk:¬(0≤k∧k≤4))(h:Hid (Wr w b mb mo pv bv pool body wrong)):
 Calls prog 215 #[.pointer (some ⟨b,0,none⟩), .agg #[.int .i64 k, .string s]] w fun e w'=>e= .returned (.tuple #[])∧w'=(w.alloc (.cells #[.int .i64 k, .string s] 98)).setCell ⟨b,3,none⟩ (.bool true):=by
 have HWa:Hid (Wr (w.alloc (.cells #[.int .i64 k, .string s] 98)) b mb mo pv bv pool body wrong):=h.out.keep (A2 w _ _);have c3:=HWa.out.blk.c3;have z3:=HWa.out.blk.frozen 3;go_enter func215,ntmps215;by_cases h0:k<0
 ·exact a2s
 ·have h4:4<k:=by omega
  exact a2s
theorem b7u(w:World)(b mb:Nat)(r:Option WS)(k:Nat)(s:ByteArray)(hk:k≤4)(ht:s.size≤1099511627776)(h:Hid (D0 w b mb r)):
 Calls prog 215 #[.pointer (some ⟨b,0,none⟩), .agg #[.int .i64 k, .string s]] w fun e w'=>e= .returned (.tuple #[])∧C4 w w' b mb∧D0 w' b mb (A8 (o8 (a0N k) s) (A8 (F7 1 k) r)):=by
 have HWa:Hid (D0 (w.alloc (.cells #[.int .i64 k, .string s] 98)) b mb r):=h.out.keep (A2 w _ _);have HKa:Hid (C4 w (w.alloc (.cells #[.int .i64 k, .string s] 98)) b mb):= .ofNone (A2 w _ _);have HBa:Hid (A3 (w.alloc (.cells #[.int .i64 k, .string s] 98)) w.heap.size #[.int .i64 k, .string s] 98):=A3.new w _ _;have hnb:w.heap.size≠b:=by have:=h.out.lt;omega
 have hnm:w.heap.size≠mb:=by have:=h.out.mblt;omega
 go_enter func215,ntmps215
 go_wp2_with (first
  |(go_at_call 214;refine(a0I _ b mb r k 1 (by simp) HWa).mono ?_
    rintro e w1 ⟨rfl,hk1,hw1⟩
    go_loud (
     have HK1:=A0 (HKa.out.trans hk1);have HW1:=A0 hw1;have hb1:=hk1.blk HBa.out hnb hnm (by decide);have HB1:=A0 hb1;clear hk1 hw1 hb1;try dsimp only)))
 have HWd:=A0 (HW1.out.keep (B6 w1 none));have HKd:=A0 (HK1.out.trans (.ofNone (B6 w1 none)));have d0:w1.drew.cell? ⟨w.heap.size,0,none⟩=some (.int .i64 (k:Int)):=HB1.out.cell 0 _ rfl;have d1:w1.drew.cell? ⟨w.heap.size,1,none⟩=some (.string s):=HB1.out.cell 1 _ rfl;have HBd:Hid (A3 w1.drew w.heap.size #[.int .i64 (k:Int), .string s] 98):=HB1.out
 go_region_held2 (fun w'=>w'.cell? ⟨w.heap.size,0,none⟩=some (.int .i64 (k:Int))∧w'.cell? ⟨w.heap.size,1,none⟩=some (.string s)) (go_keep)
  (first
    |(go_at_call 291
      refine(b0z k _).mono ?_;rintro e w' ⟨rfl,rfl⟩;try dsimp only)
    |(go_at_call 290
      refine(a8c _ b mb (A8 (F7 1 k) r) (a0N k) s ht HWd).mono ?_;rintro e w2 ⟨rfl,hk2,hw2⟩;have hb2:=hk2.blk HBd.out hnb hnm (by decide);have n0:=hb2.c0;have n1:=hb2.c1;clear hb2;try dsimp only))
 all_goals
  go_end0;exact⟨rfl,HKd.out.trans hk2,hw2⟩
theorem a8t(w:World)(b mb:Nat)(r:Option WS)(t:n9)(ht:t.name.size≤1099511627776)(h:Hid (D0 w b mb r)):
 Calls prog 215 #[.pointer (some ⟨b,0,none⟩), .agg #[.int .i64 t.kind, .string t.name]] w fun e w'=>e= .returned (.tuple #[])∧C4 w w' b mb∧D0 w' b mb (A8 (M0 t) r):=by
 by_cases hk:0≤t.kind∧t.kind≤4
 ·obtain⟨k,hk'⟩:∃k:Nat,t.kind=k:=⟨t.kind.toNat,by omega⟩
  have e:A8 (M0 t) r=A8 (o8 (a0N k) t.name) (A8 (F7 1 k) r):=by
   unfold M0;rw[if_pos hk,hk',a0x (.inl rfl)];rfl
  rw[e,hk'];exact b7u w b mb r k t.name (by omega) ht h
 ·obtain⟨mo,pv,bv,body,wrong,names,hW,hM,h1,h2,h3,h4,h5,h6⟩:=h.out
  have e:A8 (M0 t) r=none:=by
   unfold M0;rw[if_neg hk];exact a1z r
  rw[e];refine(b8T w b mb mo pv bv _ body wrong t.kind t.name hk hW).mono ?_;rintro e w' ⟨rfl,rfl⟩;have hg:=A2 w (.cells #[.int .i64 t.kind, .string t.name] 98) none;exact c6a
theorem b4N(w:World)(b mb:Nat)(r:Option WS)(x:XHd)(ht:x.cls.size≤1099511627776)(h:Hid (D0 w b mb r)):
 Calls prog 220 #[.pointer (some ⟨b,0,none⟩), .agg #[.int .i64 x.from_, .int .i64 x.to, .int .i64 x.at_, .string x.cls]] w fun e w'=>e= .returned (.tuple #[])∧C4 w w' b mb∧D0 w' b mb (A8 (a0o x) r):=by
 obtain⟨f,t,a,s⟩:=x;simp only at ht⊢
 have e:A8 (a0o ⟨f,t,a,s⟩) r=A8 [.nm s] (A8 (F7 2 a) (A8 (F7 2 t) (A8 (F7 2 f) r))):=by
  rw[a0x (.inr rfl),a0x (.inr rfl),a0x (.inr rfl)];rfl
 rw[e];clear e;have HWa:Hid (D0 (w.alloc (.cells #[.int .i64 f, .int .i64 t, .int .i64 a, .string s] 202)) b mb r):=h.out.keep (A2 w _ _);have HKa:Hid (C4 w (w.alloc (.cells #[.int .i64 f, .int .i64 t, .int .i64 a, .string s] 202)) b mb):= .ofNone (A2 w _ _);have HBa:Hid (A3 (w.alloc (.cells #[.int .i64 f, .int .i64 t, .int .i64 a, .string s] 202)) w.heap.size #[.int .i64 f, .int .i64 t, .int .i64 a, .string s] 202):=A3.new w _ _;have hnb:w.heap.size≠b:=by have:=h.out.lt;omega
 have hnm:w.heap.size≠mb:=by have:=h.out.mblt;omega
 go_enter func220,ntmps220;go_wp2_with fail
 refine(a0I _ b mb r f 2 (by simp) HWa).mono ?_;rintro e w1 ⟨rfl,hk1,hw1⟩;have HK1:=A0 (HKa.out.trans hk1);have HW1:=A0 hw1;have HB1:=A0 (hk1.blk HBa.out hnb hnm (by decide));have c1:=HB1.out.c1;clear hk1 hw1 HKa HWa HBa;dsimp only;go_wp2_with fail
 refine(a0I _ b mb (A8 (F7 2 f) r) t 2 (by simp) HW1).mono ?_;rintro e w2 ⟨rfl,hk2,hw2⟩;have HK2:=A0 (HK1.out.trans hk2);have HW2:=A0 hw2;have HB2:=A0 (hk2.blk HB1.out hnb hnm (by decide));clear c1;have c2:=HB2.out.c2;clear hk2 hw2 HK1 HW1 HB1;dsimp only;go_wp2_with fail
 refine(a0I _ b mb (A8 (F7 2 t) (A8 (F7 2 f) r)) a 2 (by simp) HW2).mono ?_;rintro e w3 ⟨rfl,hk3,hw3⟩;have HK3:=A0 (HK2.out.trans hk3);have HW3:=A0 hw3;have HB3:=A0 (hk3.blk HB2.out hnb hnm (by decide));clear c2;have c3:=HB3.out.c3;clear hk3 hw3 HK2 HW2 HB2;dsimp only;go_wp2_with fail
 refine(a4z _ b mb (A8 (F7 2 a) (A8 (F7 2 t) (A8 (F7 2 f) r))) s ht HW3).mono ?_;rintro e w4 ⟨rfl,hk4,hw4⟩;dsimp only;go_wp2_with fail
 go_end0;exact⟨rfl,HK3.out.trans hk4,hw4⟩
theorem b6o(w:World)(b mb:Nat)(r:Option WS)(x:a1v)(hn:x.name.size≤1099511627776)(ht:x.ty.name.size≤1099511627776)(h:Hid (D0 w b mb r)):
 Calls prog 143 #[.pointer (some ⟨b,0,none⟩), .agg #[.string x.name, .int .i64 x.ty.kind, .string x.ty.name]] w fun e w'=>e= .returned (.tuple #[])∧C4 w w' b mb∧D0 w' b mb (A8 (p9 x) r):=by
 obtain⟨n,t⟩:=x;simp only at hn ht⊢;have e:A8 (p9 ⟨n,t⟩) r=A8 (M0 t) (A8 [.nm n] r):=rfl;rw[e];clear e;have HWa:Hid (D0 (w.alloc (.cells #[.string n, .int .i64 t.kind, .string t.name] 129)) b mb r):=h.out.keep (A2 w _ _);have HKa:Hid (C4 w (w.alloc (.cells #[.string n, .int .i64 t.kind, .string t.name] 129)) b mb):= .ofNone (A2 w _ _);have HBa:Hid (A3 (w.alloc (.cells #[.string n, .int .i64 t.kind, .string t.name] 129)) w.heap.size #[.string n, .int .i64 t.kind, .string t.name] 129):=A3.new w _ _;have hnb:w.heap.size≠b:=by have:=h.out.lt;omega
 have hnm:w.heap.size≠mb:=by have:=h.out.mblt;omega
 go_enter func143,ntmps143;go_wp2_with fail
 refine(a4z _ b mb r n hn HWa).mono ?_;rintro e w1 ⟨rfl,hk1,hw1⟩;have HK1:=A0 (HKa.out.trans hk1);have HW1:=A0 hw1;have HB1:=A0 (hk1.blk HBa.out hnb hnm (by decide));have c1:=HB1.out.c1;have c2:=HB1.out.c2;clear hk1 hw1 HKa HWa HBa;dsimp only;go_wp2_with fail
 refine(a8t _ b mb (A8 [.nm n] r) t ht HW1).mono ?_;rintro e w4 ⟨rfl,hk4,hw4⟩;dsimp only;go_wp2_with fail
 go_end0;exact⟨rfl,HK1.out.trans hk4,hw4⟩
theorem O4.keepW(h:O4 w)(hk:C4 w w' b mb)(hb:2<b)(hm:2<mb):O4 w':=by
 have h0:=hk.block 2 h.1 (fun hm'=>by rcases hm' with h2|h2|⟨h2,_⟩<;>omega);refine⟨Nat.lt_of_lt_of_le h.1 hk.size,fun op ho=> ?_⟩;have:=h.2 op ho;simp only[World.cell?,h0]at this⊢;exact this
theorem c0G(w:World)(b mb:Nat)(mo:Obj)(pv bv:Value)(pool body:List UInt8)(wrong:Bool)(k a:Int)(s t:ByteArray)(hk:¬(0≤k∧k<32))(h:Hid (Wr w b mb mo pv bv pool body wrong)):
 Calls prog 218 #[.pointer (some ⟨b,0,none⟩), .agg #[.int .i64 k, .int .i64 a, .string s, .string t]] w fun e w'=>e= .returned (.tuple #[])∧w'=(w.alloc (.cells #[.int .i64 k, .int .i64 a, .string s, .string t] 120)).setCell ⟨b,3,none⟩ (.bool true):=by
 have HWa:Hid (Wr (w.alloc (.cells #[.int .i64 k, .int .i64 a, .string s, .string t] 120)) b mb mo pv bv pool body wrong):=h.out.keep (A2 w _ _);have c3:=HWa.out.blk.c3;have z3:=HWa.out.blk.frozen 3;go_enter func218,ntmps218;by_cases h0:k<0
 ·exact a2s
 ·have h4:32≤k:=by omega
  exact a2s
theorem b8W(w:World)(b mb:Nat)(r:Option WS)(k:Nat)(a:Int)(s t:ByteArray)(hk:k<32)(hs:s.size≤1099511627776)(ht:t.size≤1099511627776)(h:Hid (D0 w b mb r))(hS:Hid (O4 w))(hb0:2<b)(hm0:2<mb):
 Calls prog 218 #[.pointer (some ⟨b,0,none⟩), .agg #[.int .i64 k, .int .i64 a, .string s, .string t]] w fun e w'=>e= .returned (.tuple #[])∧C4 w w' b mb∧D0 w' b mb (A8 (o8 (Z4 k) t) (A8 (o8 (Y5 k) s) (A8 (F7 (F3 k) a) (A8 (F7 1 k) r)))):=by
 have hSa:O4 (w.alloc (.cells #[.int .i64 k, .int .i64 a, .string s, .string t] 120)):=hS.out.keep (A2 w _ none) (by simp);obtain⟨s0,s1,s2⟩:=hSa.2 k hk;have hwd:F3 k=0∨F3 k=1∨F3 k=2∨F3 k=4:=by unfold F3;split;omega;split;omega;split<;>omega
 clear hSa hS;generalize F3 k=wd at*
 generalize Y5 k=cC at*
 generalize Z4 k=cM at*
 have HK0:Hid (C4 w ((w.alloc (.cells #[.int .i64 k, .int .i64 a, .string s, .string t] 120)).alloc (.cells #[.int .i64 wd, .bool cC, .bool cM] 382)) b mb):= .ofNone (A1 (A2 w _ none) (A2 _ _ none));have HW0:Hid (D0 ((w.alloc (.cells #[.int .i64 k, .int .i64 a, .string s, .string t] 120)).alloc (.cells #[.int .i64 wd, .bool cC, .bool cM] 382)) b mb r):=h.out.keep (A1 (A2 w _ none) (A2 _ _ none));have HB0:Hid (A3 ((w.alloc (.cells #[.int .i64 k, .int .i64 a, .string s, .string t] 120)).alloc (.cells #[.int .i64 wd, .bool cC, .bool cM] 382)) w.heap.size #[.int .i64 k, .int .i64 a, .string s, .string t] 120):=(A3.new w _ _).keep (A2 _ _ none) (by simp)
 have HC0:Hid (A3 ((w.alloc (.cells #[.int .i64 k, .int .i64 a, .string s, .string t] 120)).alloc (.cells #[.int .i64 wd, .bool cC, .bool cM] 382)) (w.heap.size+1) #[.int .i64 wd, .bool cC, .bool cM] 382):=by
  have:=A3.new (w.alloc (.cells #[.int .i64 k, .int .i64 a, .string s, .string t] 120)) (#[.int .i64 wd, .bool cC, .bool cM]:Array Value) 382;have e:(w.alloc (.cells #[.int .i64 k, .int .i64 a, .string s, .string t] 120)).heap.size=w.heap.size+1:=by simp
  rw[e]at this;exact this
 have hnb:w.heap.size≠b:=by have:=h.out.lt;omega
 have hnm:w.heap.size≠mb:=by have:=h.out.mblt;omega
 have hnb2:w.heap.size+1≠b:=by have:=h.out.lt;omega
 have hnm2:w.heap.size+1≠mb:=by have:=h.out.mblt;omega
 go_enter func218,ntmps218;go_wp2_with fail
 refine(a0I _ b mb r k 1 (by simp) HW0).mono ?_;rintro e w1 ⟨rfl,hk1,hw1⟩;have HK1:=A0 (HK0.out.trans hk1);have HW1:=A0 hw1;have HB1:=A0 (hk1.blk HB0.out hnb hnm (by decide));have HC1:=A0 (hk1.blk HC0.out hnb2 hnm2 (by decide));clear hk1 hw1 HK0 HW0 HB0 HC0;have c1:=HB1.out.c1;have d0:=HC1.out.c0;dsimp only;go_wp2_with fail
 refine(a0I _ b mb (A8 (F7 1 k) r) a wd hwd HW1).mono ?_;rintro e w2 ⟨rfl,hk2,hw2⟩;have HK2:=A0 (HK1.out.trans hk2);have HW2:=A0 hw2;have HB2:=A0 (hk2.blk HB1.out hnb hnm (by decide));have HC2:=A0 (hk2.blk HC1.out hnb2 hnm2 (by decide));clear hk2 hw2 HK1 HW1 HB1 HC1;have c2:=HB2.out.c2;have d1:=HC2.out.c1;dsimp only;go_wp2_with fail
 refine(a8c _ b mb (A8 (F7 wd a) (A8 (F7 1 k) r)) cC s hs HW2).mono ?_;rintro e w3 ⟨rfl,hk3,hw3⟩;have HK3:=A0 (HK2.out.trans hk3);have HW3:=A0 hw3;have HB3:=A0 (hk3.blk HB2.out hnb hnm (by decide));have HC3:=A0 (hk3.blk HC2.out hnb2 hnm2 (by decide));clear hk3 hw3 HK2 HW2 HB2 HC2;have c3:=HB3.out.c3;have d2:=HC3.out.c2;dsimp only;go_wp2_with fail
 refine(a8c _ b mb (A8 (o8 cC s) (A8 (F7 wd a) (A8 (F7 1 k) r))) cM t ht HW3).mono ?_;rintro e w4 ⟨rfl,hk4,hw4⟩;dsimp only;go_wp2_with fail
 go_end0;exact⟨rfl,HK3.out.trans hk4,hw4⟩
theorem b8X(w:World)(b mb:Nat)(r:Option WS)(i:XIn)(hs:i.cls.size≤1099511627776)(ht:i.mem.size≤1099511627776)(h:Hid (D0 w b mb r))(hS:Hid (O4 w))(hb0:2<b)(hm0:2<mb):
 Calls prog 218 #[.pointer (some ⟨b,0,none⟩), .agg #[.int .i64 i.op, .int .i64 i.a, .string i.cls, .string i.mem]] w fun e w'=>e= .returned (.tuple #[])∧C4 w w' b mb∧D0 w' b mb (A8 (X5 i) r):=by
 by_cases hk:0≤i.op∧i.op<32
 ·obtain⟨k,hk'⟩:∃k:Nat,i.op=k:=⟨i.op.toNat,by omega⟩
  have e:A8 (X5 i) r=A8 (o8 (Z4 k) i.mem) (A8 (o8 (Y5 k) i.cls) (A8 (F7 (F3 k) i.a) (A8 (F7 1 k) r))):=by
   unfold X5;rw[if_pos hk,hk',a0x (.inl rfl),Int.toNat_natCast];simp only[←o6];simp
  rw[e,hk'];exact b8W w b mb r k i.a i.cls i.mem (by omega) hs ht h hS hb0 hm0
 ·obtain⟨mo,pv,bv,body,wrong,names,hW,hM,h1,h2,h3,h4,h5,h6⟩:=h.out
  have e:A8 (X5 i) r=none:=by
   unfold X5;rw[if_neg hk];exact a1z r
  rw[e];refine(c0G w b mb mo pv bv _ body wrong i.op i.a i.cls i.mem hk hW).mono ?_;rintro e w' ⟨rfl,rfl⟩;have hg:=A2 w (.cells #[.int .i64 i.op, .int .i64 i.a, .string i.cls, .string i.mem] 120) none;exact c6a
theorem b6f{t:I7}{s s':WS}(h:I5 t s=some s')(h0:255<s.names.length):255<s'.names.length:=by
 match t,h with
 |some (.inl (n,m)),h=>
  simp only[I5]at h;split at h
  ·injection h with h;subst h;exact h0
  ·cases h
 |some (.inr x),h=>
  obtain⟨_,rfl⟩:=a4h s.names x s s' h;have:=a5w s.names x;simp only;omega
 |none,h=>cases h
theorem b1b:∀(l:List I7) {r:Option WS},(∀s,r=some s→255<s.names.length)→∀s,A8 l r=some s→255<s.names.length
 | [],_,h=>h
 |t::l,r,h=>by
  refine b1b l (r:=r.bind (I5 t)) (fun s hs=> ?_);obtain⟨s0,rfl,h1⟩:=Option.bind_eq_some_iff.1 hs;exact b6f h1 (h s0 rfl)
theorem D0.skip(l:List I7)(hW:Wr w b mb mo pv bv (E7 names) body true)(hM:a2j w mb names)(h1:names.Nodup)(h2:names.length≤255)(h3:∀x∈names,E3 x=true)(h4:body.length≤2049)
 (h5:∀s,r=some s→s.names.length≤255→true=false∧names=s.names∧body=s.out.take 2049):D0 w b mb (A8 l r):=by
 refine⟨mo,pv,bv,body,true,names,hW,hM,h1,h2,h3,h4,?_,fun _=>rfl⟩;intro s hs hl;exfalso
 have:=b1b l (r:=r) (fun s0 e=>by
  by_cases hc:s0.names.length≤255
  ·have:=(h5 s0 e hc).1;cases this
  ·omega) s hs
 omega
variable {a:Option Addr}
theorem B8.keepW{α:Type}{sz:Nat}{enc:α→List Value}{xs:List α}(h:B8 w lim sz enc a xs)(hk:C4 w w' b mb)(hl:lim≤b)(hm:lim≤mb)(hb:b<w.heap.size):B8 w' lim sz enc a xs:=by
 intro j hj;obtain⟨p,h1,h2,h3⟩:=h j hj;exact⟨p,h1,h2,fun r u hu=>hk.cell (h3 r u hu) (by rw[U9];omega) (by rw[U9];omega) hb⟩
theorem b8P(w:World)(b mb lim:Nat)(r:Option WS)(m:Nat)(xs:List n9)(a:Option Addr)(cap:Nat)(hm:m=1∨m=2)(hlim:lim≤b)(hlm:lim≤mb)(hxl:xs.length≤1099511627776)(h:Hid (D0 w b mb r))(hrow:Hid (B8 w lim 2 X8 a xs))
 (HEL:∀(w1:World) (r1:Option WS) (x:n9),x∈xs→Hid (C4 w w1 b mb)→Hid (D0 w1 b mb r1)→Calls prog 215 #[.pointer (some ⟨b,0,none⟩), .agg #[.int .i64 x.kind, .string x.name]] w1 fun e w'=>e= .returned (.tuple #[])∧C4 w1 w' b mb∧D0 w' b mb (A8 (M0 x) r1)):
 Calls prog 216 #[.pointer (some ⟨b,0,none⟩), .int .i64 m, .slice a xs.length cap, .func (.func 215) #[.pointer (some ⟨b,0,none⟩)] #[]] w
  fun e w'=>e= .returned (.tuple #[])∧C4 w w' b mb∧D0 w' b mb (A8 (K9 m M0 xs) r):=by
 have hbl:=h.out.lt
 have e0:∀j,j≤xs.length→A8 (K9 m M0 xs) r=A8 ((xs.drop j).flatMap M0) (A8 ((xs.take j).flatMap M0) (A8 (F7 m xs.length) r)):=by
  exact a5m
 have HE:=A0 e0;clear e0;go_enter func216,ntmps216;go_wp2_with (go_at_call 214;refine(a0I _ b mb r (xs.length:Int) m (by omega) h).mono ?_;rintro e w1 ⟨rfl,hk1,hw1⟩;have HK1:=A0 hk1;have HW1:=A0 hw1;clear hk1 hw1;try dsimp only)
 obtain⟨r2,hr2⟩:∃r2,r2=A8 (F7 m xs.length) r:=⟨_,rfl⟩
 rw[←hr2]at HW1 HE;clear hr2;go_loopw [17] (fun i wr=>∃j:Nat,j≤xs.length∧i= .int .i64 j∧D0 wr b mb (A8 ((xs.take j).flatMap M0) r2)∧C4 w wr b mb) (fun i _=>xs.length-(intOf i).toNat)
 case atStart=>exact⟨0,Nat.zero_le _,rfl,HW1.out,HK1.out⟩
 case round=>
  clear HW1 HK1;obtain⟨j,hj,rfl,hps,hkp⟩:=hrel;have HW:=A0 hps;have HK:=A0 hkp;clear hps hkp;by_cases hlt:j<xs.length
  ·obtain⟨p,rfl,hp1,hpc⟩:=hrow.out.keepW HK.out hlim hlm hbl j hlt;have f0:wr.cell? (p.add (j*2))=some (.int .i64 xs[j].kind):=hpc 0 _ rfl;have f1:wr.cell? ⟨(p.add (j*2)).block,(p.add (j*2)).off+1,none⟩=some (.string xs[j].name):=by rw[G1 p (j*2) 0];exact hpc 1 _ rfl
   clear hpc;have HWa:Hid (D0 (wr.alloc (.cells #[.int .i64 xs[j].kind, .string xs[j].name] 98)) b mb (A8 ((xs.take j).flatMap M0) r2)):=HW.out.keep (A2 wr _ _);have HKa:Hid (C4 w (wr.alloc (.cells #[.int .i64 xs[j].kind, .string xs[j].name] 98)) b mb):=HK.out.trans (.ofNone (A2 wr _ _));obtain⟨mo,pv,bv,body,wrong,names,hW,hM,h1,h2,h3,h4,h5,h6⟩:=HWa.out;have c3:=hW.blk.c3;cases wrong with
   |true=>
    have HD:Hid (D0 (wr.alloc (.cells #[.int .i64 xs[j].kind, .string xs[j].name] 98)) b mb (A8 (K9 m M0 xs) r)):=by
     exact b4b
    exact a1h
   |false=>
    clear hW hM h1 h2 h3 h4 h5 h6;go_wp2_with (go_at_call 215;refine(HEL _ _ xs[j] (List.getElem_mem hlt) HKa HWa).mono ?_;rintro e w4 ⟨rfl,hk4,hw4⟩;try dsimp only)
    go_roundw
    case rel=>exact⟨j+1,hlt,by go_num,by rw[a5F M0 xs j hlt];exact hw4,HKa.out.trans hk4⟩
    case measure=>simp[intOf];omega
  ·exact a1w
theorem b7s(w:World)(b mb lim:Nat)(r:Option WS)(m:Nat)(xs:List a1v)(a:Option Addr)(cap:Nat)(hm:m=1∨m=2)(hlim:lim≤b)(hlm:lim≤mb)(hxl:xs.length≤1099511627776)(h:Hid (D0 w b mb r))(hrow:Hid (B8 w lim 3 a0a a xs))
 (HEL:∀(w1:World) (r1:Option WS) (x:a1v),x∈xs→Hid (C4 w w1 b mb)→Hid (D0 w1 b mb r1)→Calls prog 143 #[.pointer (some ⟨b,0,none⟩), .agg #[.string x.name, .int .i64 x.ty.kind, .string x.ty.name]] w1 fun e w'=>e= .returned (.tuple #[])∧C4 w1 w' b mb∧D0 w' b mb (A8 (p9 x) r1)):
 Calls prog 142 #[.pointer (some ⟨b,0,none⟩), .int .i64 m, .slice a xs.length cap, .func (.func 143) #[.pointer (some ⟨b,0,none⟩)] #[]] w
  fun e w'=>e= .returned (.tuple #[])∧C4 w w' b mb∧D0 w' b mb (A8 (K9 m p9 xs) r):=by
 have hbl:=h.out.lt
 have e0:∀j,j≤xs.length→A8 (K9 m p9 xs) r=A8 ((xs.drop j).flatMap p9) (A8 ((xs.take j).flatMap p9) (A8 (F7 m xs.length) r)):=by
  exact a5m
 have HE:=A0 e0;clear e0;go_enter func142,ntmps142;go_wp2_with (go_at_call 214;refine(a0I _ b mb r (xs.length:Int) m (by omega) h).mono ?_;rintro e w1 ⟨rfl,hk1,hw1⟩;have HK1:=A0 hk1;have HW1:=A0 hw1;clear hk1 hw1;try dsimp only)
 obtain⟨r2,hr2⟩:∃r2,r2=A8 (F7 m xs.length) r:=⟨_,rfl⟩
 rw[←hr2]at HW1 HE;clear hr2;go_loopw [17] (fun i wr=>∃j:Nat,j≤xs.length∧i= .int .i64 j∧D0 wr b mb (A8 ((xs.take j).flatMap p9) r2)∧C4 w wr b mb) (fun i _=>xs.length-(intOf i).toNat)
 case atStart=>exact⟨0,Nat.zero_le _,rfl,HW1.out,HK1.out⟩
 case round=>
  clear HW1 HK1;obtain⟨j,hj,rfl,hps,hkp⟩:=hrel;have HW:=A0 hps;have HK:=A0 hkp;clear hps hkp;by_cases hlt:j<xs.length
  ·obtain⟨p,rfl,hp1,hpc⟩:=hrow.out.keepW HK.out hlim hlm hbl j hlt;have f0:wr.cell? (p.add (j*3))=some (.string xs[j].name):=hpc 0 _ rfl;have f1:wr.cell? ⟨(p.add (j*3)).block,(p.add (j*3)).off+1,none⟩=some (.int .i64 xs[j].ty.kind):=by rw[G1 p (j*3) 0];exact hpc 1 _ rfl
   have f2:wr.cell? ⟨(p.add (j*3)).block,(p.add (j*3)).off+2,none⟩=some (.string xs[j].ty.name):=by rw[G1 p (j*3) 1];exact hpc 2 _ rfl
   clear hpc;have HWa:Hid (D0 (wr.alloc (.cells #[.string xs[j].name, .int .i64 xs[j].ty.kind, .string xs[j].ty.name] 129)) b mb (A8 ((xs.take j).flatMap p9) r2)):=HW.out.keep (A2 wr _ _);have HKa:Hid (C4 w (wr.alloc (.cells #[.string xs[j].name, .int .i64 xs[j].ty.kind, .string xs[j].ty.name] 129)) b mb):=HK.out.trans (.ofNone (A2 wr _ _));obtain⟨mo,pv,bv,body,wrong,names,hW,hM,h1,h2,h3,h4,h5,h6⟩:=HWa.out;have c3:=hW.blk.c3;cases wrong with
   |true=>
    have HD:Hid (D0 (wr.alloc (.cells #[.string xs[j].name, .int .i64 xs[j].ty.kind, .string xs[j].ty.name] 129)) b mb (A8 (K9 m p9 xs) r)):=by
     exact b4b
    exact a1h
   |false=>
    clear hW hM h1 h2 h3 h4 h5 h6;go_wp2_with (go_at_call 143;refine(HEL _ _ xs[j] (List.getElem_mem hlt) HKa HWa).mono ?_;rintro e w4 ⟨rfl,hk4,hw4⟩;try dsimp only)
    go_roundw
    case rel=>exact⟨j+1,hlt,by go_num,by rw[a5F p9 xs j hlt];exact hw4,HKa.out.trans hk4⟩
    case measure=>simp[intOf];omega
  ·exact a1w
theorem b8R(w:World)(b mb lim:Nat)(r:Option WS)(m:Nat)(xs:List XIn)(a:Option Addr)(cap:Nat)(hm:m=1∨m=2)(hlim:lim≤b)(hlm:lim≤mb)(hxl:xs.length≤1099511627776)(h:Hid (D0 w b mb r))(hrow:Hid (B8 w lim 4 xIn a xs))
 (HEL:∀(w1:World) (r1:Option WS) (x:XIn),x∈xs→Hid (C4 w w1 b mb)→Hid (D0 w1 b mb r1)→Calls prog 218 #[.pointer (some ⟨b,0,none⟩), .agg #[.int .i64 x.op, .int .i64 x.a, .string x.cls, .string x.mem]] w1 fun e w'=>e= .returned (.tuple #[])∧C4 w1 w' b mb∧D0 w' b mb (A8 (X5 x) r1)):
 Calls prog 217 #[.pointer (some ⟨b,0,none⟩), .int .i64 m, .slice a xs.length cap, .func (.func 218) #[.pointer (some ⟨b,0,none⟩)] #[]] w
  fun e w'=>e= .returned (.tuple #[])∧C4 w w' b mb∧D0 w' b mb (A8 (K9 m X5 xs) r):=by
 have hbl:=h.out.lt
 have e0:∀j,j≤xs.length→A8 (K9 m X5 xs) r=A8 ((xs.drop j).flatMap X5) (A8 ((xs.take j).flatMap X5) (A8 (F7 m xs.length) r)):=by
  exact a5m
 have HE:=A0 e0;clear e0;go_enter func217,ntmps217;go_wp2_with (go_at_call 214;refine(a0I _ b mb r (xs.length:Int) m (by omega) h).mono ?_;rintro e w1 ⟨rfl,hk1,hw1⟩;have HK1:=A0 hk1;have HW1:=A0 hw1;clear hk1 hw1;try dsimp only)
 obtain⟨r2,hr2⟩:∃r2,r2=A8 (F7 m xs.length) r:=⟨_,rfl⟩
 rw[←hr2]at HW1 HE;clear hr2;go_loopw [17] (fun i wr=>∃j:Nat,j≤xs.length∧i= .int .i64 j∧D0 wr b mb (A8 ((xs.take j).flatMap X5) r2)∧C4 w wr b mb) (fun i _=>xs.length-(intOf i).toNat)
 case atStart=>exact⟨0,Nat.zero_le _,rfl,HW1.out,HK1.out⟩
 case round=>
  clear HW1 HK1;obtain⟨j,hj,rfl,hps,hkp⟩:=hrel;have HW:=A0 hps;have HK:=A0 hkp;clear hps hkp;by_cases hlt:j<xs.length
  ·obtain⟨p,rfl,hp1,hpc⟩:=hrow.out.keepW HK.out hlim hlm hbl j hlt;have f0:wr.cell? (p.add (j*4))=some (.int .i64 xs[j].op):=hpc 0 _ rfl;have f1:wr.cell? ⟨(p.add (j*4)).block,(p.add (j*4)).off+1,none⟩=some (.int .i64 xs[j].a):=by rw[G1 p (j*4) 0];exact hpc 1 _ rfl
   have f2:wr.cell? ⟨(p.add (j*4)).block,(p.add (j*4)).off+2,none⟩=some (.string xs[j].cls):=by rw[G1 p (j*4) 1];exact hpc 2 _ rfl
   have f3:wr.cell? ⟨(p.add (j*4)).block,(p.add (j*4)).off+3,none⟩=some (.string xs[j].mem):=by rw[G1 p (j*4) 2];exact hpc 3 _ rfl
   clear hpc;have HWa:Hid (D0 (wr.alloc (.cells #[.int .i64 xs[j].op, .int .i64 xs[j].a, .string xs[j].cls, .string xs[j].mem] 120)) b mb (A8 ((xs.take j).flatMap X5) r2)):=HW.out.keep (A2 wr _ _);have HKa:Hid (C4 w (wr.alloc (.cells #[.int .i64 xs[j].op, .int .i64 xs[j].a, .string xs[j].cls, .string xs[j].mem] 120)) b mb):=HK.out.trans (.ofNone (A2 wr _ _));obtain⟨mo,pv,bv,body,wrong,names,hW,hM,h1,h2,h3,h4,h5,h6⟩:=HWa.out;have c3:=hW.blk.c3;cases wrong with
   |true=>
    have HD:Hid (D0 (wr.alloc (.cells #[.int .i64 xs[j].op, .int .i64 xs[j].a, .string xs[j].cls, .string xs[j].mem] 120)) b mb (A8 (K9 m X5 xs) r)):=by
     exact b4b
    exact a1h
   |false=>
    clear hW hM h1 h2 h3 h4 h5 h6;go_wp2_with (go_at_call 218;refine(HEL _ _ xs[j] (List.getElem_mem hlt) HKa HWa).mono ?_;rintro e w4 ⟨rfl,hk4,hw4⟩;try dsimp only)
    go_roundw
    case rel=>exact⟨j+1,hlt,by go_num,by rw[a5F X5 xs j hlt];exact hw4,HKa.out.trans hk4⟩
    case measure=>simp[intOf];omega
  ·exact a1w
theorem b8S(w:World)(b mb lim:Nat)(r:Option WS)(m:Nat)(xs:List XHd)(a:Option Addr)(cap:Nat)(hm:m=1∨m=2)(hlim:lim≤b)(hlm:lim≤mb)(hxl:xs.length≤1099511627776)(h:Hid (D0 w b mb r))(hrow:Hid (B8 w lim 4 xHd a xs))
 (HEL:∀(w1:World) (r1:Option WS) (x:XHd),x∈xs→Hid (C4 w w1 b mb)→Hid (D0 w1 b mb r1)→Calls prog 220 #[.pointer (some ⟨b,0,none⟩), .agg #[.int .i64 x.from_, .int .i64 x.to, .int .i64 x.at_, .string x.cls]] w1 fun e w'=>e= .returned (.tuple #[])∧C4 w1 w' b mb∧D0 w' b mb (A8 (a0o x) r1)):
 Calls prog 219 #[.pointer (some ⟨b,0,none⟩), .int .i64 m, .slice a xs.length cap, .func (.func 220) #[.pointer (some ⟨b,0,none⟩)] #[]] w
  fun e w'=>e= .returned (.tuple #[])∧C4 w w' b mb∧D0 w' b mb (A8 (K9 m a0o xs) r):=by
 have hbl:=h.out.lt
 have e0:∀j,j≤xs.length→A8 (K9 m a0o xs) r=A8 ((xs.drop j).flatMap a0o) (A8 ((xs.take j).flatMap a0o) (A8 (F7 m xs.length) r)):=by
  exact a5m
 have HE:=A0 e0;clear e0;go_enter func219,ntmps219;go_wp2_with (go_at_call 214;refine(a0I _ b mb r (xs.length:Int) m (by omega) h).mono ?_;rintro e w1 ⟨rfl,hk1,hw1⟩;have HK1:=A0 hk1;have HW1:=A0 hw1;clear hk1 hw1;try dsimp only)
 obtain⟨r2,hr2⟩:∃r2,r2=A8 (F7 m xs.length) r:=⟨_,rfl⟩
 rw[←hr2]at HW1 HE;clear hr2;go_loopw [17] (fun i wr=>∃j:Nat,j≤xs.length∧i= .int .i64 j∧D0 wr b mb (A8 ((xs.take j).flatMap a0o) r2)∧C4 w wr b mb) (fun i _=>xs.length-(intOf i).toNat)
 case atStart=>exact⟨0,Nat.zero_le _,rfl,HW1.out,HK1.out⟩
 case round=>
  clear HW1 HK1;obtain⟨j,hj,rfl,hps,hkp⟩:=hrel;have HW:=A0 hps;have HK:=A0 hkp;clear hps hkp;by_cases hlt:j<xs.length
  ·obtain⟨p,rfl,hp1,hpc⟩:=hrow.out.keepW HK.out hlim hlm hbl j hlt;have f0:wr.cell? (p.add (j*4))=some (.int .i64 xs[j].from_):=hpc 0 _ rfl;have f1:wr.cell? ⟨(p.add (j*4)).block,(p.add (j*4)).off+1,none⟩=some (.int .i64 xs[j].to):=by rw[G1 p (j*4) 0];exact hpc 1 _ rfl
   have f2:wr.cell? ⟨(p.add (j*4)).block,(p.add (j*4)).off+2,none⟩=some (.int .i64 xs[j].at_):=by rw[G1 p (j*4) 1];exact hpc 2 _ rfl
   have f3:wr.cell? ⟨(p.add (j*4)).block,(p.add (j*4)).off+3,none⟩=some (.string xs[j].cls):=by rw[G1 p (j*4) 2];exact hpc 3 _ rfl
   clear hpc;have HWa:Hid (D0 (wr.alloc (.cells #[.int .i64 xs[j].from_, .int .i64 xs[j].to, .int .i64 xs[j].at_, .string xs[j].cls] 202)) b mb (A8 ((xs.take j).flatMap a0o) r2)):=HW.out.keep (A2 wr _ _);have HKa:Hid (C4 w (wr.alloc (.cells #[.int .i64 xs[j].from_, .int .i64 xs[j].to, .int .i64 xs[j].at_, .string xs[j].cls] 202)) b mb):=HK.out.trans (.ofNone (A2 wr _ _));obtain⟨mo,pv,bv,body,wrong,names,hW,hM,h1,h2,h3,h4,h5,h6⟩:=HWa.out;have c3:=hW.blk.c3;cases wrong with
   |true=>
    have HD:Hid (D0 (wr.alloc (.cells #[.int .i64 xs[j].from_, .int .i64 xs[j].to, .int .i64 xs[j].at_, .string xs[j].cls] 202)) b mb (A8 (K9 m a0o xs) r)):=by
     exact b4b
    exact a1h
   |false=>
    clear hW hM h1 h2 h3 h4 h5 h6;go_wp2_with (go_at_call 220;refine(HEL _ _ xs[j] (List.getElem_mem hlt) HKa HWa).mono ?_;rintro e w4 ⟨rfl,hk4,hw4⟩;try dsimp only)
    go_roundw
    case rel=>exact⟨j+1,hlt,by go_num,by rw[a5F a0o xs j hlt];exact hw4,HKa.out.trans hk4⟩
    case measure=>simp[intOf];omega
  ·exact a1w
abbrev mX(m:S5)(pa:Option Addr)(pk:Nat)(ca:Option Addr)(ck:Nat)(ha:Option Addr)(hk:Nat):Array Value:= #[.string m.name, .slice pa m.params.length pk, .int .i64 m.ret.kind, .string m.ret.name, .int .i64 m.stack, .int .i64 m.locals, .slice ca m.code.length ck, .slice ha m.handlers.length hk]
theorem b5o(w:World)(b mb lim:Nat)(r:Option WS)(m:S5)(pa ca ha:Option Addr)(pk ck hk0:Nat)(hl:lim≤b)(hlm:lim≤mb)(hb0:2<b)(hm0:2<mb)(hm:Hid (a4k m))(hxp:m.params.length≤1099511627776)(hxc:m.code.length≤1099511627776)(hxh:m.handlers.length≤1099511627776)
 (hp:∀x∈m.params,a4j x) (hc:∀x∈m.code,P0 x) (hh:∀x∈m.handlers,a7H x) (h:Hid (D0 w b mb r)) (hS:Hid (O4 w))
 (hrp:Hid (B8 w lim 2 X8 pa m.params)) (hrc:Hid (B8 w lim 4 xIn ca m.code)) (hrh:Hid (B8 w lim 4 xHd ha m.handlers)):
 Calls prog 145 #[.pointer (some ⟨b,0,none⟩), .agg (mX m pa pk ca ck ha hk0)] w
  fun e w'=>e= .returned (.tuple #[])∧C4 w w' b mb∧D0 w' b mb (A8 (a0m m) r):=by
 have hbl:=h.out.lt
 have e:A8 (a0m m) r=(A8 (K9 1 a0o m.handlers) (A8 (K9 2 X5 m.code) (A8 (F7 1 m.locals) (A8 (F7 1 m.stack) (A8 (M0 m.ret) (A8 (K9 1 M0 m.params) (A8 [.nm m.name] r))))))):=by
  rw[a0x (.inl rfl),a0x (.inl rfl)];unfold a0m;simp only[←o6];simp
 rw[e];clear e;have HW0:Hid (D0 (w.alloc (.cells (mX m pa pk ca ck ha hk0) 102)) b mb r):=h.out.keep (A2 w _ _);have HK0:Hid (C4 w (w.alloc (.cells (mX m pa pk ca ck ha hk0) 102)) b mb):= .ofNone (A2 w _ _);have HB0:Hid (A3 (w.alloc (.cells (mX m pa pk ca ck ha hk0) 102)) w.heap.size (mX m pa pk ca ck ha hk0) 102):=A3.new w _ _;have hnb:w.heap.size≠b:=by have:=h.out.lt;omega
 have hnm:w.heap.size≠mb:=by have:=h.out.mblt;omega
 go_enter func145,ntmps145;go_wp2_with fail
 refine(a4z _ b mb r m.name hm.out.name HW0).mono ?_;rintro e w1 ⟨rfl,hk1,hw1⟩;have HK1:=A0 (HK0.out.trans hk1);have HW1:=A0 hw1;have HB1:=A0 (hk1.blk HB0.out hnb hnm (by decide));clear hk1 hw1 HK0 HW0 HB0;have c11:=HB1.out.c1;dsimp only;go_wp2_with fail
 refine(b8P _ b mb lim (A8 [.nm m.name] r) 1 m.params pa pk (.inl rfl) hl hlm hxp HW1 (hrp.out.keepW HK1.out hl hlm hbl) (fun w' r' x hx _ hw=>a8t w' b mb r' x (hp x hx).2 hw)).mono ?_;rintro e w2 ⟨rfl,hk2,hw2⟩;have HK2:=A0 (HK1.out.trans hk2);have HW2:=A0 hw2;have HB2:=A0 (hk2.blk HB1.out hnb hnm (by decide));clear hk2 hw2 HK1 HW1 HB1;have c22:=HB2.out.c2;have c23:=HB2.out.c3;dsimp only;go_wp2_with fail
 refine(a8t _ b mb (A8 (K9 1 M0 m.params) (A8 [.nm m.name] r)) m.ret hm.out.ret.2 HW2).mono ?_;rintro e w3 ⟨rfl,hk3,hw3⟩;have HK3:=A0 (HK2.out.trans hk3);have HW3:=A0 hw3;have HB3:=A0 (hk3.blk HB2.out hnb hnm (by decide));clear hk3 hw3 HK2 HW2 HB2;have c34:=HB3.out.c4;dsimp only;go_wp2_with fail
 refine(a0I _ b mb (A8 (M0 m.ret) (A8 (K9 1 M0 m.params) (A8 [.nm m.name] r))) m.stack 1 (by simp) HW3).mono ?_;rintro e w4 ⟨rfl,hk4,hw4⟩;have HK4:=A0 (HK3.out.trans hk4);have HW4:=A0 hw4;have HB4:=A0 (hk4.blk HB3.out hnb hnm (by decide));clear hk4 hw4 HK3 HW3 HB3;have c45:=HB4.out.c5;dsimp only;go_wp2_with fail
 refine(a0I _ b mb (A8 (F7 1 m.stack) (A8 (M0 m.ret) (A8 (K9 1 M0 m.params) (A8 [.nm m.name] r)))) m.locals 1 (by simp) HW4).mono ?_;rintro e w5 ⟨rfl,hk5,hw5⟩;have HK5:=A0 (HK4.out.trans hk5);have HW5:=A0 hw5;have HB5:=A0 (hk5.blk HB4.out hnb hnm (by decide));clear hk5 hw5 HK4 HW4 HB4;have c56:=HB5.out.c6;dsimp only;go_wp2_with fail
 refine(b8R _ b mb lim (A8 (F7 1 m.locals) (A8 (F7 1 m.stack) (A8 (M0 m.ret) (A8 (K9 1 M0 m.params) (A8 [.nm m.name] r))))) 2 m.code ca ck (.inr rfl) hl hlm hxc HW5 (hrc.out.keepW HK5.out hl hlm hbl) (fun w' r' x hx hk' hw=>b8X w' b mb r' x (hc x hx).2.2.1 (hc x hx).2.2.2 hw ((hS.out.keepW HK5.out hb0 hm0).keepW hk'.out hb0 hm0) hb0 hm0)).mono ?_;rintro e w6 ⟨rfl,hk6,hw6⟩;have HK6:=A0 (HK5.out.trans hk6);have HW6:=A0 hw6;have HB6:=A0 (hk6.blk HB5.out hnb hnm (by decide));clear hk6 hw6 HK5 HW5 HB5;have c67:=HB6.out.c7;dsimp only;go_wp2_with fail
 refine(b8S _ b mb lim (A8 (K9 2 X5 m.code) (A8 (F7 1 m.locals) (A8 (F7 1 m.stack) (A8 (M0 m.ret) (A8 (K9 1 M0 m.params) (A8 [.nm m.name] r)))))) 1 m.handlers ha hk0 (.inl rfl) hl hlm hxh HW6 (hrh.out.keepW HK6.out hl hlm hbl) (fun w' r' x hx _ hw=>b4N w' b mb r' x (hh x hx).2.2.2 hw)).mono ?_;rintro e w7 ⟨rfl,hk7,hw7⟩;dsimp only;go_wp2_with fail
 go_end0;exact⟨rfl,HK6.out.trans hk7,hw7⟩
theorem l8.keepW{ms:List S5}(h:l8 w lim a ms)(hk:C4 w w' b mb)(hl:lim≤b)(hm:lim≤mb)(hb:b<w.heap.size):l8 w' lim a ms:=by
 intro j hj;obtain⟨p,pa,ca,ha,pk,ck,hhk,h1,h2,h3,h4,h5,h6⟩:=h j hj;exact⟨p,pa,ca,ha,pk,ck,hhk,h1,h2,h3.keepW hk hl hm hb,h4.keepW hk hl hm hb,h5.keepW hk hl hm hb,fun r u hu=>hk.cell (h6 r u hu) (by rw[U9];omega) (by rw[U9];omega) hb⟩
theorem b8Q(w:World)(b mb lim:Nat)(r:Option WS)(m:Nat)(xs:List S5)(a:Option Addr)(cap:Nat)(hm:m=1∨m=2)(hlim:lim≤b)(hlm:lim≤mb)(hb0:2<b)(hm0:2<mb)(hxl:xs.length≤1099511627776)(hok:∀j (hj:j<xs.length),a4k xs[j])(hcost:∀j (hj:j<xs.length),a1o xs[j]≤1099511627776)(h:Hid (D0 w b mb r))(hS:Hid (O4 w))(hrow:Hid (l8 w lim a xs)):
 Calls prog 144 #[.pointer (some ⟨b,0,none⟩), .int .i64 m, .slice a xs.length cap, .func (.func 145) #[.pointer (some ⟨b,0,none⟩)] #[]] w
  fun e w'=>e= .returned (.tuple #[])∧C4 w w' b mb∧D0 w' b mb (A8 (K9 m a0m xs) r):=by
 have hbl:=h.out.lt
 have e0:∀j,j≤xs.length→A8 (K9 m a0m xs) r=A8 ((xs.drop j).flatMap a0m) (A8 ((xs.take j).flatMap a0m) (A8 (F7 m xs.length) r)):=by
  exact a5m
 have HE:=A0 e0;clear e0;go_enter func144,ntmps144;go_wp2_with (go_at_call 214;refine(a0I _ b mb r (xs.length:Int) m (by omega) h).mono ?_;rintro e w1 ⟨rfl,hk1,hw1⟩;have HK1:=A0 hk1;have HW1:=A0 hw1;clear hk1 hw1;try dsimp only)
 obtain⟨r2,hr2⟩:∃r2,r2=A8 (F7 m xs.length) r:=⟨_,rfl⟩
 rw[←hr2]at HW1 HE;clear hr2;go_loopw [17] (fun i wr=>∃j:Nat,j≤xs.length∧i= .int .i64 j∧D0 wr b mb (A8 ((xs.take j).flatMap a0m) r2)∧C4 w wr b mb) (fun i _=>xs.length-(intOf i).toNat)
 case atStart=>exact⟨0,Nat.zero_le _,rfl,HW1.out,HK1.out⟩
 case round=>
  clear HW1 HK1;obtain⟨j,hj,rfl,hps,hkp⟩:=hrel;have HW:=A0 hps;have HK:=A0 hkp;clear hps hkp;by_cases hlt:j<xs.length
  ·have HSk:=A0 (hS.out.keepW HK.out hb0 hm0);obtain⟨p,pa,ca,ha,pk,ck,hk0,rfl,hp1,hrp,hrc,hrh,hpc⟩:=hrow.out.keepW HK.out hlim hlm hbl j hlt;have f0:wr.cell? (p.add (j*8))=some (.string xs[j].name):=hpc 0 _ rfl;have f1:wr.cell? ⟨(p.add (j*8)).block,(p.add (j*8)).off+1,none⟩=some (.slice pa xs[j].params.length pk):=by rw[G1 p (j*8) 0];exact hpc 1 _ rfl
   have f2:wr.cell? ⟨(p.add (j*8)).block,(p.add (j*8)).off+2,none⟩=some (.int .i64 xs[j].ret.kind):=by rw[G1 p (j*8) 1];exact hpc 2 _ rfl
   have f3:wr.cell? ⟨(p.add (j*8)).block,(p.add (j*8)).off+3,none⟩=some (.string xs[j].ret.name):=by rw[G1 p (j*8) 2];exact hpc 3 _ rfl
   have f4:wr.cell? ⟨(p.add (j*8)).block,(p.add (j*8)).off+4,none⟩=some (.int .i64 xs[j].stack):=by rw[G1 p (j*8) 3];exact hpc 4 _ rfl
   have f5:wr.cell? ⟨(p.add (j*8)).block,(p.add (j*8)).off+5,none⟩=some (.int .i64 xs[j].locals):=by rw[G1 p (j*8) 4];exact hpc 5 _ rfl
   have f6:wr.cell? ⟨(p.add (j*8)).block,(p.add (j*8)).off+6,none⟩=some (.slice ca xs[j].code.length ck):=by rw[G1 p (j*8) 5];exact hpc 6 _ rfl
   have f7:wr.cell? ⟨(p.add (j*8)).block,(p.add (j*8)).off+7,none⟩=some (.slice ha xs[j].handlers.length hk0):=by rw[G1 p (j*8) 6];exact hpc 7 _ rfl
   have hokj:=hok j hlt;have hcj:=hcost j hlt;unfold a1o at hcj;have HSa:Hid (O4 (wr.alloc (.cells #[.string xs[j].name, .slice pa xs[j].params.length pk, .int .i64 xs[j].ret.kind, .string xs[j].ret.name, .int .i64 xs[j].stack, .int .i64 xs[j].locals, .slice ca xs[j].code.length ck, .slice ha xs[j].handlers.length hk0] 102))):=HSk.out.keep (A2 wr _ none) (by simp);have HRP:Hid (B8 (wr.alloc (.cells #[.string xs[j].name, .slice pa xs[j].params.length pk, .int .i64 xs[j].ret.kind, .string xs[j].ret.name, .int .i64 xs[j].stack, .int .i64 xs[j].locals, .slice ca xs[j].code.length ck, .slice ha xs[j].handlers.length hk0] 102)) lim 2 X8 pa xs[j].params):=hrp.keep (A2 wr _ none);have HRC:Hid (B8 (wr.alloc (.cells #[.string xs[j].name, .slice pa xs[j].params.length pk, .int .i64 xs[j].ret.kind, .string xs[j].ret.name, .int .i64 xs[j].stack, .int .i64 xs[j].locals, .slice ca xs[j].code.length ck, .slice ha xs[j].handlers.length hk0] 102)) lim 4 xIn ca xs[j].code):=hrc.keep (A2 wr _ none);have HRH:Hid (B8 (wr.alloc (.cells #[.string xs[j].name, .slice pa xs[j].params.length pk, .int .i64 xs[j].ret.kind, .string xs[j].ret.name, .int .i64 xs[j].stack, .int .i64 xs[j].locals, .slice ca xs[j].code.length ck, .slice ha xs[j].handlers.length hk0] 102)) lim 4 xHd ha xs[j].handlers):=hrh.keep (A2 wr _ none);have hP:∀x∈xs[j].params,a4j x:=fun x hx=>by obtain⟨q,hq,rfl⟩:=List.getElem_of_mem hx;exact hokj.params q hq
   have hC:∀x∈xs[j].code,P0 x:=fun x hx=>by obtain⟨q,hq,rfl⟩:=List.getElem_of_mem hx;exact hokj.code q hq
   have hH:∀x∈xs[j].handlers,a7H x:=fun x hx=>by obtain⟨q,hq,rfl⟩:=List.getElem_of_mem hx;exact hokj.handlers q hq
   clear hrp hrc hrh;clear hpc;have HWa:Hid (D0 (wr.alloc (.cells #[.string xs[j].name, .slice pa xs[j].params.length pk, .int .i64 xs[j].ret.kind, .string xs[j].ret.name, .int .i64 xs[j].stack, .int .i64 xs[j].locals, .slice ca xs[j].code.length ck, .slice ha xs[j].handlers.length hk0] 102)) b mb (A8 ((xs.take j).flatMap a0m) r2)):=HW.out.keep (A2 wr _ _);have HKa:Hid (C4 w (wr.alloc (.cells #[.string xs[j].name, .slice pa xs[j].params.length pk, .int .i64 xs[j].ret.kind, .string xs[j].ret.name, .int .i64 xs[j].stack, .int .i64 xs[j].locals, .slice ca xs[j].code.length ck, .slice ha xs[j].handlers.length hk0] 102)) b mb):=HK.out.trans (.ofNone (A2 wr _ _));obtain⟨mo,pv,bv,body,wrong,names,hW,hM,h1,h2,h3,h4,h5,h6⟩:=HWa.out;have c3:=hW.blk.c3;cases wrong with
   |true=>
    have HD:Hid (D0 (wr.alloc (.cells #[.string xs[j].name, .slice pa xs[j].params.length pk, .int .i64 xs[j].ret.kind, .string xs[j].ret.name, .int .i64 xs[j].stack, .int .i64 xs[j].locals, .slice ca xs[j].code.length ck, .slice ha xs[j].handlers.length hk0] 102)) b mb (A8 (K9 m a0m xs) r)):=by
     exact b4b
    exact a1h
   |false=>
    clear hW hM h1 h2 h3 h4 h5 h6;go_wp2_with (go_at_call 145;refine(b5o _ b mb lim _ xs[j] pa ca ha pk ck hk0 hlim hlm hb0 hm0 hokj (by omega) (by omega) (by omega) hP hC hH HWa HSa HRP HRC HRH).mono ?_;rintro e w4 ⟨rfl,hk4,hw4⟩;try dsimp only)
    go_roundw
    case rel=>exact⟨j+1,hlt,by go_num,by rw[a5F a0m xs j hlt];exact hw4,HKa.out.trans hk4⟩
    case measure=>simp[intOf];omega
  ·exact a1w
theorem a7Z:∀(ms:List S5) (j:Nat) (hj:j<ms.length),a1o ms[j]≤o9 ms
 |x::l,0,_=>by simp[o9]
 |x::l,j+1,h=>by
  have:=a7Z l j (by simpa using h);simp only[o9,List.map_cons,List.sum_cons,List.getElem_cons_succ]at this⊢;omega
theorem b6p(w:World)(b mb lim:Nat)(r:Option WS)(c:Y9)(fa ma:Option Addr)(fk mk:Nat)(hl:lim≤b)(hlm:lim≤mb)(hb0:2<b)(hm0:2<mb)(hm:Hid (a1K c))(hc:a0U c≤2^40)(h:Hid (D0 w b mb r))(hS:Hid (O4 w))
 (hrf:Hid (B8 w lim 3 a0a fa c.fields)) (hrm:Hid (l8 w lim ma c.methods)):
 Calls prog 90 #[.pointer (some ⟨b,0,none⟩), .agg #[.string c.name, .string c.super, .slice fa c.fields.length fk, .slice ma c.methods.length mk]] w
  fun e w'=>e= .returned (.tuple #[])∧C4 w w' b mb∧D0 w' b mb (A8 (a2h c) r):=by
 have hbl:=h.out.lt;have hcl:10+5*c.fields.length+o9 c.methods≤1099511627776:=by unfold a0U at hc;omega
 have hxf:c.fields.length≤1099511627776:=by omega
 have hxm:c.methods.length≤1099511627776:=by have:=b0E c.methods;omega
 have hcj:∀j (hj:j<c.methods.length),a1o c.methods[j]≤1099511627776:=fun j hj=>by have:=a7Z c.methods j hj;omega
 have hF:∀x∈c.fields,a9L x:=fun x hx=>by obtain⟨q,hq,rfl⟩:=List.getElem_of_mem hx;exact hm.out.fields q hq
 clear hc hcl
 have e:A8 (a2h c) r=(A8 (K9 1 a0m c.methods) (A8 (K9 1 p9 c.fields) (A8 [.nm c.super] (A8 [.nm c.name] r)))):=by
  unfold a2h;simp only[←o6];simp
 rw[e];clear e;have HW0:Hid (D0 (w.alloc (.cells #[.string c.name, .string c.super, .slice fa c.fields.length fk, .slice ma c.methods.length mk] 44)) b mb r):=h.out.keep (A2 w _ _);have HK0:Hid (C4 w (w.alloc (.cells #[.string c.name, .string c.super, .slice fa c.fields.length fk, .slice ma c.methods.length mk] 44)) b mb):= .ofNone (A2 w _ _);have HB0:Hid (A3 (w.alloc (.cells #[.string c.name, .string c.super, .slice fa c.fields.length fk, .slice ma c.methods.length mk] 44)) w.heap.size #[.string c.name, .string c.super, .slice fa c.fields.length fk, .slice ma c.methods.length mk] 44):=A3.new w _ _;have hnb:w.heap.size≠b:=by have:=h.out.lt;omega
 have hnm:w.heap.size≠mb:=by have:=h.out.mblt;omega
 go_enter func90,ntmps90;go_wp2_with fail
 refine(a4z _ b mb r c.name hm.out.name HW0).mono ?_;rintro e w1 ⟨rfl,hk1,hw1⟩;have HK1:=A0 (HK0.out.trans hk1);have HW1:=A0 hw1;have HB1:=A0 (hk1.blk HB0.out hnb hnm (by decide));clear hk1 hw1 HK0 HW0 HB0;have c11:=HB1.out.c1;dsimp only;go_wp2_with fail
 refine(a4z _ b mb (A8 [.nm c.name] r) c.super hm.out.super HW1).mono ?_;rintro e w2 ⟨rfl,hk2,hw2⟩;have HK2:=A0 (HK1.out.trans hk2);have HW2:=A0 hw2;have HB2:=A0 (hk2.blk HB1.out hnb hnm (by decide));clear hk2 hw2 HK1 HW1 HB1;have c22:=HB2.out.c2;dsimp only;go_wp2_with fail
 refine(b7s _ b mb lim (A8 [.nm c.super] (A8 [.nm c.name] r)) 1 c.fields fa fk (.inl rfl) hl hlm hxf HW2 (hrf.out.keepW HK2.out hl hlm hbl) (fun w' r' x hx _ hw=>b6o w' b mb r' x (hF x hx).1 (hF x hx).2.2 hw)).mono ?_;rintro e w3 ⟨rfl,hk3,hw3⟩;have HK3:=A0 (HK2.out.trans hk3);have HW3:=A0 hw3;have HB3:=A0 (hk3.blk HB2.out hnb hnm (by decide));clear hk3 hw3 HK2 HW2 HB2;have c33:=HB3.out.c3;dsimp only;go_wp2_with fail
 refine(b8Q _ b mb lim (A8 (K9 1 p9 c.fields) (A8 [.nm c.super] (A8 [.nm c.name] r))) 1 c.methods ma mk (.inl rfl) hl hlm hb0 hm0 hxm hm.out.methods hcj HW3 (hS.out.keepW HK3.out hb0 hm0) (hrm.out.keepW HK3.out hl hlm hbl)).mono ?_;rintro e w4 ⟨rfl,hk4,hw4⟩;dsimp only;go_wp2_with fail
 go_end0;exact⟨rfl,HK3.out.trans hk4,hw4⟩
theorem D0.made(w:World):D0 ((w.alloc (.map #[] 0)).alloc (.cells #[.map (some w.heap.size), .slice none 0 0, .slice none 0 0, .bool false] 195)) (w.heap.size+1) w.heap.size (some ⟨[],[]⟩):=by
 have hB:A3 ((w.alloc (.map #[] 0)).alloc (.cells #[.map (some w.heap.size), .slice none 0 0, .slice none 0 0, .bool false] 195)) (w.heap.size+1) #[.map (some w.heap.size), .slice none 0 0, .slice none 0 0, .bool false] 195:=by
  have:=A3.new (w.alloc (.map #[] 0)) #[.map (some w.heap.size), .slice none 0 0, .slice none 0 0, .bool false] 195;simp only[a8m]at this;exact this
 have hm:((w.alloc (.map #[] 0)).alloc (.cells #[.map (some w.heap.size), .slice none 0 0, .slice none 0 0, .bool false] 195)).heap[w.heap.size]? =some (.map #[] 0):=
  ((A2 (w.alloc (.map #[] 0)) _ none).block w.heap.size (by simp) (by simp)).trans (heap_alloc_new w _)
 have hM:=World.ownsMap_made (H:=Unit) w prog 9 (plainElem prog 3);refine⟨.map #[] 0, .slice none 0 0, .slice none 0 0,[],false,[],⟨hB,hm,(fun cs t fr e=>by cases e),World.ownsRow_nil _ _ _ _,World.ownsRow_nil _ _ _ _, .inl rfl⟩,?_,List.nodup_nil,by simp,by simp,by simp,?_,?_⟩
 ·exact a6C (w:=w.alloc (.map #[] 0)) hM ((A2 (w.alloc (.map #[] 0)) _ none).block w.heap.size (by simp) (by simp))
 ·intro s hs _;cases hs;exact⟨rfl,rfl,rfl⟩
 ·intro hs;have:=hs ⟨[],[]⟩ rfl;simp at this
section
variable{P:Program}
theorem b4m(w:World)(t ty:TypeId)(base:Nat)(e:TypeId)(i:TypeInfo)(z:Value)(size bytes:Nat)(ht:P.underlying t=some (.slice e))(hi:P.info? e=some i)(hz:i.zero=some z)
 (hsize:i.size=size) (hby:i.bytes=bytes) (hzs:z.cells.size=size)
 (b:Addr) (sLen sCap:Nat) (olds:List Value) (hlo:olds.length=sLen*size) (holds:∀j v,olds[j]? =some v→w.cell? (b.add j)=some v)
 (ad:Addr) (m c:Nat) (news:List Value) (hl:news.length=m*size) (hnews:∀j u,news[j]? =some u→w.cell? (ad.add j)=some u)
 (hg:sCap<sLen+m) (h63:sLen+m≤maxLen) (hbytes:(sLen+m)*bytes≤140737488355328) (hbase:base≤w.heap.size) (H:Nat) (hH:w.heap.size=H):
 ∃cap w',(Builtin.append_ #[t,t] ty #[.slice (some b) sLen sCap, .slice (some ad) m c]).run P w= .ok (.slice (some ⟨H,0,none⟩) (sLen+m) cap) w'∧
  w'.ownsRow base e size (.slice (some ⟨H,0,none⟩) (sLen+m) cap) (sLen+m) (olds++news)∧w.grownBy w' none∧H<w'.heap.size:=by
 subst hsize hby hH;have hr:=run_append_grow (P:=P) w t ty e i z ht hi hz b sLen sCap olds hlo holds ad m c news hl hnews hg (by simp only[maxLen]at h63;omega) (growslice_fits (by omega) (by omega));have hge:=grownCap_ge w (sLen+m) sCap e;have hcm:=grownCap_le_maxLen w (sLen+m) sCap e h63;have hlen:(olds++news).length=(sLen+m)*i.size:=by rw[List.length_append,hlo,hl,Nat.add_mul]
 refine⟨_,_,hr,⟨hlen, .inr ⟨w.heap.size,_,_,rfl,hbase,heap_alloc_new w.drew _,hge,hcm,?_,?_⟩⟩,⟨rfl,rfl,rfl,by simp,fun k hk _=>heap_alloc_old w.drew _ hk⟩,by simp⟩
 ·simp only[Array.size_append,List.size_toArray,size_zeroCells,hzs,hlo,hl,←Nat.add_mul];congr 1
  omega
 ·simp only[Array.toList_append,List.append_assoc];rw[←List.append_assoc,←hlen];exact List.take_left
theorem b4d{w:World}{ops:Array Oper}{rest:List Oper}{o:Oper}{a:Act}{Q:Exit→Act→World→Prop}(hgd:o.guard=none)(s x:Operand)(t:TypeId)
 (ho:o.op= .call {callee:= .builtin .append,args:= #[s,x],argTypes:= #[t,t]})
 (base:Nat) (e:TypeId) (i:TypeInfo) (z:Value) (size bytes:Nat) (ht:P.underlying t=some (.slice e)) (hi:P.info? e=some i) (hz:i.zero=some z)
 (hsize:i.size=size) (hby:i.bytes=bytes) (hzs:z.cells.size=size)
 (b:Addr) (sLen sCap:Nat) (olds:List Value) (hs:a.eval s= .slice (some b) sLen sCap) (hlo:olds.length=sLen*size) (holds:∀j v,olds[j]? =some v→w.cell? (b.add j)=some v)
 (ad:Addr) (m c:Nat) (news:List Value) (hx:a.eval x= .slice (some ad) m c) (hl:news.length=m*size) (hnews:∀j u,news[j]? =some u→w.cell? (ad.add j)=some u)
 (hg:sCap<sLen+m) (h63:sLen+m≤maxLen) (hbytes:(sLen+m)*bytes≤140737488355328) (hbase:base≤w.heap.size) (H:Nat) (hH:w.heap.size=H)
 (h:∀cap w',w'.ownsRow base e size (.slice (some ⟨H,0,none⟩) (sLen+m) cap) (sLen+m) (olds++news)→w.grownBy w' none→H<w'.heap.size→wpList P ops Q rest (a.put o.dst (.slice (some ⟨H,0,none⟩) (sLen+m) cap)) w'):wpList P ops Q (o::rest) a w:=by
 refine wpList_plain hgd fun K hK=> ?_
 obtain⟨cap,w',hr,h2,h3,h4⟩:=b4m (P:=P) w t o.type base e i z size bytes ht hi hz hsize hby hzs b sLen sCap olds hlo holds ad m c news hl hnews hg h63 hbytes hbase H hH;unfold Oper.wp execOp;simp only[ho,resolve,invoke,builtin,Sem.run_bind,Sem.run_pure,Result.andThen_ok,List.map_toArray,List.map_cons,List.map_nil,hs,hx,hr];exact hK _ _ (h cap w' h2 h3 h4)
end
theorem b6g{t:I7}{s s':WS}(h:I5 t s=some s'):s.names.length≤s'.names.length∧s.out.length≤s'.out.length:=by
 match t,h with
 |some (.inl (n,w)),h=>
  simp only[I5]at h;split at h
  ·cases h;simp
  ·cases h
 |none,h=>cases h
 |some (.inr y),h=>
  obtain⟨_,rfl⟩:=a4h s.names y s s' h;exact⟨a5w s.names y,by simp⟩
theorem b1c:∀(l:List I7) {s s':WS},A8 l (some s)=some s'→s.names.length≤s'.names.length∧s.out.length≤s'.out.length
 | [],s,s',h=>by cases h;exact⟨Nat.le_refl _,Nat.le_refl _⟩
 |t::l,s,s',h=>by
  rw[T9]at h;cases ht:I5 t s with
  |none=>rw[Option.bind_some,ht,a5z]at h;cases h
  |some s1=>
   rw[Option.bind_some,ht]at h;have h1:=b6g ht;have h2:=b1c l h;exact⟨Nat.le_trans h1.1 h2.1,Nat.le_trans h1.2 h2.2⟩
theorem b7p{c:Y9}{s:WS}(h:A8 (a2h c) (some ⟨[],[]⟩)=some s):0<s.names.length∧0<s.out.length:=by
 unfold a2h at h;rw[T9]at h;cases ht:I5 (.nm c.name) ⟨[],[]⟩with
 |none=>rw[Option.bind_some,ht,a5z]at h;cases h
 |some s1=>
  rw[Option.bind_some,ht]at h;obtain⟨_,rfl⟩:=a4h [] c.name ⟨[],[]⟩ s1 ht;have h2:=b1c _ h;have h3:(T0 [] c.name).length=1:=by unfold T0 F5;simp
  simp only[h3,List.nil_append,List.length_singleton]at h2;exact⟨by omega,by omega⟩
theorem b4n{w:World}{base n:Nat}{v:Value}{l:List UInt8}(h:w.ownsRow base 5 1 v n (l.map O0)):n=l.length:=by
 have:=h.1;simpa using this.symm
theorem c0v(W:World)(base g n cap:Nat)(l:List UInt8)(h:W.ownsRow base 5 1 (.slice (some ⟨g,0,none⟩) n cap) n (l.map O0)):(convert 193 9 (.slice (some ⟨g,0,none⟩) n cap)).run prog W= .ok (.string ⟨l.toArray⟩) W:=by
 rw[run_convert_bytes_string _ 193 9 5 _ n cap underlying193 underlying5 underlying9];have hn:=b4n h;have hl:=run_loadCells_list (P:=prog) W ⟨g,0,none⟩ (l.map O0) (h.cells (g:=g) rfl);have e:l.map O0=(l.map fun x=>(x.toNat:Int)).map fun z=>Value.int .u8 z:=by simp[O0]
 rw[e]at hl;have:=run_bytesToString (P:=prog) W _ n cap (l.map fun x=>(x.toNat:Int)) (by rw[hn];simpa using hl);rw[this]
 have e2:∀(q:List UInt8) (r:ByteArray),(q.map fun x=>(x.toNat:Int)).foldl (fun r n=>r.push (UInt8.ofNat n.toNat)) r=⟨(r.data.toList++q).toArray⟩:=by
  intro q;induction q with
  |nil=>intro r;apply ByteArray.ext;simp
  |cons x q ih=>
   intro r;rw[List.map_cons,List.foldl_cons,ih];apply ByteArray.ext;simp
 rw[e2];rfl
theorem b7r(w:World)(lim:Nat)(c:Y9)(fa ma:Option Addr)(fk mk:Nat)(hl:lim≤w.heap.size)(hm:Hid (a1K c))(hc:a0U c≤2^40)(hS:Hid (O4 w))
 (hrf:Hid (B8 w lim 3 a0a fa c.fields)) (hrm:Hid (l8 w lim ma c.methods)):
 Calls prog 49 #[.agg #[.string c.name, .string c.super, .slice fa c.fields.length fk, .slice ma c.methods.length mk]] w fun e w'=>e= .returned (.tuple #[.string (a5e (enc c)), .int .i64 (a7A (enc c))])∧w.grownBy w' none:=by
 have hs0:=hS.out.1;obtain⟨mb,hmb⟩:∃mb,mb=w.heap.size+1:=⟨_,rfl⟩
 obtain⟨b,hb⟩:∃b,b=w.heap.size+1+1:=⟨_,rfl⟩
 obtain⟨w0,hw0⟩:∃w0,w0=w.alloc (.cells #[.string c.name, .string c.super, .slice fa c.fields.length fk, .slice ma c.methods.length mk] 44):=⟨_,rfl⟩
 have hsz0:w0.heap.size=w.heap.size+1:=by rw[hw0];simp
 obtain⟨wb,hwb⟩:∃wb,wb=(w0.alloc (.map #[] 0)).alloc (.cells #[.map (some (w.heap.size+1)), .slice none 0 0, .slice none 0 0, .bool false] 195):=⟨_,rfl⟩
 have hG0:w.grownBy w0 none:=by rw[hw0];exact A2 _ _ _
 have hG1:w0.grownBy wb none:=by rw[hwb];exact A1 (A2 _ _ _) (A2 _ _ _)
 have HG:=A0 (A1 hG0 hG1)
 have HW0:Hid (D0 wb b mb (some ⟨[],[]⟩)):=by
  have:=D0.made w0;rw[hsz0,←hb,←hmb]at this;unfold Hid;rw[hwb,←hmb];exact this
 have HB0:Hid (A3 wb w.heap.size #[.string c.name, .string c.super, .slice fa c.fields.length fk, .slice ma c.methods.length mk] 44):=by
  have:=A3.new w #[.string c.name, .string c.super, .slice fa c.fields.length fk, .slice ma c.methods.length mk] 44;rw[←hw0]at this;exact this.keep hG1 (by simp)
 have HSb:=A0 (hS.out.keep HG.out (by simp));have HRF:=A0 (hrf.out.keep HG.out);have HRM:=A0 (hrm.out.keep HG.out);obtain⟨c0,c1,c2,c3⟩:=HB0.out.q4;have hlb:lim≤b:=by omega
 have hlm:lim≤mb:=by omega
 have hb0:2<b:=by omega
 have hm0:2<mb:=by omega
 clear hG0 hG1;go_enter func49,ntmps49;go_wp2_with fail
 rw[run_makeMap];simp only[Result.andThen_ok];go_wp2_with fail
 rw[←hw0];rw[←hwb];rw[←hb];have hbg:Hid (w.heap.size<b):=by unfold Hid;omega
 have hmg:Hid (w.heap.size<mb):=by unfold Hid;omega
 clear hw0 hwb hsz0 hb hmb c0 c1 c2 c3;refine(b6p wb b mb lim (some ⟨[],[]⟩) c fa ma fk mk hlb hlm hb0 hm0 hm hc HW0 HSb HRF HRM).mono ?_;rintro e w1 ⟨rfl,hk1,hw1⟩;obtain⟨r,hr⟩:∃r,r=A8 (a2h c) (some ⟨[],[]⟩):=⟨_,rfl⟩
 rw[←hr]at hw1
 have HK:Hid (w.grownBy w1 none):=⟨hk1.os.trans HG.out.os,hk1.tape.trans HG.out.tape,hk1.output.trans HG.out.output,Nat.le_trans HG.out.size hk1.size,fun k hk _=>
  (hk1.block k (Nat.lt_of_lt_of_le hk HG.out.size) (fun hm'=>by have h1:=hbg.out;have h2:=hmg.out;rcases hm' with h|h|⟨h,_⟩<;>omega)).trans (HG.out.block k hk (by simp))⟩
 clear hk1 HB0 HW0 HSb HRF HRM HG hrf hrm hS;obtain⟨mo,pv,bv,body,wrong,names,hW,hM,h1,h2,h3,h4,h5,h6⟩:=hw1;have HWr:=A0 hW;have HM:=A0 hM;have c3:=HWr.out.blk.c3;clear hW hM;dsimp only;cases wrong with
 |true=>
  have he:Hid (enc c= .error 19):=by
   unfold Hid enc;rw[←hr];cases r with
   |none=>rfl
   |some s=>
    have:255<s.names.length:=by
     by_cases hc:s.names.length≤255
     ·have:=(h5 s rfl hc).1;cases this
     ·omega
    simp only[this,if_true]
  clear hr h5 h6;go_wp2_with fail
  go_ret2
  rw[he.out];exact⟨rfl,HK.out⟩
 |false=>
  obtain⟨s,hrs,hsl,hsn,hsb⟩:∃s:WS,r=some s∧s.names.length≤255∧names=s.names∧body=s.out.take 2049:=by
   cases hrr:r with
   |none=>have:=h6 (fun s e=>by rw[hrr]at e;cases e);cases this
   |some s=>
    by_cases hl:s.names.length≤255
    ·exact⟨s,rfl,hl,(h5 s hrr hl).2⟩
    ·have:=h6 (fun s' e=>by rw[hrr]at e;injection e with e;subst e;omega);cases this
  obtain⟨file,hfile⟩:∃file,file=([87,49,UInt8.ofNat names.length]++E7 names++body:List UInt8):=⟨_,rfl⟩
  have he:Hid (enc c=if 2048<file.length then .error 1 else .ok file):=by
   unfold Hid enc;rw[←hr,hrs];simp only;rw[if_neg (by omega),hfile,hsb,←hsn];by_cases hlen:s.out.length≤2049
   ·rw[List.take_of_length_le hlen]
   ·rw[if_pos (by simp only[List.length_append,List.length_cons,List.length_nil];omega),if_pos (by simp only[List.length_append,List.length_cons,List.length_nil,List.length_take];omega)]
  have hfl:Hid (file.length=3+(E7 names).length+body.length):=by unfold Hid;rw[hfile];simp only[List.length_append,List.length_cons,List.length_nil]
  have hpl:=b0g h2 h3;have HF:=A0 hfile;have hne:=b7p (hr.symm.trans hrs)
  have hn0:0<(E7 names).length:=by
   rw[hsn];have:=hne.1;cases hq:s.names with
   |nil=>rw[hq]at this;simp at this
   |cons x q=>simp[E7]
  have hb0':0<body.length:=by rw[hsb,List.length_take];omega
  clear hfile hr hrs h5 h6 hsl hsn hsb hne;have HP:=HWr.out.poolR.form hn0;obtain⟨pg,pk,rfl,-,-⟩:=HP;have HB:=HWr.out.bodyR.form hb0';obtain⟨bg,bk,rfl,-,-⟩:=HB;obtain⟨d0,d1,d2⟩:=HWr.out.blk.q3;have HL:Hid (Maps.size (a0F names)=names.length):=(a7h names h1 names.length (Nat.le_refl _)).size;obtain⟨i,hi,hz0,hz1,hz2⟩:=info_parts a7s;go_wp2_with fail
  rw[Go.Lib.run_convert_bytes_const w1 193 5 #[.int .u8 87, .int .u8 49] 2 2 underlying193 underlying5];simp only[Result.andThen_ok];obtain⟨wm,hwm⟩:∃wm,wm=w1.alloc (.cells #[.int .u8 87, .int .u8 49] 5 ((#[.int .u8 87, .int .u8 49]:Array Value).size,(#[.int .u8 87, .int .u8 49]:Array Value).size+1)):=⟨_,rfl⟩
  have HGm:Hid (w1.grownBy wm none):=by unfold Hid;rw[hwm];exact A2 _ _ _
  have HWa:=A0 (HWr.out.keep HGm.out);have HMa:=A0 (HM.out.same (HGm.out.block mb HWr.out.mblt (by simp)));clear d0 d1 d2;have d0:=HWa.out.blk.c0;rw[←hwm];have m0:wm.cell? ⟨w1.heap.size,0,none⟩=some (.int .u8 87):=by rw[hwm];exact World.cell?_alloc_mark w1 _ _ _ 0
  have m1:wm.cell? ⟨w1.heap.size,1,none⟩=some (.int .u8 49):=by rw[hwm];exact World.cell?_alloc_mark w1 _ _ _ 1
  have hszm:wm.heap.size=w1.heap.size+1:=by rw[hwm];simp
  clear hwm;have hsw:w.heap.size≤wm.heap.size:=by rw[hszm];have:=HK.out.size;omega
  have hmk:∀j v,([.int .u8 87, .int .u8 49]:List Value)[j]? =some v→(wm.alloc (.cells #[.int .u8 names.length] 5)).cell? ((⟨w1.heap.size,0,none⟩:Addr).add j)=some v:=by
   intro j v hj;have hadd:(⟨w1.heap.size,0,none⟩:Addr).add j=⟨w1.heap.size,j,none⟩:=by unfold Addr.add;split<;>simp_all
   rw[hadd,((A2 wm _ none).cell_far ⟨w1.heap.size,j,none⟩ (by rw[hszm];simp) (by simp))];have hj2:j<2:=by have:=(List.getElem?_eq_some_iff.1 hj).1;simpa using this
   have:j=0∨j=1:=by omega
   rcases this with rfl|rfl
   ·rw[m0];exact hj
   ·rw[m1];exact hj
  have HMK:=A0 hmk;obtain⟨file2,hf2⟩:∃file2,file2=([87,49,UInt8.ofNat names.length]:List UInt8):=⟨_,rfl⟩
  have HF2:=A0 hf2
  have HB2:Hid (file2.map O0=([.int .u8 87, .int .u8 49]++ [.int .u8 names.length]:List Value)):=by
   unfold Hid;rw[hf2];have:(UInt8.ofNat names.length).toNat=names.length:=by rw[UInt8.toNat_ofNat'];omega
   simp only[List.map_cons,List.map_nil,O0,this];rfl
  clear hf2 hmk m0 m1
  go_wp2_with (first
   |(at_len;go_loud (refine wpList_len_own _ rfl _ 148 rfl 9 3 underlying148 _ mb names.length (a0F names) rfl HMa.out ?_);rw[HL.out])
   |(at_builtin;first
      |(go_loud (refine wpList_append_lies _ rfl _ _ 193 rfl w.heap.size 5 i _ 1 1 underlying193 hi hz0 hz1 hz2 rfl (by decide) (.slice (some ⟨g3,0,none⟩) (3+(E7 names).length) k3) (3+(E7 names).length) _ rfl HO3.out ⟨bg,0,none⟩ body.length bk (body.map O0) rfl (by simp) (HW3.out.bodyR.cells rfl) (by simp[O0,Value.oneCell']) hb0' (by unfold maxLen;omega) (by omega) (by have:=HW3.out.blk.lt;have:=hbg.out;omega) w3.heap.size rfl ?_)
        intro g4 k4 w4 hown4 hgrow4 hlie4 hlt4
        go_loud (
         have HO4:Hid (w4.ownsRow w.heap.size 5 1 (.slice (some ⟨g4,0,none⟩) (3+(E7 names).length+body.length) k4) (3+(E7 names).length+body.length) (file.map O0)):=by
          unfold Hid;rw[HF.out,List.map_append,List.map_append];exact hown4
         have HG4:=A0 (D5 HG3.out hgrow4 (fun k e=> .inl (by simp only[Value.ownBlock,Option.some.injEq]at e;have:=hg3.out;omega)));have hconv:=c0v w4 w.heap.size g4 _ k4 file HO4.out;clear hown4 hgrow4 hlie4 hlt4))
      |(go_loud (refine wpList_append_lies _ rfl _ _ 193 rfl w.heap.size 5 i _ 1 1 underlying193 hi hz0 hz1 hz2 rfl (by decide) (.slice (some ⟨w1.heap.size+1+1,0,none⟩) 3 k2) 3 _ rfl HO2.out ⟨pg,0,none⟩ (E7 names).length pk ((E7 names).map O0) rfl (by simp) (HW2.out.poolR.cells rfl) (by simp[O0,Value.oneCell']) hn0 (by unfold maxLen;omega) (by omega) (by have:=HW2.out.blk.lt;have:=hbg.out;omega) w2.heap.size rfl ?_)
        intro g3 k3 w3 hown3 hgrow3 hlie3 hlt3
        go_loud (
         have HO3:=A0 hown3;have HG3:=A0 (D5 HG2.out hgrow3 (fun k e=> .inl (by simp only[Value.ownBlock,Option.some.injEq]at e;omega)));have HW3:=A0 (HWa.out.keep HG3.out)
         have hg3:Hid (wm.heap.size≤g3):=by
          unfold Hid;rcases hlie3 with e|e
          ·simp only[Value.ownBlock,Option.some.injEq]at e;omega
          ·have:=HG2.out.size;omega
         clear hown3 hgrow3 hlie3 hlt3;clear d1;have d2:=HW3.out.blk.c2))
      |(go_loud (refine b4d rfl _ _ 193 rfl w.heap.size 5 i _ 1 1 underlying193 hi hz0 hz1 hz2 rfl ⟨w1.heap.size,0,none⟩ 2 2 [.int .u8 87, .int .u8 49] rfl rfl HMK.out ⟨w1.heap.size+1,0,none⟩ 1 1 [.int .u8 names.length] rfl rfl (by rw[←hszm];exact S6 wm [.int .u8 names.length] 5) (by omega) (by unfold maxLen;omega) (by omega) (by simp;omega) (w1.heap.size+1+1) (by simp[hszm]) ?_)
        intro k2 w2 hown2 hgrow2 hlt2
        go_loud (
         have HO2:Hid (w2.ownsRow w.heap.size 5 1 (.slice (some ⟨w1.heap.size+1+1,0,none⟩) 3 k2) 3 (([87,49,UInt8.ofNat names.length]:List UInt8).map O0)):=by
          unfold Hid;rw[←HF2.out,HB2.out];exact hown2
         have HG2:=A0 (A1 (A2 _ _ _) hgrow2);have HW2:=A0 (HWa.out.keep HG2.out);clear hown2 hgrow2 hlt2;clear d0;have d1:=HW2.out.blk.c1))))
  all_goals
   go_ret2
   have hgw:=A1 (A1 HK.out HGm.out) HG4.out;rw[he.out]
   first
    |(rw[if_pos (by rw[hfl.out];omega)];exact⟨rfl,hgw⟩)
    |(rw[if_neg (by rw[hfl.out];omega)];exact⟨rfl,hgw⟩)
theorem a8q(w:World)(lim:Nat)(c:Y9)(fa ma:Option Addr)(fk mk:Nat)(hl:lim≤w.heap.size)(hm:Hid (a1K c))(hc:a0U c≤2^40)(hS:Hid (O4 w))
 (hrf:Hid (B8 w lim 3 a0a fa c.fields)) (hrm:Hid (l8 w lim ma c.methods)):
 Calls prog 17 #[.agg #[.string c.name, .string c.super, .slice fa c.fields.length fk, .slice ma c.methods.length mk]] w fun e w'=>e= .returned (.tuple #[.string (a5e (enc c)), .int .i64 (a7A (enc c))])∧w.grownBy w' none:=by
 have HS:Hid (O4 (w.alloc (.cells #[.string c.name, .string c.super, .slice fa c.fields.length fk, .slice ma c.methods.length mk] 44))):=hS.out.keep (A2 _ _ none) (by simp);have HF:Hid (B8 (w.alloc (.cells #[.string c.name, .string c.super, .slice fa c.fields.length fk, .slice ma c.methods.length mk] 44)) lim 3 a0a fa c.fields):=hrf.out.keep (A2 _ _ none);have HM:Hid (l8 (w.alloc (.cells #[.string c.name, .string c.super, .slice fa c.fields.length fk, .slice ma c.methods.length mk] 44)) lim ma c.methods):=hrm.out.keep (A2 _ _ none);go_enter func17,ntmps17;go_wp2_with (go_at_call 49;refine(b7r _ lim c fa ma fk mk (by simp;omega) hm hc HS HF HM).mono ?_;rintro e w2 ⟨rfl,hg⟩)
 go_ret2
 exact⟨rfl,A1 (A2 _ _ _) hg⟩
theorem b4s(w:World)(l1 l2 k1 k2:Nat)(a1 a2:Option Addr)(xs:List n9)(h1:Hid (B8 w l1 2 X8 a1 xs))(h2:Hid (B8 w l2 2 X8 a2 xs))(hl:xs.length≤1099511627776):
 Calls prog 95 #[.slice a1 xs.length k1, .slice a2 xs.length k2] w fun e w'=>e= .returned (.bool true)∧w.grownBy w' none:=by
 go_enter func95,ntmps95;go_wp2_with fail
 go_loopw [5] (fun i wr=>∃j:Nat,j≤xs.length∧i= .int .i64 j∧Hid (w.grownBy wr none)) (fun i _=>xs.length-(intOf i).toNat)
 case atStart=>exact⟨0,Nat.zero_le _,rfl,I8 _ _⟩
 case round=>
  obtain⟨j,hj,rfl,HGW⟩:=hrel;by_cases hlt:j<xs.length
  ·obtain⟨p1,rfl,-,hc1⟩:=h1.out.keep HGW.out j hlt;obtain⟨p2,rfl,-,hc2⟩:=h2.out.keep HGW.out j hlt;have f0:wr.cell? (p1.add (j*2))=some (.int .i64 xs[j].kind):=hc1 0 _ rfl;have f1:wr.cell? ⟨(p1.add (j*2)).block,(p1.add (j*2)).off+1,none⟩=some (.string xs[j].name):=by rw[G1 p1 (j*2) 0];exact hc1 1 _ rfl
   have k0:wr.cell? (p2.add (j*2))=some (.int .i64 xs[j].kind):=hc2 0 _ rfl;have k1:wr.cell? ⟨(p2.add (j*2)).block,(p2.add (j*2)).off+1,none⟩=some (.string xs[j].name):=by rw[G1 p2 (j*2) 0];exact hc2 1 _ rfl
   clear hc1 hc2;go_wp2_with fail
   go_quiet (fail)
   go_wp2_with fail
   go_roundw
   case rel=>exact⟨j+1,hlt,by go_num,K7 HGW.out (K3 _ _ _)⟩
   case measure=>simp[intOf];omega
  ·go_wp2_with fail
   go_ret;exact⟨rfl,HGW.out⟩
theorem b4g(w:World)(l1 l2:Nat)(m:S5)(p1a p2a q1a q2a r1a r2a:Option Addr)(p1k p2k q1k q2k r1k r2k:Nat)(hp1:Hid (B8 w l1 2 X8 p1a m.params))(hp2:Hid (B8 w l2 2 X8 p2a m.params))(hq1:Hid (B8 w l1 4 xIn q1a m.code))(hq2:Hid (B8 w l2 4 xIn q2a m.code))(hr1:Hid (B8 w l1 4 xHd r1a m.handlers))(hr2:Hid (B8 w l2 4 xHd r2a m.handlers))(hp:m.params.length≤1099511627776)(hc:m.code.length≤1099511627776)(hh:m.handlers.length≤1099511627776):
 Calls prog 52 #[.agg (mX m p1a p1k q1a q1k r1a r1k), .agg (mX m p2a p2k q2a q2k r2a r2k)] w fun e w'=>e= .returned (.bool true)∧w.grownBy w' none:=by
 have hgA:Hid (w.grownBy ((w.alloc (.cells (mX m p1a p1k q1a q1k r1a r1k) 102)).alloc (.cells (mX m p2a p2k q2a q2k r2a r2k) 102)) none):=A1 (A2 _ _ _) (A2 _ _ _);have hA1:Hid (A3 ((w.alloc (.cells (mX m p1a p1k q1a q1k r1a r1k) 102)).alloc (.cells (mX m p2a p2k q2a q2k r2a r2k) 102)) w.heap.size (mX m p1a p1k q1a q1k r1a r1k) 102):=(A3.new w _ _).keep (A2 _ _ none) (by simp)
 have hA2:Hid (A3 ((w.alloc (.cells (mX m p1a p1k q1a q1k r1a r1k) 102)).alloc (.cells (mX m p2a p2k q2a q2k r2a r2k) 102)) (w.heap.size+1) (mX m p2a p2k q2a q2k r2a r2k) 102):=by
  have:=A3.new (w.alloc (.cells (mX m p1a p1k q1a q1k r1a r1k) 102)) (mX m p2a p2k q2a q2k r2a r2k) 102;unfold Hid;simpa using this
 have HT1:=A0 (hp1.out.keep hgA.out);have HT2:=A0 (hp2.out.keep hgA.out);go_enter func52,ntmps52
 go_wp2_with (
  go_at_call 95
  refine(b4s _ l1 l2 p1k p2k p1a p2a m.params HT1 HT2 hp).mono ?_;rintro e w3 ⟨rfl,hg3⟩;have HB1:=A0 (hA1.out.keep hg3 (by simp));have HB2:=A0 (hA2.out.keep hg3 (by simp));have HG3:=A0 (A1 hgA.out hg3);obtain⟨c0,c1,c2,c3,c4,c5,c6,c7⟩:=HB1.out.q8;obtain⟨d0,d1,d2,d3,d4,d5,d6,d7⟩:=HB2.out.q8;clear hg3 HT1 HT2 hgA hA1 hA2;try dsimp only)
 go_loopw [6] (fun i wr=>∃j:Nat,j≤m.code.length∧i= .int .i64 j∧Hid (∀a,wr.cell? a=w3.cell? a)∧Hid (w3.grownBy wr none)) (fun i _=>m.code.length-(intOf i).toNat)
 case atStart=>exact⟨0,Nat.zero_le _,rfl,fun _=>rfl,I8 _ _⟩
 case round=>
  obtain⟨j,hj,rfl,HQ,HGW⟩:=hrel;have e1:wr.cell? ⟨w.heap.size,6,none⟩=some (.slice q1a m.code.length q1k):=(HQ.out _).trans c6;have e2:wr.cell? ⟨w.heap.size+1,6,none⟩=some (.slice q2a m.code.length q2k):=(HQ.out _).trans d6;have e3:wr.cell? ⟨w.heap.size,7,none⟩=some (.slice r1a m.handlers.length r1k):=(HQ.out _).trans c7;by_cases hlt:j<m.code.length
  ·obtain⟨p1,rfl,-,hc1⟩:=(hq1.out.keep HG3.out).keep HGW.out j hlt;obtain⟨p2,rfl,-,hc2⟩:=(hq2.out.keep HG3.out).keep HGW.out j hlt;have f0:wr.cell? (p1.add (j*4))=some (.int .i64 m.code[j].op):=hc1 0 _ rfl;have f1:wr.cell? ⟨(p1.add (j*4)).block,(p1.add (j*4)).off+1,none⟩=some (.int .i64 m.code[j].a):=by rw[G1 p1 (j*4) 0];exact hc1 1 _ rfl
   have f2:wr.cell? ⟨(p1.add (j*4)).block,(p1.add (j*4)).off+2,none⟩=some (.string m.code[j].cls):=by rw[G1 p1 (j*4) 1];exact hc1 2 _ rfl
   have f3:wr.cell? ⟨(p1.add (j*4)).block,(p1.add (j*4)).off+3,none⟩=some (.string m.code[j].mem):=by rw[G1 p1 (j*4) 2];exact hc1 3 _ rfl
   have k0:wr.cell? (p2.add (j*4))=some (.int .i64 m.code[j].op):=hc2 0 _ rfl;have k1:wr.cell? ⟨(p2.add (j*4)).block,(p2.add (j*4)).off+1,none⟩=some (.int .i64 m.code[j].a):=by rw[G1 p2 (j*4) 0];exact hc2 1 _ rfl
   have k2:wr.cell? ⟨(p2.add (j*4)).block,(p2.add (j*4)).off+2,none⟩=some (.string m.code[j].cls):=by rw[G1 p2 (j*4) 1];exact hc2 2 _ rfl
   have k3:wr.cell? ⟨(p2.add (j*4)).block,(p2.add (j*4)).off+3,none⟩=some (.string m.code[j].mem):=by rw[G1 p2 (j*4) 2];exact hc2 3 _ rfl
   clear hc1 hc2;go_wp2_with fail
   go_quiet (fail)
   go_wp2_with fail
   go_roundw
   case rel=>exact⟨j+1,hlt,by go_num,fun a=>HQ.out a,K7 HGW.out (K3 _ _ _)⟩
   case measure=>simp[intOf];omega
  ·go_wp2_with fail
   go_loopw [7] (fun i wz=>∃j:Nat,j≤m.handlers.length∧i= .int .i64 j∧Hid (∀a,wz.cell? a=w3.cell? a)∧Hid (w3.grownBy wz none)) (fun i _=>m.handlers.length-(intOf i).toNat)
   case atStart=>exact⟨0,Nat.zero_le _,rfl,fun a=>HQ.out a,HGW.out⟩
   case round=>
    clear HQ HGW;obtain⟨j,hj,rfl,HQ,HGW⟩:=hrel;have e1:wr.cell? ⟨w.heap.size,7,none⟩=some (.slice r1a m.handlers.length r1k):=(HQ.out _).trans c7;have e2:wr.cell? ⟨w.heap.size+1,7,none⟩=some (.slice r2a m.handlers.length r2k):=(HQ.out _).trans d7;by_cases hlt:j<m.handlers.length
    ·obtain⟨p1,rfl,-,hc1⟩:=(hr1.out.keep HG3.out).keep HGW.out j hlt;obtain⟨p2,rfl,-,hc2⟩:=(hr2.out.keep HG3.out).keep HGW.out j hlt;have f0:wr.cell? (p1.add (j*4))=some (.int .i64 m.handlers[j].from_):=hc1 0 _ rfl;have f1:wr.cell? ⟨(p1.add (j*4)).block,(p1.add (j*4)).off+1,none⟩=some (.int .i64 m.handlers[j].to):=by rw[G1 p1 (j*4) 0];exact hc1 1 _ rfl
     have f2:wr.cell? ⟨(p1.add (j*4)).block,(p1.add (j*4)).off+2,none⟩=some (.int .i64 m.handlers[j].at_):=by rw[G1 p1 (j*4) 1];exact hc1 2 _ rfl
     have f3:wr.cell? ⟨(p1.add (j*4)).block,(p1.add (j*4)).off+3,none⟩=some (.string m.handlers[j].cls):=by rw[G1 p1 (j*4) 2];exact hc1 3 _ rfl
     have k0:wr.cell? (p2.add (j*4))=some (.int .i64 m.handlers[j].from_):=hc2 0 _ rfl;have k1:wr.cell? ⟨(p2.add (j*4)).block,(p2.add (j*4)).off+1,none⟩=some (.int .i64 m.handlers[j].to):=by rw[G1 p2 (j*4) 0];exact hc2 1 _ rfl
     have k2:wr.cell? ⟨(p2.add (j*4)).block,(p2.add (j*4)).off+2,none⟩=some (.int .i64 m.handlers[j].at_):=by rw[G1 p2 (j*4) 1];exact hc2 2 _ rfl
     have k3:wr.cell? ⟨(p2.add (j*4)).block,(p2.add (j*4)).off+3,none⟩=some (.string m.handlers[j].cls):=by rw[G1 p2 (j*4) 2];exact hc2 3 _ rfl
     clear hc1 hc2;go_wp2_with fail
     go_quiet (fail)
     go_wp2_with fail
     go_roundw
     case rel=>exact⟨j+1,hlt,by go_num,fun a=>HQ.out a,K7 HGW.out (K3 _ _ _)⟩
     case measure=>simp[intOf];omega
    ·go_wp2_with fail
     go_ret;exact⟨rfl,A1 HG3.out HGW.out⟩
end
end Go.Proofs.YtdhophglnhcjbaaGreatDoor
