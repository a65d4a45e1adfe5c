/- P24: a part of the proof that the last text tells. -/
import Derived.Test.YtdhophglnhcjbaaGreatDoorP23
import Derived.Test.YtdhophglnhcjbaaGreatDoorP21
set_option linter.all false
namespace Go.Proofs.YtdhophglnhcjbaaGreatDoor
open Go.RowKit Cf
def a2H(w:World)(lim:Nat)(a:Option Addr)(ms:List XMe):Prop:=
 ∀j (hj:j<ms.length),∃(p:Addr) (pa ca ha:Option Addr) (pk ck hk:Nat),a=some p∧p.block<lim∧C0 w lim 2 xTy pa ms[j].params∧C0 w lim 4 xIn ca ms[j].code∧C0 w lim 4 xHd ha ms[j].handlers∧
  ∀r u,([Value.string ms[j].name, .slice pa ms[j].params.length pk, .int .i64 ms[j].ret.kind, .string ms[j].ret.name, .int .i64 ms[j].stack, .int .i64 ms[j].locals, .slice ca ms[j].code.length ck, .slice ha ms[j].handlers.length hk]:List Value)[r]? =some u→w.cell? (p.add (j*8+r))=some u
variable {w w':World}
variable {b lim:Nat}
variable {a:Option Addr}
variable {ms:List XMe}
theorem a2H.keepP(h:a2H w lim a ms)(hk:G0 w w' b)(hl:lim≤b)(hb:b<w.heap.size):a2H w' lim a ms:=by
 intro j hj;obtain⟨p,pa,ca,ha,pk,ck,hhk,h1,h2,h3,h4,h5,h6⟩:=h j hj;exact⟨p,pa,ca,ha,pk,ck,hhk,h1,h2,h3.keepP hk hl hb,h4.keepP hk hl hb,h5.keepP hk hl hb,fun r u hu=>hk.cell (h6 r u hu) (by rw[a1l];omega) hb⟩
theorem a2H.keep(h:a2H w lim a ms)(hg:w.grownBy w' none):a2H w' lim a ms:=by
 intro j hj;obtain⟨p,pa,ca,ha,pk,ck,hhk,h1,h2,h3,h4,h5,h6⟩:=h j hj;exact⟨p,pa,ca,ha,pk,ck,hhk,h1,h2,h3.keep hg,h4.keep hg,h5.keep hg,fun r u hu=>hg.cell (h6 r u hu) (by simp)⟩
structure a4b(c:XCl):Prop where
 name:j8 c.name
 super:j8 c.super
 fields:∀j (hj:j<c.fields.length),b9L c.fields[j]
 methods:∀j (hj:j<c.methods.length),a7Z c.methods[j]
def b6(ms:List XMe):Nat:=(ms.map a0S).sum
def b1u(c:XCl):Nat:=10+5*c.fields.length+b6 c.methods
theorem b2T{j:Nat}(hj:j<ms.length):b6 (ms.take (j+1))=b6 (ms.take j)+a0S ms[j]:=by
 unfold b6;rw[List.take_succ_eq_append_getElem hj,List.map_append,List.sum_append];simp
theorem b4S(ms:List XMe)(j:Nat):b6 (ms.take j)≤b6 ms:=by
 have h:b6 ms=b6 (ms.take j)+b6 (ms.drop j):=by
  unfold b6;rw[←List.sum_append,←List.map_append,List.take_append_drop]
 omega
theorem b3R(ms:List XMe):ms.length≤b6 ms:=by
 unfold b6;induction ms with
 |nil=>simp
 |cons m l ih=>simp only[List.map_cons,List.sum_cons,List.length_cons];unfold a0S at*;omega
theorem b2X{t:T6}{s s':WS}(h:E1 t s=some s')(hs:∀x∈s.names,F4 x=true):∀x∈s'.names,F4 x=true:=by
 match t,h with
 |some (.inl (n,w)),h=>
  simp only[E1]at h;split at h
  ·cases h;exact hs
  ·cases h
 |none,h=>cases h
 |some (.inr y),h=>
  simp only[E1]at h;split at h
  ·rename_i hy;cases h;intro x hx;simp only[a0P]at hx;split at hx
   ·exact hs x hx
   ·rcases List.mem_append.1 hx with hx|hx
    ·exact hs x hx
    ·rw[List.mem_singleton.1 hx];exact hy.1
  ·cases h
theorem a8S:∀(l:List T6) {s s':WS},G4 l (some s)=some s'→(∀x∈s.names,F4 x=true)→∀x∈s'.names,F4 x=true
 | [],s,s',h,hs=>by cases h;exact hs
 |t::l,s,s',h,hs=>by
  rw[a3u]at h;cases ht:E1 t s with
  |none=>rw[Option.bind_some,ht,a9r]at h;cases h
  |some s1=>rw[Option.bind_some,ht]at h;exact a8S l h (b2X ht hs)
def a6f(r:Except Nat (List UInt8)):ByteArray:=match r with| .ok l=>⟨l.toArray⟩| .error _=>⟨#[]⟩
def b1v(r:Except Nat (List UInt8)):Nat:=match r with| .ok _=>0| .error n=>n
theorem b4K{wa wr:World}(h0:w.grownBy wa none)(hb:w.heap.size<b)(hk:G0 wa wr b):w.grownBy wr none:=
 ⟨hk.os.trans h0.os,hk.tape.trans h0.tape,hk.output.trans h0.output,Nat.le_trans h0.size hk.size,fun k hk1 _=>
  (hk.block k (Nat.lt_of_lt_of_le hk1 h0.size) (fun hm=>by rcases hm with h2|⟨h2,_⟩<;>omega)).trans (h0.block k hk1 (by simp))⟩
theorem a0N{x:ByteArray}(h:F4 x=true):x.size≤12:=by
 simp only[F4,Bool.and_eq_true,decide_eq_true_eq]at h;exact h.1.2
theorem b2p{l:List ByteArray}(h:∀x∈l,F4 x=true):(a1j l).length≤13*l.length:=by
 unfold a1j;induction l with
 |nil=>simp
 |cons x l ih=>
  have h1:=a0N (h x (by simp));have h2:=ih (fun y hy=>h y (by simp[hy]));have h3:x.data.toList.length=x.size:=by simp
  simp only[List.flatMap_cons,List.length_append,List.length_cons,h3];omega
theorem b7R(out:ByteArray)(l:List UInt8)(x:UInt8)(nm:ByteArray):(L6 out l++⟨#[x]⟩)++nm=L6 out (l++(x::nm.data.toList)):=by
 unfold L6;apply ByteArray.ext;simp
theorem b6w(x:UInt8):(⟨#[87,49]⟩:ByteArray)++⟨#[x]⟩=L6 ⟨#[87,49]⟩ [x]:=by
 unfold L6;apply ByteArray.ext;simp
theorem b5B(l:List ByteArray)(x:ByteArray):a1j (l++ [x])=a1j l++(UInt8.ofNat x.size::x.data.toList):=by
 unfold a1j;simp
theorem b6n(W:World)(z:Int)(T:TypeId):(convert 193 9 (.slice (some ⟨W.heap.size,0,none⟩) 1 1)).run Tryz.prog (W.alloc (.cells #[.int .u8 z] T))= .ok (.string ⟨#[UInt8.ofNat z.toNat]⟩) (W.alloc (.cells #[.int .u8 z] T)):=by
 rw[run_convert_bytes_string _ 193 9 5 _ 1 1 Tryz.underlying193 Tryz.underlying5 Tryz.underlying9]
 have hl:=run_loadCells_list (P:=Tryz.prog) (W.alloc (.cells #[.int .u8 z] T)) ⟨W.heap.size,0,none⟩ [.int .u8 z] (fun j v hj=>by
  have hj0:j=0:=by
   have:=(List.getElem?_eq_some_iff.1 hj).1;simp at this;omega
  subst hj0;have:=(A3.new W #[.int .u8 z] T).cell 0 _ rfl;simp at hj;subst hj;exact this)
 exact run_bytesToString _ _ 1 1 [z] hl
set_option maxRecDepth 100000 in
set_option maxHeartbeats 2000000 in
theorem b3r(w:World)(lim:Nat)(c:XCl)(fa ma:Option Addr)(fk mk:Nat)(hl:lim≤w.heap.size)(hm:Hid (a4b c))(hc:b1u c≤2^40)
 (hrf:Hid (C0 w lim 3 c0I fa c.fields)) (hrm:Hid (a2H w lim ma c.methods)):
 Calls Tryz.prog 65 #[.agg #[.string c.name, .string c.super, .slice fa c.fields.length fk, .slice ma c.methods.length mk]] w fun e w'=>e= .returned (.tuple #[.string (a6f (enc c)), .int .i64 (b1v (enc c))])∧w.grownBy w' none:=by
 have hcl:10+5*c.fields.length+b6 c.methods≤1099511627776:=by unfold b1u at hc;omega
 have hml:=b3R c.methods;have hn1:=hm.out.name;have hn2:=hm.out.super;obtain⟨b,hb⟩:∃b,b=w.heap.size+1:=⟨_,rfl⟩
 obtain⟨wa,hwa⟩:∃wa,wa=(w.alloc (.cells #[.string c.name, .string c.super, .slice fa c.fields.length fk, .slice ma c.methods.length mk] 44)).alloc (.cells #[.string ⟨#[]⟩, .slice none 0 0, .bool false] 234):=⟨_,rfl⟩
 have HB0:Hid (A3 wa w.heap.size #[.string c.name, .string c.super, .slice fa c.fields.length fk, .slice ma c.methods.length mk] 44):=by unfold Hid;rw[hwa];exact(A3.new w _ _).keep (A2 _ _ none) (by simp)
 have HG0:Hid (w.grownBy wa none):=by unfold Hid;rw[hwa];exact A1 (A2 _ _ _) (A2 _ _ _)
 have HP0:Hid (E8 wa b 0 (some ⟨[],[]⟩)):=by
  have hB:=A3.new (w.alloc (.cells #[.string c.name, .string c.super, .slice fa c.fields.length fk, .slice ma c.methods.length mk] 44)) #[.string ⟨#[]⟩, .slice none 0 0, .bool false] 234;simp only[a5n]at hB;rw[←hwa,←hb]at hB;exact⟨_,⟨#[]⟩,[],false,⟨hB,World.ownsRow_nil _ _ _ _⟩,Nat.le_refl 0,by simp,by omega,(fun s e=>by cases e;exact⟨rfl,rfl,rfl⟩),(fun e=>by cases e)⟩
 have hPb:w.heap.size<b:=by omega
 have hlb:lim≤b:=by omega
 have hbw:=HP0.out.lt;go_enter Tryz.func65,Tryz.ntmps65
 go_wp2_with (first
  |(go_at_call 111
    refine(T1 _ b _ _ (c.fields.length:Int) 1 (by omega) (by omega) HP2 (by omega)).mono ?_;rintro e w3 ⟨rfl,hk3,hp3⟩;have HP3:Hid (E8 w3 b 5 (((((some ⟨[],[]⟩:Option WS).bind (E1 (.nm c.name))).bind (E1 (.nm c.super)))).bind (E1 (.num (c.fields.length:Int) 1)))):=hp3.mono (by omega) (by omega);have HB3:=A0 (hk3.blk HB2.out (by omega) (by decide));have HK3:=A0 (HK2.out.trans hk3);clear hk3 hp3 HP2 HB2 HK2 d2;try dsimp only)
  |(go_at_call 110
    refine(a1N w1 b _ _ c.super hn2 HP1 (by omega)).mono ?_;rintro e w2 ⟨rfl,hk2,hp2⟩;have HP2:Hid (E8 w2 b 4 (((some ⟨[],[]⟩:Option WS).bind (E1 (.nm c.name))).bind (E1 (.nm c.super)))):=hp2.mono (by omega) (by omega);have HB2:=A0 (hk2.blk HB1.out (by omega) (by decide));have HK2:=A0 (HK1.out.trans hk2);have d2:=HB2.out.cell 2 _ rfl;clear hk2 hp2 HP1 HB1 HK1 d1;try dsimp only)
  |(go_at_call 110
    rw[←hb,←hwa];refine(a1N wa b 0 _ c.name hn1 HP0 (by omega)).mono ?_;rintro e w1 ⟨rfl,hk1,hp1⟩;have HP1:Hid (E8 w1 b 2 ((some ⟨[],[]⟩:Option WS).bind (E1 (.nm c.name)))):=hp1;have HB1:=A0 (hk1.blk HB0.out (by omega) (by decide));have HK1:=A0 hk1;have d1:=HB1.out.cell 1 _ rfl;have hKb:=A0 hb;clear hk1 hp1 HP0 HB0 hb hwa;try dsimp only))
 obtain⟨r3,hr3⟩:∃r3,r3=((((some ⟨[],[]⟩:Option WS).bind (E1 (.nm c.name))).bind (E1 (.nm c.super)))).bind (E1 (.num (c.fields.length:Int) 1)):=⟨_,rfl⟩
 rw[←hr3]at HP3;have HR3:=A0 hr3;clear hr3;have HRF:=A0 (hrf.out.keep HG0.out);have HRM:=A0 (hrm.out.keep HG0.out);go_loopw [5] (fun i wr=>∃j:Nat,j≤c.fields.length∧i= .int .i64 j∧E8 wr b (5+5*j) (G4 ((c.fields.take j).flatMap a4Q) r3)∧G0 wa wr b∧A3 wr w.heap.size #[.string c.name, .string c.super, .slice fa c.fields.length fk, .slice ma c.methods.length mk] 44) (fun i _=>c.fields.length-(intOf i).toNat)
 case atStart=>exact⟨0,Nat.zero_le _,rfl,HP3.out,HK3.out,HB3.out⟩
 case round=>
  clear HP3 HK3 HB3;obtain⟨j,hj,rfl,hps,hkp,hbk⟩:=hrel;have HS:=A0 hps;have HK:=A0 hkp;have HB:=A0 hbk;clear hps hkp hbk;have e1:=HB.out.cell 2 _ rfl;by_cases hlt:j<c.fields.length
  ·obtain⟨p,rfl,hp1,hpc⟩:=HRF.out.keepP HK.out hlb hbw j hlt;have hbr:=HS.out.lt;have hpb:p.block<b:=by omega
   have f0:wr.cell? (p.add (j*3))=some (.string c.fields[j].name):=hpc 0 _ rfl;have f1:wr.cell? ⟨(p.add (j*3)).block,(p.add (j*3)).off+1,none⟩=some (.int .i64 c.fields[j].ty.kind):=by rw[j6 p (j*3) 0];exact hpc 1 _ rfl
   have f2:wr.cell? ⟨(p.add (j*3)).block,(p.add (j*3)).off+2,none⟩=some (.string c.fields[j].ty.name):=by rw[j6 p (j*3) 1];exact hpc 2 _ rfl
   have hqb:(p.add (j*3)).block<b:=by rw[a1l];exact hpb
   clear hpc;have hok:=hm.out.fields j hlt
   go_wp2_with (first
    |(go_at_call 112
      refine(a6S w4 b _ _ c.fields[j].ty hok.2.1 hok.2.2 HS4 (by omega)).mono ?_;rintro e w5 ⟨rfl,hk5,hp5⟩;try dsimp only)
    |(go_at_call 110
      refine(a1N wr b _ _ c.fields[j].name hok.1 HS (by omega)).mono ?_;rintro e w4 ⟨rfl,hk4,hp4⟩;have HS4:=A0 hp4;have HB4:=A0 (hk4.blk HB.out (by omega) (by decide));have HK4:=A0 (HK.out.trans hk4);have g1:=hk4.cell f1 hqb hbr;have g2:=hk4.cell f2 hqb hbr;have e2:=HB4.out.cell 2 _ rfl;clear hk4 hp4 f0 f1 f2 e1;try dsimp only))
   have hfin:E8 w5 b (5+5*(j+1)) (G4 ((c.fields.take (j+1)).flatMap a4Q) r3):=by
    rw[a4y a4Q c.fields j hlt];exact hp5.mono (by omega) (by omega)
   exact⟨⟨j+1,hlt,by go_num,hfin,HK4.out.trans hk5,hk5.blk HB4.out (by omega) (by decide)⟩,by simp[intOf];omega⟩
  ·have hje:j=c.fields.length:=by omega
   subst hje;obtain⟨r4,hr4⟩:∃r4,r4=G4 (c.fields.flatMap a4Q) r3:=⟨_,rfl⟩
   have HR4:=A0 hr4
   have HS4:Hid (E8 wr b (5+5*c.fields.length) r4):=by
    have:=HS.out;rw[List.take_length,←hr4]at this;exact this
   clear hr4 HS;have e3:=HB.out.cell 3 _ rfl;go_wp2_with (go_at_call 111;refine(T1 wr b _ _ (c.methods.length:Int) 1 (by omega) (by omega) HS4 (by omega)).mono ?_;rintro e w5 ⟨rfl,hk5,hp5⟩;try dsimp only)
   obtain⟨r5,hr5⟩:∃r5,r5=r4.bind (E1 (.num (c.methods.length:Int) 1)):=⟨_,rfl⟩
   rw[←hr5]at hp5;have HR5:=A0 hr5;have HS5:Hid (E8 w5 b (6+5*c.fields.length) r5):=hp5.mono (by omega) (by omega);have HB5:=A0 (hk5.blk HB.out (by omega) (by decide));have HK5:=A0 (HK.out.trans hk5);clear hr5 hp5 hk5 HS4 HK HB e1 e3 hj hlt;go_loopw [6] (fun i wr=>∃j:Nat,j≤c.methods.length∧i= .int .i64 j∧E8 wr b (6+5*c.fields.length+b6 (c.methods.take j)) (G4 ((c.methods.take j).flatMap a2D) r5)∧G0 wa wr b∧A3 wr w.heap.size #[.string c.name, .string c.super, .slice fa c.fields.length fk, .slice ma c.methods.length mk] 44) (fun i _=>c.methods.length-(intOf i).toNat)
   case atStart=>exact⟨0,Nat.zero_le _,rfl,HS5.out,HK5.out,HB5.out⟩
   case round=>
    clear HS5 HK5 HB5;obtain⟨j,hj,rfl,hps,hkp,hbk⟩:=hrel;have HS:=A0 hps;have HK:=A0 hkp;have HB:=A0 hbk;clear hps hkp hbk;have e1:=HB.out.cell 3 _ rfl;by_cases hlt:j<c.methods.length
    ·obtain⟨p,pa,ca,ha,pk,ck,hhk,rfl,hp1,hq1,hq2,hq3,hpc⟩:=HRM.out.keepP HK.out hlb hbw j hlt;have f0:wr.cell? (p.add (j*8))=some (.string c.methods[j].name):=hpc 0 _ rfl;have f1:wr.cell? ⟨(p.add (j*8)).block,(p.add (j*8)).off+1,none⟩=some (.slice pa c.methods[j].params.length pk):=by rw[j6 p (j*8) 0];exact hpc 1 _ rfl
     have f2:wr.cell? ⟨(p.add (j*8)).block,(p.add (j*8)).off+2,none⟩=some (.int .i64 c.methods[j].ret.kind):=by rw[j6 p (j*8) 1];exact hpc 2 _ rfl
     have f3:wr.cell? ⟨(p.add (j*8)).block,(p.add (j*8)).off+3,none⟩=some (.string c.methods[j].ret.name):=by rw[j6 p (j*8) 2];exact hpc 3 _ rfl
     have f4:wr.cell? ⟨(p.add (j*8)).block,(p.add (j*8)).off+4,none⟩=some (.int .i64 c.methods[j].stack):=by rw[j6 p (j*8) 3];exact hpc 4 _ rfl
     have f5:wr.cell? ⟨(p.add (j*8)).block,(p.add (j*8)).off+5,none⟩=some (.int .i64 c.methods[j].locals):=by rw[j6 p (j*8) 4];exact hpc 5 _ rfl
     have f6:wr.cell? ⟨(p.add (j*8)).block,(p.add (j*8)).off+6,none⟩=some (.slice ca c.methods[j].code.length ck):=by rw[j6 p (j*8) 5];exact hpc 6 _ rfl
     have f7:wr.cell? ⟨(p.add (j*8)).block,(p.add (j*8)).off+7,none⟩=some (.slice ha c.methods[j].handlers.length hhk):=by rw[j6 p (j*8) 6];exact hpc 7 _ rfl
     clear hpc;have hct:=b2T hlt;have hcl2:=b4S c.methods (j+1);have hk2:6+5*c.fields.length+b6 (c.methods.take j)+a0S c.methods[j]≤2^40:=by omega
     have HQ1:=A0 hq1;have HQ2:=A0 hq2;have HQ3:=A0 hq3;have HOK:=A0 (hm.out.methods j hlt);clear hq1 hq2 hq3;go_wp2_with (go_at_call 113;refine(b3q wr b lim _ _ c.methods[j] pa ca ha pk ck hhk hlb HOK HS hk2 HQ1 HQ2 HQ3).mono ?_;rintro e w6 ⟨rfl,hk6,hp6⟩;try dsimp only)
     have hfin:E8 w6 b (6+5*c.fields.length+b6 (c.methods.take (j+1))) (G4 ((c.methods.take (j+1)).flatMap a2D) r5):=by
      rw[a4y a2D c.methods j hlt,hct,←Nat.add_assoc];exact hp6
     exact⟨⟨j+1,hlt,by go_num,hfin,HK.out.trans hk6,hk6.blk HB.out (by omega) (by decide)⟩,by simp[intOf];omega⟩
    ·have hje:j=c.methods.length:=by omega
     subst hje;obtain⟨r6,hr6⟩:∃r6,r6=G4 (a7X c) (some ⟨[],[]⟩):=⟨_,rfl⟩
     have HR6:=A0 hr6
     have HS6:Hid (E8 wr b (6+5*c.fields.length+b6 c.methods) r6):=by
      have:=HS.out;rw[List.take_length]at this
      have e:G4 (c.methods.flatMap a2D) r5=r6:=by
       rw[HR5.out,HR4.out,HR3.out,hr6];simp only[a7X,a3c,a3u,a4q,List.cons_append]
      rw[←e];exact this
     clear hr6 HS;have HG:=A0 (b4K HG0.out hPb HK.out);obtain⟨nv,out,names,bad,hP,h1,h2,h3,h4,h5⟩:=HS6.out;obtain⟨a,kk,rfl⟩:=F1 hP.own;have HP:=A0 hP;have g0:=hP.blk.cell 0 _ rfl;have g1:=hP.blk.cell 1 _ rfl;have g2:=hP.blk.cell 2 _ rfl;have hos:out.size≤4398046511104:=by omega
     have hnl:names.length≤1099511627776:=by omega
     clear h1 h2 h3 hP HS6 HK HB;cases r6 with
     |none=>
      have hbt:=h5 rfl;subst hbt;have HE:Hid (enc c= .error 19):=by unfold enc Hid;rw[←HR6.out]
      clear h4 h5;go_wp2_with fail
      go_ret2
      rw[HE.out];exact⟨rfl,HG.out⟩
     |some s=>
      obtain⟨q1,rfl,rfl⟩:=h4 s rfl;have HQ1:=A0 q1;have HNM:=A0 (a8S _ HR6.out.symm (by simp));clear h4 h5 q1;by_cases h255:255<s.names.length
      ·have HE:Hid (enc c= .error 19):=by unfold enc Hid;rw[←HR6.out];simp only[h255,if_true]
       go_wp2_with fail
       go_ret2
       rw[HE.out];exact⟨rfl,HG.out⟩
      ·have hbr:=HP.out.blk.lt;have hne:wr.heap.size≠b:=by omega
       have kc:=a5I;have kc0:=b6n;go_wp2_with fail
       have HPa:Hid (Pn (wr.alloc (.cells #[.int .u8 s.names.length] 5)) b (.slice a s.names.length kk) out s.names false):=HP.out.keep (A2 _ _ _);have HGa:Hid (w.grownBy (wr.alloc (.cells #[.int .u8 s.names.length] 5)) none):=A1 HG.out (A2 _ _ _);clear HP HG g0 g1 g2 hbr hne kc0;rw[b6w];go_loopw [7,8] (fun sv i wx=>∃j:Nat,j≤s.names.length∧i= .int .i64 j∧sv= .string (L6 ⟨#[87,49]⟩ (UInt8.ofNat s.names.length::a1j (s.names.take j)))∧Pn wx b (.slice a s.names.length kk) out s.names false∧w.grownBy wx none) (fun _ i _=>s.names.length-(intOf i).toNat)
       case atStart=>exact⟨0,Nat.zero_le _,rfl,rfl,HPa.out,HGa.out⟩
       case round=>
        clear HPa HGa;obtain⟨j,hj,rfl,rfl,hP,hg⟩:=hrel;have HP:=A0 hP;have HG:=A0 hg;have g0:=hP.blk.cell 0 _ rfl;have g1:=hP.blk.cell 1 _ rfl;have hbr:=hP.blk.lt;have hne:wr.heap.size≠b:=by omega
        obtain⟨cur,hcur⟩:∃cur,cur=L6 ⟨#[87,49]⟩ (UInt8.ofNat s.names.length::a1j (s.names.take j)):=⟨_,rfl⟩
        have hcs:cur.size≤4000:=by
         have:=b2p (l:=s.names.take j) (fun x hx=>HNM.out x (List.mem_of_mem_take hx));have h2:(s.names.take j).length≤255:=by rw[List.length_take];omega
         have h3:(ByteArray.mk #[87,49]).size=2:=rfl;rw[hcur,a4H,List.length_cons,h3];omega
        rw[←hcur];have HCU:=A0 hcur;clear hP hg hcur;by_cases hlt:j<s.names.length
        ·have hrow:∃g,a=some ⟨g,0,none⟩∧wr.cell? ⟨g,j,none⟩=some (.string s.names[j]):=by
          rcases a2X HP.out.own with⟨-,h2⟩|⟨g,cap,h1,-,hc⟩
          ·rw[h2]at hlt;cases hlt
          ·have:=hc j hlt;simp only[List.getD,List.getElem?_eq_getElem hlt,Option.getD_some]at this;exact⟨g,by injection h1,this⟩
         obtain⟨g,rfl,hc⟩:=hrow;have hgl:g<wr.heap.size:=World.block_lt_of_cell? _ _ hc;have hgn:wr.heap.size≠g:=by omega
         obtain⟨nm,hnm⟩:∃nm,nm=s.names[j]:=⟨_,rfl⟩
         rw[←hnm]at hc;have hns:nm.size≤12:=by rw[hnm];exact a0N (HNM.out _ (List.getElem_mem hlt))
         have HNX:Hid ((cur++⟨#[UInt8.ofNat nm.size]⟩)++nm=L6 ⟨#[87,49]⟩ (UInt8.ofNat s.names.length::a1j (s.names.take (j+1)))):=by
          unfold Hid;rw[HCU.out,b7R,List.take_succ_eq_append_getElem hlt,b5B,←hnm];rfl
         clear hnm;go_wp2_with fail
         go_region
         go_wp2_with fail
         exact⟨⟨j+1,hlt,by go_num,by rw[HNX.out],HP.out.keep (A1 (A2 _ _ _) (B8 _ _)),A1 HG.out (A1 (A2 _ _ _) (B8 _ _))⟩,by simp[intOf];omega⟩
        ·have hje:j=s.names.length:=by omega
         subst hje;obtain⟨file,hfile⟩:∃file,file=[87,49,UInt8.ofNat s.names.length]++a1j s.names++s.out:=⟨_,rfl⟩
         have HCO:Hid (cur++out=⟨file.toArray⟩):=by
          unfold Hid;rw[HCU.out,List.take_length,hfile,←HQ1.out];unfold L6;apply ByteArray.ext;simp
         have HE0:Hid (enc c=if 2048<file.length then .error 1 else .ok file):=by
          unfold enc Hid;rw[←HR6.out];dsimp only;rw[if_neg h255,hfile]
         clear hfile
         have HSZ:Hid (cur.size+out.size=file.length):=by
          have:=congrArg ByteArray.size HCO.out;rw[ByteArray.size_append]at this;unfold Hid;rw[this];unfold ByteArray.size;simp
         by_cases hbig:2048<file.length
         ·have HE:Hid (enc c= .error 1):=by unfold Hid;rw[HE0.out,if_pos hbig]
          have hb2:2048<cur.size+out.size:=by rw[HSZ.out];exact hbig
          clear hbig;go_wp2_with fail
          go_ret2
          rw[HE.out];exact⟨rfl,HG.out⟩
         ·have HE:Hid (enc c= .ok file):=by unfold Hid;rw[HE0.out,if_neg hbig]
          have hb2:¬2048<cur.size+out.size:=by rw[HSZ.out];exact hbig
          clear hbig;go_wp2_with fail
          go_ret2
          rw[HE.out];exact⟨by rw[HCO.out];rfl,HG.out⟩
open Go.RowKit Go.Shelf Cf
namespace Kx
def R8:Me:=⟨⟨#[109]⟩,[],P0,1,1,[⟨0,7,C3,C3⟩,⟨20,0,C3,C3⟩],[]⟩
def aCl:Cl:=⟨⟨#[65]⟩,D4,[],[R8]⟩
def aXm:XMe:=⟨⟨#[109]⟩,[],⟨1,C3⟩,1,1,[⟨0,7,C3,C3⟩,⟨20,0,C3,C3⟩],[]⟩
def aX:XCl:=⟨⟨#[65]⟩,D4,[],[aXm]⟩
abbrev aL:List Cl:=A5++ [aCl]
theorem b9F:b1v (enc aX)=0:=by kernel_rfl
theorem b9C:(a6f (enc aX)).size≤maxLen:=by decide
theorem c0D:F7 (a6f (enc aX))= .ok aCl:=by kernel_rfl
theorem b1z:F7 ⟨#[87]⟩= .error (2,1):=by kernel_rfl
theorem c0A:P7 [aCl]= .ok ():=by kernel_rfl
theorem b8J:f8 aL R8=none:=by kernel_rfl
theorem c1i:a0m aL R8 0 0=[(1,1)]:=by kernel_rfl
theorem c1h:a0m aL R8 1 1=[]:=by kernel_rfl
theorem c1l:Y5 aL R8 0 0=true:=by kernel_rfl
theorem c1k:Y5 aL R8 1 1=true:=by kernel_rfl
theorem b9E:C5 aL ⟨#[65]⟩=some 9:=by kernel_rfl
theorem a3d{a h:Nat}(hr:Cf.G3 aL R8 a h):(a=0∧h=0)∨(a=1∧h=1):=
 a5s (S:=fun a h=>(a=0∧h=0)∨(a=1∧h=1)) ⟨.inl ⟨rfl,rfl⟩,by
  rintro a h (⟨rfl,rfl⟩|⟨rfl,rfl⟩) p hp
  ·rw[c1i]at hp;rw[List.mem_singleton.1 hp];exact .inr ⟨rfl,rfl⟩
  ·rw[c1h]at hp;cases hp⟩ hr
theorem b8I(a:Nat):¬a0e aL R8 a:=by
 rintro(⟨h,hr,hb⟩|⟨⟨d,hd,-⟩,-,-⟩|⟨h,k,hne,h1,h2⟩)
 ·rcases a3d hr with⟨rfl,rfl⟩|⟨rfl,rfl⟩
  ·rw[c1l]at hb;cases hb
  ·rw[c1k]at hb;cases hb
 ·cases hd
 ·have e1:=a3d h1;have e2:=a3d h2;omega
def aS(a:Nat):List Ty:=if a=0 then [C9 ⟨#[65]⟩]else [C9 ⟨#[65]⟩,P0]
theorem b1E:E3 aL (C9 ⟨#[65]⟩):=⟨by simp[C9],by simp only[C9];rw[if_pos (.inl trivial)];exact⟨9,b9E⟩⟩
theorem c0w:E3 aL P0:=a3r (by omega) (by omega) (by omega)
theorem c0x:Sol aL ⟨#[65]⟩ R8 aS:=by
 refine⟨fun a h hr=> ?_,fun a h hr t ht=> ?_,?_,fun a h hr q hq=> ?_⟩
 ·rcases a3d hr with⟨rfl,rfl⟩|⟨rfl,rfl⟩<;>rfl
 ·rcases a3d hr with⟨rfl,rfl⟩|⟨rfl,rfl⟩
  ·rw[List.mem_singleton.1 ht];exact b1E
  ·rcases List.mem_cons.1 ht with rfl|ht
   ·exact b1E
   ·rw[List.mem_singleton.1 ht];exact c0w
 ·have e:a0A ⟨#[65]⟩ R8=aS 0:=by kernel_rfl
  rw[e];exact a9f _ _
 ·rcases a3d hr with⟨rfl,rfl⟩|⟨rfl,rfl⟩
  ·have e:a1A aL R8 0=[(1,goF aL R8 (A8 R8 0))]:=by kernel_rfl
   rw[e]at hq;rw[List.mem_singleton.1 hq];have e2:goF aL R8 (A8 R8 0) (aS 0)=aS 1:=by kernel_rfl
   show a2E aL (goF aL R8 (A8 R8 0) (aS 0)) (aS 1);rw[e2];exact a9f _ _
  ·have e:a1A aL R8 1=[]:=by kernel_rfl
   rw[e]at hq;cases hq
theorem c0E{er at_:Nat}(h:V9 aL ⟨#[65]⟩ R8 er at_):er=0:=by
 unfold V9 at h;rw[b8J]at h;obtain⟨f,hf,h⟩:=h;cases f with
 |some a=>exact absurd hf.2.1 (b8I a)
 |none=>
  obtain⟨T,hT,⟨k,-,-,hr,hfit,-⟩|⟨h1,-⟩⟩:=h
  ·exfalso;have hl:=hT.sol.shape _ _ hr;have hle:=hT.least aS c0x _ _ hr;rcases a3d hr with⟨rfl,rfl⟩|⟨rfl,rfl⟩
   ·obtain⟨x,hx⟩:=len1 (l:=T 0) hl;rw[hx]at hfit;have:j9 aL R8 (A8 R8 0) [] [x]=true:=by rfl
    have h2:j9 aL R8 (A8 R8 0) [] [x]=false:=hfit;rw[this]at h2;cases h2
   ·obtain⟨x,y,hx⟩:=len2 (l:=T 1) hl;rw[hx]at hfit hle;have hy:D0 aL y P0=true:=hle.2 1 (by simp);have:j9 aL R8 (A8 R8 1) [y] [x]=((D0 aL y P0&&true)&&true):=by rfl
    have h2:j9 aL R8 (A8 R8 1) [y] [x]=false:=hfit;rw[this,hy]at h2;cases h2
  ·exact h1
variable {F:ByteArray}
variable {B0:Nat}
variable {e:Ending}
variable {W w':World}
theorem b9D(hF:F7 F= .ok aCl)(h:a7Q B0 [F] e w'):∃P,e= .returned (.tuple #[.pointer (some ⟨P,0,none⟩), .int .i64 0, .agg #[.int .i64 0, .int .i64 0, .int .i64 0]]):=by
 rcases h with⟨h1,-⟩|⟨-,j,hj,er,hd,-⟩|⟨-,fs,hl,hd,h⟩
 ·simp at h1
 ·have:j=0:=by simpa using hj
  subst this;have hd2:F7 F= .error er:=hd;rw[hF]at hd2;cases hd2
 ·obtain⟨c,rfl⟩:∃c,fs=[c]:=by
   cases fs with
   |nil=>simp at hl
   |cons c l=>cases l with
    |nil=>exact⟨c,rfl⟩
    |cons d l=>simp at hl
  have hc:c=aCl:=by
   have h1:F7 F= .ok c:=hd 0 (by simp);rw[hF]at h1;exact(Except.ok.inj h1).symm
  subst hc;rcases h with⟨er,he,-⟩|⟨-,er,f,k,at_,hA,h⟩
  ·rw[c0A]at he;cases he
  ·have h0:er=0:=by
    rcases hA with⟨hne,h1,h2,h3,-⟩|⟨h0,-⟩
    ·have hf0:f=0:=by simpa using h1
     subst hf0
     have hk0:k=0:=by
      have:k<1:=h2;omega
     subst hk0;exact c0E h3
    ·exact h0
   rcases h with⟨hne,-⟩|⟨-,P,B,b,v,m1,m2,m3,qf,he,-⟩
   ·exact absurd h0 hne
   ·exact⟨P,he⟩
theorem b8N(h:a7Q B0 [⟨#[87]⟩] e w'):e= .returned (.tuple #[.pointer none, .int .i64 2, .agg #[.int .i64 0, .int .i64 0, .int .i64 1]]):=by
 rcases h with⟨h1,-⟩|⟨-,j,hj,er,hd,-,he⟩|⟨-,fs,hl,hd,h⟩
 ·simp at h1
 ·have:j=0:=by simpa using hj
  subst this;have hd2:F7 ⟨#[87]⟩= .error er:=hd;rw[b1z]at hd2;cases hd2;exact he
 ·have h1:F7 ⟨#[87]⟩= .ok (cl fs 0):=hd 0 (by simp);rw[b1z]at h1;cases h1
theorem b1n{B:Nat}{t:TypeId}(hb:A3 W B #[.string F] t):C0 W W.heap.size 1 P9 (some ⟨B,0,none⟩) [F]:=fun j hj=>by
 have:j=0:=by simpa using hj
 subst this;refine⟨⟨B,0,none⟩,rfl,hb.lt,fun r u hu=> ?_⟩
 have hr:r=0:=by
  have:=(List.getElem?_eq_some_iff.1 hu).1;simpa[P9]using this
 subst hr;exact hb.cell 0 u (by simpa[P9]using hu)
theorem a2G{s:ByteArray}(h:s.size≤12):j8 s:=Nat.le_trans h (by decide)
theorem c0C:T5 (⟨0,7,C3,C3⟩:XIn):=⟨by unfold X6;decide,by unfold X6;decide,a2G (by decide),a2G (by decide)⟩
theorem c0B:T5 (⟨20,0,C3,C3⟩:XIn):=⟨by unfold X6;decide,by unfold X6;decide,a2G (by decide),a2G (by decide)⟩
theorem c0z:a7Z aXm:=by
 refine⟨a2G (by decide),⟨by unfold X6;decide,a2G (by decide)⟩,by unfold X6;decide,by unfold X6;decide,fun j hj=>(by cases hj),fun j hj=> ?_,fun j hj=>(by cases hj)⟩
 have:j=0∨j=1:=by
  have:j<2:=hj;omega
 rcases this with rfl|rfl
 ·exact c0C
 ·exact c0B
theorem c0y:a4b aX:=by
 refine⟨a2G (by decide),a2G (by decide),fun j hj=>(by cases hj),fun j hj=> ?_⟩
 have:j=0:=by
  have:j<1:=hj;omega
 subst this;exact c0z
theorem c1j{B1 B3:Nat}(h1:A3 W B1 #[.int .i64 0, .int .i64 7, .string ⟨#[]⟩, .string ⟨#[]⟩, .int .i64 20, .int .i64 0, .string ⟨#[]⟩, .string ⟨#[]⟩] 120)(h3:A3 W B3 #[.string ⟨#[109]⟩, .slice none 0 0, .int .i64 1, .string ⟨#[]⟩, .int .i64 1, .int .i64 1, .slice (some ⟨B1,0,none⟩) 2 2, .slice none 0 0] 102):a2H W W.heap.size (some ⟨B3,0,none⟩) aX.methods:=fun j hj=>by
 have:j=0:=by
  have:j<1:=hj;omega
 subst this
 have hadd:∀B k:Nat,(⟨B,0,none⟩:Addr).add k=⟨B,k,none⟩:=fun B k=>by
  unfold Addr.add;split
  ·rename_i h;subst h;rfl
  ·simp
 refine⟨⟨B3,0,none⟩,none,some ⟨B1,0,none⟩,none,0,2,0,rfl,h3.lt,fun j hj=>(by cases hj),fun j hj=> ?_,fun j hj=>(by cases hj),fun r u hu=> ?_⟩
 ·have:j=0∨j=1:=by
   have:j<2:=hj;omega
  refine⟨⟨B1,0,none⟩,rfl,h1.lt,fun r u hu=> ?_⟩;have hr:r<4:=(List.getElem?_eq_some_iff.1 hu).1;rw[hadd];refine h1.cell _ u ?_;rcases this with rfl|rfl<;>rcases(by omega:r=0∨r=1∨r=2∨r=3)with rfl|rfl|rfl|rfl<;>exact hu
 ·have hr:r<8:=(List.getElem?_eq_some_iff.1 hu).1;rw[hadd];refine h3.cell _ u ?_;rcases(by omega:r=0∨r=1∨r=2∨r=3∨r=4∨r=5∨r=6∨r=7)with rfl|rfl|rfl|rfl|rfl|rfl|rfl|rfl<;>exact hu
set_option maxRecDepth 100000 in
set_option maxHeartbeats 40000000 in
theorem c1u(w:World)(hS:Hid (p9 w))(hBin:Hid (Bin w)):
 Calls Tryz.prog 33 #[] w fun e w'=>e= .returned (.bool true)∧w.grownBy w' none:=by
 obtain⟨F,hF⟩:∃F,F=a6f (enc aX):=⟨_,rfl⟩
 have HENC:Hid (∀(W:World) (B1 B3:Nat),A3 W B1 #[.int .i64 0, .int .i64 7, .string ⟨#[]⟩, .string ⟨#[]⟩, .int .i64 20, .int .i64 0, .string ⟨#[]⟩, .string ⟨#[]⟩] 120→A3 W B3 #[.string ⟨#[109]⟩, .slice none 0 0, .int .i64 1, .string ⟨#[]⟩, .int .i64 1, .int .i64 1, .slice (some ⟨B1,0,none⟩) 2 2, .slice none 0 0] 102→Calls Tryz.prog 65 #[.agg #[.string ⟨#[65]⟩, .string ⟨#[79,98,106,101,99,116]⟩, .slice none 0 0, .slice (some ⟨B3,0,none⟩) 1 1]] W fun e w'=>e= .returned (.tuple #[.string F, .int .i64 0])∧W.grownBy w' none):=fun W B1 B3 h1 h3=>by
  rw[hF];have h:=b3r W W.heap.size aX none (some ⟨B3,0,none⟩) 0 1 (Nat.le_refl _) c0y (by decide) (fun j hj=>(by cases hj)) (c1j h1 h3);rw[b9F]at h;exact h
 have HLA:Hid (∀(W:World) (B:Nat),w.grownBy W none→A3 W B #[.string F] 9→Calls Tryz.prog 31 #[.slice (some ⟨B,0,none⟩) 1 1, .bool true] W fun e w'=>(∃P,e= .returned (.tuple #[.pointer (some ⟨P,0,none⟩), .int .i64 0, .agg #[.int .i64 0, .int .i64 0, .int .i64 0]]))∧W.grownBy w' none):=fun W B hW hb=>by
  have h:=a9F W W.heap.size (Nat.le_refl _) [F] (some ⟨B,0,none⟩) 1 (b1n hb) (fun s hs=>by rw[List.mem_singleton.1 hs,hF];exact b9C) (hS.out.keep hW (by simp)) (hBin.out.keep hW);refine h.mono ?_;rintro e w' ⟨hg,hA⟩;exact⟨b9D (by rw[hF];exact c0D) hA,hg⟩
 have HLW:Hid (∀(W:World) (B:Nat),w.grownBy W none→A3 W B #[.string ⟨#[87]⟩] 9→Calls Tryz.prog 31 #[.slice (some ⟨B,0,none⟩) 1 1, .bool true] W fun e w'=>e= .returned (.tuple #[.pointer none, .int .i64 2, .agg #[.int .i64 0, .int .i64 0, .int .i64 1]])∧W.grownBy w' none):=fun W B hW hb=>by
  have h:=a9F W W.heap.size (Nat.le_refl _) [⟨#[87]⟩] (some ⟨B,0,none⟩) 1 (b1n hb) (fun s hs=>by rw[List.mem_singleton.1 hs];exact b1J (by decide)) (hS.out.keep hW (by simp)) (hBin.out.keep hW);refine h.mono ?_;rintro e w' ⟨hg,hA⟩;exact⟨b8N hA,hg⟩
 clear hF hS hBin;go_enter Tryz.func33,Tryz.ntmps33;have hb1:A3 (((w.alloc (.cells #[.int .i64 0, .int .i64 7, .string ⟨#[]⟩, .string ⟨#[]⟩, .int .i64 20, .int .i64 0, .string ⟨#[]⟩, .string ⟨#[]⟩] 120)).alloc (.cells #[.string ⟨#[109]⟩, .slice none 0 0, .int .i64 1, .string ⟨#[]⟩, .int .i64 1, .int .i64 1, .slice (some ⟨w.heap.size,0,none⟩) 2 2, .slice none 0 0] 102)).alloc (.cells #[.string ⟨#[109]⟩, .slice none 0 0, .int .i64 1, .string ⟨#[]⟩, .int .i64 1, .int .i64 1, .slice (some ⟨w.heap.size,0,none⟩) 2 2, .slice none 0 0] 102)) w.heap.size #[.int .i64 0, .int .i64 7, .string ⟨#[]⟩, .string ⟨#[]⟩, .int .i64 20, .int .i64 0, .string ⟨#[]⟩, .string ⟨#[]⟩] 120:=((A3.new w _ _).keep (A2 _ _ none) A7).keep (A2 _ _ none) A7
 have hb3:A3 (((w.alloc (.cells #[.int .i64 0, .int .i64 7, .string ⟨#[]⟩, .string ⟨#[]⟩, .int .i64 20, .int .i64 0, .string ⟨#[]⟩, .string ⟨#[]⟩] 120)).alloc (.cells #[.string ⟨#[109]⟩, .slice none 0 0, .int .i64 1, .string ⟨#[]⟩, .int .i64 1, .int .i64 1, .slice (some ⟨w.heap.size,0,none⟩) 2 2, .slice none 0 0] 102)).alloc (.cells #[.string ⟨#[109]⟩, .slice none 0 0, .int .i64 1, .string ⟨#[]⟩, .int .i64 1, .int .i64 1, .slice (some ⟨w.heap.size,0,none⟩) 2 2, .slice none 0 0] 102)) (w.heap.size+1+1) #[.string ⟨#[109]⟩, .slice none 0 0, .int .i64 1, .string ⟨#[]⟩, .int .i64 1, .int .i64 1, .slice (some ⟨w.heap.size,0,none⟩) 2 2, .slice none 0 0] 102:=by
  have:=A3.new ((w.alloc (.cells #[.int .i64 0, .int .i64 7, .string ⟨#[]⟩, .string ⟨#[]⟩, .int .i64 20, .int .i64 0, .string ⟨#[]⟩, .string ⟨#[]⟩] 120)).alloc (.cells #[.string ⟨#[109]⟩, .slice none 0 0, .int .i64 1, .string ⟨#[]⟩, .int .i64 1, .int .i64 1, .slice (some ⟨w.heap.size,0,none⟩) 2 2, .slice none 0 0] 102)) #[.string ⟨#[109]⟩, .slice none 0 0, .int .i64 1, .string ⟨#[]⟩, .int .i64 1, .int .i64 1, .slice (some ⟨w.heap.size,0,none⟩) 2 2, .slice none 0 0] 102;rw[World.size_alloc,World.size_alloc]at this;exact this
 have HG3:Hid (w.grownBy (((w.alloc (.cells #[.int .i64 0, .int .i64 7, .string ⟨#[]⟩, .string ⟨#[]⟩, .int .i64 20, .int .i64 0, .string ⟨#[]⟩, .string ⟨#[]⟩] 120)).alloc (.cells #[.string ⟨#[109]⟩, .slice none 0 0, .int .i64 1, .string ⟨#[]⟩, .int .i64 1, .int .i64 1, .slice (some ⟨w.heap.size,0,none⟩) 2 2, .slice none 0 0] 102)).alloc (.cells #[.string ⟨#[109]⟩, .slice none 0 0, .int .i64 1, .string ⟨#[]⟩, .int .i64 1, .int .i64 1, .slice (some ⟨w.heap.size,0,none⟩) 2 2, .slice none 0 0] 102)) none):=A1 (A1 (A2 _ _ _) (A2 _ _ _)) (A2 _ _ _);have HENC3:=HENC.out _ _ _ hb1 hb3;have HENC3:=A0 HENC3;clear hb1 hb3;go_wp2_with (go_at_call 65;go_loud (refine HENC3.out.mono ?_;rintro e w4 ⟨rfl,hg4⟩))
 have HG4:=A0 (A1 HG3.out hg4);have HL5:=HLA.out (w4.alloc (.cells #[.string F] 9)) w4.heap.size (A1 HG4.out (A2 _ _ none)) (A3.new w4 _ _);have HL5:=A0 HL5;clear hg4;go_upto_region 4 with(go_at_call 31;go_loud (refine HL5.out.mono ?_;rintro e w5 ⟨⟨P,rfl⟩,hg5⟩))
 have HG5:=A0 (A1 (A1 HG4.out (A2 _ _ none)) hg5);have hg6:=A1 HG5.out (A2 w5 (.cells #[.int .i64 0, .int .i64 0, .int .i64 0] 78) none);generalize w5.alloc (.cells #[.int .i64 0, .int .i64 0, .int .i64 0] 78)=w6 at hg6⊢;have HG6:=A0 hg6;have HL7:=A0 (HLW.out (w6.alloc (.cells #[.string ⟨#[87]⟩] 9)) w6.heap.size (A1 HG6.out (A2 _ _ none)) (A3.new w6 _ _));clear hg5 hg6;go_wp2_with (go_at_call 31;go_loud (refine HL7.out.mono ?_;rintro e w7 ⟨rfl,hg7⟩))
 have hg8:=A1 (A1 (A1 HG6.out (A2 _ _ none)) hg7) (A2 w7 (.cells #[.int .i64 0, .int .i64 0, .int .i64 1] 78) none);go_ret;exact⟨rfl,hg8⟩
end Kx
end Go.Proofs.YtdhophglnhcjbaaGreatDoor
