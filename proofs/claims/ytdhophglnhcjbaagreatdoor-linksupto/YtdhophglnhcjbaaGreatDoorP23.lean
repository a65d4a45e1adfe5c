/- P23: a part of the proof that the last text tells. -/
import Derived.Test.YtdhophglnhcjbaaGreatDoorP10
import Derived.Test.YtdhophglnhcjbaaGreatDoorP22
import Derived.Test.YtdhophglnhcjbaaGreatDoorP01
set_option linter.all false
namespace Go.Proofs.YtdhophglnhcjbaaGreatDoor
open Go.RowKit Cf
structure Pn(w:World)(b:Nat)(nv:Value)(out:ByteArray)(names:List ByteArray)(bad:Bool):Prop where
 blk:A3 w b #[.string out,nv, .bool bad] 234
 own:w.ownsRow (b+1) 9 1 nv names.length (names.map Value.string)
set_option maxHeartbeats 400000 in
theorem b4q(w:World)(b:Nat)(nv:Value)(out:ByteArray)(names:List ByteArray)(bad:Bool)(n:Int)(m:Nat)(hm:m=1∨m=2∨m=4)(hn: -9223372036854775808≤n∧n≤9223372036854775807)(h:Hid (Pn w b nv out names bad))(hr:¬(0≤n∧n<256^m)):
 Calls Tryz.prog 111 #[.pointer (some ⟨b,0,none⟩), .int .i64 n, .int .i64 m] w fun e w'=>e= .returned (.tuple #[])∧w.grownBy w' (some b)∧Pn w' b nv out names true:=by
 have hP:=h.out;have c2:=hP.blk.cell 2 _ rfl;have z2:=hP.blk.frozen 2;have HF:Hid (Pn (w.setCell ⟨b,2,none⟩ (.bool true)) b nv out names true):=⟨hP.blk.set 2 _,hP.own.kept (A6 w ⟨b,2,none⟩ _) (.inr (E9 hP.own (Nat.lt_succ_self _)))⟩
 clear hP;rcases hm with rfl|rfl|rfl
 ·have hr':n<0∨256≤n:=by omega
  clear hr;go_enter Tryz.func111,Tryz.ntmps111;rcases hr' with hr'|hr'
  all_goals
   go_wp2_with fail
   all_goals
    refine bodyPost_ret (results_none rfl _ _ _) rfl ?_;exact⟨rfl,A6 _ ⟨b,2,none⟩ _,HF.out⟩
 ·have hr':n<0∨65536≤n:=by omega
  clear hr;go_enter Tryz.func111,Tryz.ntmps111;rcases hr' with hr'|hr'
  all_goals
   go_wp2_with fail
   all_goals
    refine bodyPost_ret (results_none rfl _ _ _) rfl ?_;exact⟨rfl,A6 _ ⟨b,2,none⟩ _,HF.out⟩
 ·have hr':n<0∨4294967296≤n:=by omega
  clear hr;go_enter Tryz.func111,Tryz.ntmps111;rcases hr' with hr'|hr'
  all_goals
   go_wp2_with fail
   all_goals
    refine bodyPost_ret (results_none rfl _ _ _) rfl ?_;exact⟨rfl,A6 _ ⟨b,2,none⟩ _,HF.out⟩
theorem a5I(W:World)(z:Int)(T:TypeId):(convert 193 9 (.slice (some ⟨W.heap.size,0,none⟩) 1 1)).run Tryz.prog (W.alloc (.cells #[.int .u8 z] T)).drew= .ok (.string ⟨#[UInt8.ofNat z.toNat]⟩) (W.alloc (.cells #[.int .u8 z] T)).drew:=by
 rw[run_convert_bytes_string _ 193 9 5 _ 1 1 Tryz.underlying193 Tryz.underlying5 Tryz.underlying9]
 have hl:=run_loadCells_list (P:=Tryz.prog) (W.alloc (.cells #[.int .u8 z] T)).drew ⟨W.heap.size,0,none⟩ [.int .u8 z] (fun j v hj=>by
  have hj0:j=0:=by
   have:=(List.getElem?_eq_some_iff.1 hj).1;simp at this;omega
  subst hj0;have:=(A3.new W #[.int .u8 z] T).cell 0 _ rfl;simp at hj;subst hj;exact this)
 exact run_bytesToString _ _ 1 1 [z] hl
def L6(out:ByteArray)(l:List UInt8):ByteArray:=⟨(out.data.toList++l).toArray⟩
theorem a4H(out:ByteArray)(l:List UInt8):(L6 out l).size=out.size+l.length:=by
 unfold L6 ByteArray.size;simp
theorem a2Y(out:ByteArray)(l:List UInt8)(x:UInt8):L6 out l++⟨#[x]⟩=L6 out (l++ [x]):=by
 unfold L6;apply ByteArray.ext;simp
variable {w w':World}
variable {b k sz:Nat}
variable {nv v:Value}
variable {l names:List ByteArray}
variable {bad:Bool}
theorem Pn.put{cur:ByteArray}(h:Pn w b nv cur names bad)(s':ByteArray)(o:Obj):
 Pn (((w.setCell ⟨b,0,none⟩ (.string s')).alloc o).drew) b nv s' names bad∧w.grownBy (((w.setCell ⟨b,0,none⟩ (.string s')).alloc o).drew) (some b):=by
 have hg:(w.setCell ⟨b,0,none⟩ (.string s')).grownBy (((w.setCell ⟨b,0,none⟩ (.string s')).alloc o).drew) none:=A1 (A2 _ _ _) (B8 _ _);exact⟨⟨(h.blk.set 0 _).keep hg (by simp),(h.own.kept (A6 w ⟨b,0,none⟩ _) (.inr (E9 h.own (Nat.lt_succ_self _)))).kept hg (by cases nv.ownBlock<;>simp)⟩,K2 (A6 w ⟨b,0,none⟩ _) hg⟩
theorem a6d(x:Nat):UInt8.ofNat (x % 256)=UInt8.ofNat x:=by
 apply UInt8.toNat_inj.1;simp
set_option maxHeartbeats 400000 in
theorem b2J(w:World)(b:Nat)(nv:Value)(out:ByteArray)(names:List ByteArray)(bad:Bool)(n:Nat)(h:Hid (Pn w b nv out names bad))(hr:n<256)(hz:out.size≤2^43):
 Calls Tryz.prog 111 #[.pointer (some ⟨b,0,none⟩), .int .i64 n, .int .i64 1] w fun e w'=>e= .returned (.tuple #[])∧w.grownBy w' (some b)∧Pn w' b nv (L6 out (O4 1 n)) names bad:=by
 have kc:=a5I;go_enter Tryz.func111,Tryz.ntmps111;go_wp2_with fail
 go_loopw [6] (fun i wr=>∃j:Nat,j≤1∧i= .int .i64 ((j:Int)-1)∧Pn wr b nv (L6 out ((O4 1 n).take (1-j))) names bad∧w.grownBy wr (some b)) (fun i _=>(intOf i+1).toNat)
 case atStart=>exact⟨1,by omega,rfl,by simpa[L6]using h.out,G1 _ _⟩
 case round=>
  obtain⟨j,hj,rfl,hP,hg⟩:=hrel;have HG:=A0 hg;obtain⟨cur,hcur⟩:∃cur,cur=L6 out ((O4 1 n).take (1-j)):=⟨_,rfl⟩
  have hcs:cur.size≤17592186044416:=by rw[hcur,a4H];simp[a2v];omega
  rw[←hcur]at hP;have HC:=A0 hcur;clear hcur;have c0:=hP.blk.cell 0 _ rfl;have z0:=hP.blk.frozen 0;have hbl:=hP.blk.lt;have hne:wr.heap.size≠b:=by omega
  have HQ:=A0 hP;clear hP hg;have hj5:j=0∨j=1:=by omega
  rcases hj5 with rfl|rfl
  ·go_wp2_with fail
   go_end0;have:=HQ.out;rw[HC.out,List.take_of_length_le (by simp[a2v])]at this;exact⟨rfl,HG.out,this⟩
  ·have e:cur++⟨#[UInt8.ofNat (n)]⟩=L6 out ((O4 1 n).take (1-0)):=by rw[HC.out,a2Y];first|rfl|simp[O4]
   have HE:=A0 e;clear e;go_wp2_with fail
   go_region
   go_wp2_with fail
   refine⟨⟨0,by omega,rfl,?_,A1 HG.out (HQ.out.put _ _).2⟩,by simp[intOf]⟩;rw[←HE.out];exact(HQ.out.put _ _).1
set_option maxHeartbeats 400000 in
theorem b2I(w:World)(b:Nat)(nv:Value)(out:ByteArray)(names:List ByteArray)(bad:Bool)(n:Nat)(h:Hid (Pn w b nv out names bad))(hr:n<65536)(hz:out.size≤2^43):
 Calls Tryz.prog 111 #[.pointer (some ⟨b,0,none⟩), .int .i64 n, .int .i64 2] w fun e w'=>e= .returned (.tuple #[])∧w.grownBy w' (some b)∧Pn w' b nv (L6 out (O4 2 n)) names bad:=by
 have kc:=a5I;go_enter Tryz.func111,Tryz.ntmps111;go_wp2_with fail
 go_loopw [6] (fun i wr=>∃j:Nat,j≤2∧i= .int .i64 ((j:Int)-1)∧Pn wr b nv (L6 out ((O4 2 n).take (2-j))) names bad∧w.grownBy wr (some b)) (fun i _=>(intOf i+1).toNat)
 case atStart=>exact⟨2,by omega,rfl,by simpa[L6]using h.out,G1 _ _⟩
 case round=>
  obtain⟨j,hj,rfl,hP,hg⟩:=hrel;have HG:=A0 hg;obtain⟨cur,hcur⟩:∃cur,cur=L6 out ((O4 2 n).take (2-j)):=⟨_,rfl⟩
  have hcs:cur.size≤17592186044416:=by rw[hcur,a4H];simp[a2v];omega
  rw[←hcur]at hP;have HC:=A0 hcur;clear hcur;have c0:=hP.blk.cell 0 _ rfl;have z0:=hP.blk.frozen 0;have hbl:=hP.blk.lt;have hne:wr.heap.size≠b:=by omega
  have HQ:=A0 hP;clear hP hg;have hj5:j=0∨j=1∨j=2:=by omega
  rcases hj5 with rfl|rfl|rfl
  ·go_wp2_with fail
   go_end0;have:=HQ.out;rw[HC.out,List.take_of_length_le (by simp[a2v])]at this;exact⟨rfl,HG.out,this⟩
  ·have e:cur++⟨#[UInt8.ofNat (n % 256)]⟩=L6 out ((O4 2 n).take (2-0)):=by rw[HC.out,a2Y,a6d];first|rfl|simp[O4]
   have HE:=A0 e;clear e;go_wp2_with fail
   go_region
   go_wp2_with fail
   refine⟨⟨0,by omega,rfl,?_,A1 HG.out (HQ.out.put _ _).2⟩,by simp[intOf]⟩;rw[←HE.out];exact(HQ.out.put _ _).1
  ·have e:cur++⟨#[UInt8.ofNat (n/256)]⟩=L6 out ((O4 2 n).take (2-1)):=by rw[HC.out,a2Y];first|rfl|simp[O4]
   have HE:=A0 e;clear e;go_wp2_with fail
   go_region
   go_wp2_with fail
   refine⟨⟨1,by omega,rfl,?_,A1 HG.out (HQ.out.put _ _).2⟩,by simp[intOf]⟩;rw[←HE.out];exact(HQ.out.put _ _).1
set_option maxHeartbeats 400000 in
theorem b2H(w:World)(b:Nat)(nv:Value)(out:ByteArray)(names:List ByteArray)(bad:Bool)(n:Nat)(h:Hid (Pn w b nv out names bad))(hr:n<4294967296)(hz:out.size≤2^43):
 Calls Tryz.prog 111 #[.pointer (some ⟨b,0,none⟩), .int .i64 n, .int .i64 4] w fun e w'=>e= .returned (.tuple #[])∧w.grownBy w' (some b)∧Pn w' b nv (L6 out (O4 4 n)) names bad:=by
 have kc:=a5I;go_enter Tryz.func111,Tryz.ntmps111;go_wp2_with fail
 go_loopw [6] (fun i wr=>∃j:Nat,j≤4∧i= .int .i64 ((j:Int)-1)∧Pn wr b nv (L6 out ((O4 4 n).take (4-j))) names bad∧w.grownBy wr (some b)) (fun i _=>(intOf i+1).toNat)
 case atStart=>exact⟨4,by omega,rfl,by simpa[L6]using h.out,G1 _ _⟩
 case round=>
  obtain⟨j,hj,rfl,hP,hg⟩:=hrel;have HG:=A0 hg;obtain⟨cur,hcur⟩:∃cur,cur=L6 out ((O4 4 n).take (4-j)):=⟨_,rfl⟩
  have hcs:cur.size≤17592186044416:=by rw[hcur,a4H];simp[a2v];omega
  rw[←hcur]at hP;have HC:=A0 hcur;clear hcur;have c0:=hP.blk.cell 0 _ rfl;have z0:=hP.blk.frozen 0;have hbl:=hP.blk.lt;have hne:wr.heap.size≠b:=by omega
  have HQ:=A0 hP;clear hP hg;have hj5:j=0∨j=1∨j=2∨j=3∨j=4:=by omega
  rcases hj5 with rfl|rfl|rfl|rfl|rfl
  ·go_wp2_with fail
   go_end0;have:=HQ.out;rw[HC.out,List.take_of_length_le (by simp[a2v])]at this;exact⟨rfl,HG.out,this⟩
  ·have e:cur++⟨#[UInt8.ofNat (n % 256)]⟩=L6 out ((O4 4 n).take (4-0)):=by rw[HC.out,a2Y,a6d];first|rfl|simp[O4]
   have HE:=A0 e;clear e;go_wp2_with fail
   go_region
   go_wp2_with fail
   refine⟨⟨0,by omega,rfl,?_,A1 HG.out (HQ.out.put _ _).2⟩,by simp[intOf]⟩;rw[←HE.out];exact(HQ.out.put _ _).1
  ·have e:cur++⟨#[UInt8.ofNat (n/256 % 256)]⟩=L6 out ((O4 4 n).take (4-1)):=by rw[HC.out,a2Y,a6d];first|rfl|simp[O4]
   have HE:=A0 e;clear e;go_wp2_with fail
   go_region
   go_wp2_with fail
   refine⟨⟨1,by omega,rfl,?_,A1 HG.out (HQ.out.put _ _).2⟩,by simp[intOf]⟩;rw[←HE.out];exact(HQ.out.put _ _).1
  ·have e:cur++⟨#[UInt8.ofNat (n/65536 % 256)]⟩=L6 out ((O4 4 n).take (4-2)):=by rw[HC.out,a2Y,a6d];first|rfl|simp[O4]
   have HE:=A0 e;clear e;go_wp2_with fail
   go_region
   go_wp2_with fail
   refine⟨⟨2,by omega,rfl,?_,A1 HG.out (HQ.out.put _ _).2⟩,by simp[intOf]⟩;rw[←HE.out];exact(HQ.out.put _ _).1
  ·have e:cur++⟨#[UInt8.ofNat (n/16777216)]⟩=L6 out ((O4 4 n).take (4-3)):=by rw[HC.out,a2Y];first|rfl|simp[O4]
   have HE:=A0 e;clear e;go_wp2_with fail
   go_region
   go_wp2_with fail
   refine⟨⟨3,by omega,rfl,?_,A1 HG.out (HQ.out.put _ _).2⟩,by simp[intOf]⟩;rw[←HE.out];exact(HQ.out.put _ _).1
def a7J(w:World)(b k:Nat):Prop:=k=b∨(b<k∧∃cs fr,w.heap[k]? =some (.cells cs 9 fr))
structure G0(w w':World)(b:Nat):Prop where
 os:w'.os=w.os
 tape:w'.tape=w.tape
 output:w'.output=w.output
 size:w.heap.size≤w'.heap.size
 block:∀k,k<w.heap.size→¬a7J w b k→w'.heap[k]? =w.heap[k]?
theorem G0.refl(w:World)(b:Nat):G0 w w b:=⟨rfl,rfl,rfl,Nat.le_refl _,fun _ _ _=>rfl⟩
theorem G0.trans{w1 w2:World}(h:G0 w w1 b)(h1:G0 w1 w2 b):G0 w w2 b:=
 ⟨h1.os.trans h.os,h1.tape.trans h.tape,h1.output.trans h.output,Nat.le_trans h.size h1.size,fun k hk hm=>by
  have e:=h.block k hk hm;refine(h1.block k (Nat.lt_of_lt_of_le hk h.size) (fun hm1=>hm ?_)).trans e;rcases hm1 with h2|⟨h2,cs,fr,h3⟩
  ·exact .inl h2
  ·exact .inr ⟨h2,cs,fr,by rw[←e];exact h3⟩⟩
theorem G0.of{row:Option Nat}(h:w.grownBy w' row)(hr:∀k,row=some k→k<w.heap.size→a7J w b k):G0 w w' b:=
 ⟨h.os,h.tape,h.output,h.size,fun k hk hm=>h.block k hk (fun e=>hm (hr k e.symm hk))⟩
theorem G0.ofNone(h:w.grownBy w' none):G0 w w' b:=G0.of h (fun _ e=>by cases e)
theorem G0.ofB(h:w.grownBy w' (some b)):G0 w w' b:=G0.of h (fun k e _=> .inl (by cases e;rfl))
theorem G0.blk{g:Nat}{cs:Array Value}{t:TypeId}(h:G0 w w' b)(hb:A3 w g cs t)(hg:g≠b)(ht:t≠9):A3 w' g cs t:=
 (h.block g hb.lt (fun hm=>by
   rcases hm with h2|⟨_,cs',fr,h3⟩
   ·exact hg h2
   ·have:some (Obj.cells cs t (0,0))=some (Obj.cells cs' 9 fr):=by rw[←h3];exact hb.symm
    simp at this;exact ht this.2.1)).trans hb
theorem G0.cell{a:Addr}(h:G0 w w' b)(hc:w.cell? a=some v)(ha:a.block<b)(hb:b<w.heap.size):w'.cell? a=some v:=by
 rw[World.cell?_of_block (h.block a.block (by omega) (fun hm=>by rcases hm with h2|⟨h2,_⟩<;>omega))];exact hc
def E8(w:World)(b:Nat)(k:Nat)(r:Option WS):Prop:=
 ∃nv out names bad,Pn w b nv out names bad∧out.size≤4*k∧names.length≤k∧k≤2^40∧
  (∀s,r=some s→out.data.toList=s.out∧names=s.names∧bad=false)∧(r=none→bad=true)
variable {r:Option WS}
theorem E8.mono{k':Nat}(h:E8 w b k r)(hk:k≤k')(h2:k'≤2^40):E8 w b k' r:=by
 obtain⟨nv,out,names,bad,hP,h1,h3,h4,h5,h6⟩:=h;exact⟨nv,out,names,bad,hP,by omega,by omega,h2,h5,h6⟩
variable {out s:ByteArray}
theorem Pn.keep(h:Pn w b nv out names bad)(hg:w.grownBy w' none):Pn w' b nv out names bad:=
 ⟨h.blk.keep hg (by simp),h.own.kept hg (by cases nv.ownBlock<;>simp)⟩
theorem E8.keep(h:E8 w b k r)(hg:w.grownBy w' none):E8 w' b k r:=by
 obtain⟨nv,out,names,bad,hP,h1⟩:=h;exact⟨nv,out,names,bad,hP.keep hg,h1⟩
theorem E8.lt(h:E8 w b k r):b<w.heap.size:=by
 obtain⟨nv,out,names,bad,hP,h1⟩:=h;exact hP.blk.lt
theorem T1(w:World)(b:Nat)(k:Nat)(r:Option WS)(n:Int)(m:Nat)(hm:m=1∨m=2∨m=4)(hn: -9223372036854775808≤n∧n≤9223372036854775807)(h:Hid (E8 w b k r))(hk:k+1≤2^40):
 Calls Tryz.prog 111 #[.pointer (some ⟨b,0,none⟩), .int .i64 n, .int .i64 m] w fun e w'=>e= .returned (.tuple #[])∧G0 w w' b∧E8 w' b (k+1) (r.bind (E1 (.num n m))):=by
 obtain⟨nv,out,names,bad,hP,h1,h2,h3,h4,h5⟩:=h.out;by_cases hr:0≤n∧n<256^m
 ·obtain⟨x,rfl⟩:∃x:Nat,n=x:=⟨n.toNat,by omega⟩
  have key:Calls Tryz.prog 111 #[.pointer (some ⟨b,0,none⟩), .int .i64 x, .int .i64 m] w fun e w'=>e= .returned (.tuple #[])∧w.grownBy w' (some b)∧Pn w' b nv (L6 out (O4 m x)) names bad:=by
   rcases hm with rfl|rfl|rfl
   ·exact b2J w b nv out names bad x hP (by omega) (by omega)
   ·exact b2I w b nv out names bad x hP (by omega) (by omega)
   ·exact b2H w b nv out names bad x hP (by omega) (by omega)
  refine key.mono ?_;rintro e w' ⟨rfl,hg,hP'⟩;have hm4:m≤4:=by omega
  refine⟨rfl, .ofB hg,nv,L6 out (O4 m x),names,bad,hP',by rw[a4H,a2v];omega,by omega,hk,?_,?_⟩
  ·intro s hs;cases r with
   |none=>cases hs
   |some s0=>
    obtain⟨g1,g2,g3⟩:=h4 s0 rfl;simp only[Option.bind_some,E1,hr,and_self,if_true,Option.some.injEq]at hs;subst hs;exact⟨by simp[L6,g1],g2,g3⟩
  ·intro hs;cases r with
   |none=>exact h5 rfl
   |some s0=>simp[E1,hr]at hs
 ·refine(b4q w b nv out names bad n m hm hn hP hr).mono ?_;rintro e w' ⟨rfl,hg,hP'⟩;refine⟨rfl, .ofB hg,nv,out,names,true,hP',by omega,by omega,hk,?_,fun _=>rfl⟩;intro s hs;cases r with
  |none=>cases hs
  |some s0=>simp[E1,hr]at hs
set_option maxHeartbeats 400000 in
theorem a8C(s:ByteArray)(w:World)(hs:s.size≤1099511627776):
 Calls Tryz.prog 173 #[.string s] w fun e w'=>e= .returned (.bool (F4 s))∧w=w':=by
 go_enter Tryz.func173,Tryz.ntmps173;go_wp2_with fail
 go_loop [3] (fun i=>∃k:Nat,k≤s.size∧i= .int .i64 k∧Hid (∀j (hj:j<s.size),j<k→j1 s.data[j]=true)) (fun i=>s.size-(intOf i).toNat)
 case atStart=>exact⟨0,by omega,rfl,fun j hj h=>by omega⟩
 case round=>
  obtain⟨k,hk,rfl,hall⟩:=hrel;by_cases hlt:k<s.size
  ·obtain⟨a,ha⟩:∃a,(s[k]'hlt).toNat=a:=⟨_,rfl⟩
   have HA:=A0 ha
   have hkey:Hid ((97≤a∧a≤122∨65≤a∧a≤90∨48≤a∧a≤57)→∀j (hj:j<s.size),j<k+1→j1 s.data[j]=true):=by
    intro h j hj hk;by_cases e:j=k
    ·subst e;exact b0k _ HA.out h
    ·exact hall.out j hj (by omega)
   have hend:Hid (s.size-(intOf (Value.int IntKind.i64 ((k:Int)+1))).toNat<s.size-(intOf (Value.int IntKind.i64 (k:Int))).toNat):=by unfold Hid;simp[intOf];omega
   by_cases hyes:97≤a∧a≤122∨65≤a∧a≤90∨48≤a∧a≤57
   ·have HY:=A0 hyes;clear hyes;go_wp2_with fail
    all_goals first
     |exact⟨⟨k+1,hlt,by go_num,hkey.out HY.out⟩,hend.out⟩
     |(exfalso;have:=HY.out;try simp only[Bool.not_eq_true',decide_eq_false_iff_not]at*
       omega)
   ·have HN:=A0 hyes;clear hyes;go_wp2_with fail
    all_goals first
     |(go_ret;exact⟨by rw[a6J k hlt (b0S _ HA.out HN.out)];rfl,rfl⟩)
     |(exfalso;have:=HN.out;try simp only[Bool.not_eq_false',decide_eq_true_eq]at*
       omega)
  ·go_wp2_with fail
   all_goals
    go_ret;refine⟨congrArg (fun x=>Ending.returned (.bool x)) ?_,rfl⟩
    have hA:s.data.toList.all j1=true:=by
     simp only[List.all_eq_true];intro c hc;obtain⟨j,hj,rfl⟩:=List.getElem_of_mem hc;exact hall.out j (by simpa using hj) (by simp at hj;have:s.data.size=s.size:=rfl;omega)
    simp only[F4,hA,Bool.and_true];by_cases q1:1≤s.size<;>by_cases q2:s.size≤12<;>simp[q1,q2]<;>omega
theorem b6V{j:Nat}(hj:j<l.length)(h:l.getD j ByteArray.empty=s)(h0:∀i,i<j→l.getD i ByteArray.empty≠s):a1Y l s=j:=by
 unfold a1Y;rw[List.findIdx_eq hj];refine⟨by simpa[List.getD,hj]using h,fun i hi=> ?_⟩;have:=h0 i hi;simpa[List.getD,show i<l.length by omega]using this
theorem b4p(h0:∀i,i<l.length→l.getD i ByteArray.empty≠s):a1Y l s=l.length:=by
 unfold a1Y;rw[List.findIdx_eq_length];intro x hx;obtain⟨i,hi,rfl⟩:=List.getElem_of_mem hx;have:=h0 i hi;simpa[List.getD,hi]using this
theorem b0R(hs:F4 s=true)(r:Option WS)(names:List ByteArray)(hr:∀s0,r=some s0→names=s0.names)(j:Nat)(hj:a1Y names s=j):
 (r.map fun s0=>(⟨a0P s0.names s,s0.out⟩:WS)).bind (E1 (.num (j:Int) 1))=r.bind (E1 (.nm s)):=by
 cases r with
 |none=>simp
 |some s0=>
  cases hr s0 rfl;subst hj;obtain⟨j,hj⟩:∃j,j=a1Y s0.names s:=⟨_,rfl⟩
  simp only[Option.map_some,Option.bind_some,E1,hs,true_and,←hj];by_cases h:j<256
  ·have h1:(0:Int)≤(j:Int)∧(j:Int)<256^1:=⟨by omega,by rw[Int.pow_one];omega⟩
   rw[if_pos h1,if_pos h];simp[O4]
  ·have h1:¬((0:Int)≤(j:Int)∧(j:Int)<256^1):=by
    intro hh;have:=hh.2;rw[Int.pow_one]at this;omega
   rw[if_neg h1,if_neg h]
theorem E8.named(hP:Pn w b nv out (a0P names s) bad)(h1:out.size≤4*k)(h2:names.length≤k)(hk:k+1≤2^40)
 (hR:(∀s,r=some s→out.data.toList=s.out∧names=s.names∧bad=false)∧(r=none→bad=true)):E8 w b (k+1) (r.map fun s0=>(⟨a0P s0.names s,s0.out⟩:WS)):=by
 refine⟨nv,out,_,bad,hP,by omega,?_,hk,?_,?_⟩
 ·unfold a0P;split<;>(try simp)<;>omega
 ·intro s1 hs1;cases r with
  |none=>cases hs1
  |some s0=>
   obtain⟨g1,g2,g3⟩:=hR.1 s0 rfl;simp only[Option.map_some,Option.some.injEq]at hs1;subst hs1;exact⟨g1,by rw[g2],g3⟩
 ·intro hs1;cases r with
  |none=>exact hR.2 rfl
  |some s0=>cases hs1
theorem b8g{n:Nat}{cs:List Value}(h:w.ownsRow (b+1) 9 sz v n cs):∀k,v.ownBlock=some k→a7J w b k:=by
 intro k hk;rcases h.2 with⟨rfl,_⟩|⟨g,cap,cur,rfl,hb,hg,_⟩
 ·simp[Value.ownBlock]at hk
 ·simp only[Value.ownBlock,Option.some.injEq]at hk;subst hk;exact .inr ⟨by omega,_,_,hg⟩
set_option maxRecDepth 100000 in
set_option maxHeartbeats 1000000 in
theorem a1N(w:World)(b:Nat)(k:Nat)(r:Option WS)(s:ByteArray)(hs:s.size≤1099511627776)(h:Hid (E8 w b k r))(hk:k+2≤2^40):
 Calls Tryz.prog 110 #[.pointer (some ⟨b,0,none⟩), .string s] w fun e w'=>e= .returned (.tuple #[])∧G0 w w' b∧E8 w' b (k+2) (r.bind (E1 (.nm s))):=by
 obtain⟨nv,out,names,bad,hP,h1,h2,h3,h4,h5⟩:=h.out;have HR:Hid ((∀s,r=some s→out.data.toList=s.out∧names=s.names∧bad=false)∧(r=none→bad=true)):=⟨h4,h5⟩
 have HP:=A0 hP;have hbl:=hP.blk.lt;have hnl:names.length≤1099511627776:=by omega
 clear h4 h5;by_cases hn:F4 s=true
 ·obtain⟨a,kk,rfl⟩:=F1 hP.own;have c1:=hP.blk.cell 1 _ rfl;have z1:=hP.blk.frozen 1
  have HC:Hid (∀j,j<names.length→∃g,a=some ⟨g,0,none⟩∧w.cell? ⟨g,j,none⟩=some (.string (names.getD j ByteArray.empty))):=by
   intro j hj;rcases a2X hP.own with⟨-,h2⟩|⟨g,cap,h1,-,hc⟩
   ·rw[h2]at hj;cases hj
   ·exact⟨g,by injection h1,hc j hj⟩
  clear hP;go_enter Tryz.func110,Tryz.ntmps110;go_wp2_with (go_at_call 173;refine(a8C s _ hs).mono ?_;rintro e w' ⟨rfl,rfl⟩;try dsimp only)
  have hn256:=hn;go_loop [5] (fun i=>∃j:Nat,j≤names.length∧i= .int .i64 j∧Hid (∀i,i<j→names.getD i ByteArray.empty≠s)) (fun i=>names.length-(intOf i).toNat)
  case atStart=>exact⟨0,Nat.zero_le _,rfl,fun i hi=>by omega⟩
  case round=>
   obtain⟨j,hj,rfl,hall⟩:=hrel;by_cases hlt:j<names.length
   ·obtain⟨g,rfl,hc⟩:=HC.out j hlt;by_cases e:names.getD j ByteArray.empty=s
    ·rw[e]at hc;have HPO:=A0 (b6V hlt e hall.out);clear e;have HW:Hid (a0P names s=names):=by unfold a0P Hid;rw[HPO.out,if_pos hlt]
     have HS1:=A0 (E8.named (by rw[HW.out];exact HP.out) h1 h2 (by omega) HR.out);go_wp2_with (go_at_call 111;refine(T1 w b (k+1) _ (j:Int) 1 (by omega) (by omega) HS1 (by omega)).mono ?_;rintro e w' ⟨rfl,hk1,hp1⟩;try dsimp only)
     go_end0;rw[b0R hn r names (fun s0 e0=>(HR.out.1 s0 e0).2.1) j HPO.out]at hp1;exact⟨rfl,hk1,hp1⟩
    ·have HN:Hid (∀i,i<j+1→names.getD i ByteArray.empty≠s):=by
      intro i hi;by_cases ei:i=j
      ·rw[ei];exact e
      ·exact hall.out i (by omega)
     have hx:(names[j].toList==s.toList)=false:=by
      cases hb:(names[j].toList==s.toList)with
      |false=>rfl
      |true=>exact absurd (t8 hb) (by simpa[List.getD,hlt]using e)
     clear e;go_wp2_with fail
     exact⟨⟨j+1,hlt,by go_num,HN⟩,by simp[intOf];omega⟩
   ·have hje:j=names.length:=by omega
    subst hje;obtain⟨i,hi,hz0,hz1,hz2⟩:=info_parts a5G;have HPO:=A0 (b4p hall.out);have HW:Hid (a0P names s=names++ [s]):=by unfold a0P Hid;rw[HPO.out,if_neg (by omega)]
    have HO:=A0 HP.out.own;go_wp2_with (at_builtin;go_loud (refine wpList_append_own _ rfl _ _ 22 rfl (b+1) 9 i _ 1 16 Tryz.underlying22 hi hz0 hz1 hz2 rfl (by decide) _ names.length (names.map Value.string) rfl (World.ownsRow.alloc HO.out _) ⟨w.heap.size,0,none⟩ 1 1 [.string s] rfl rfl (O5 w [.string s] 9) (by simp[Value.oneCell']) (by unfold maxLen;omega) (by omega) (by simp;omega) ?_))
    intro v' w8 hown hgrow _;obtain⟨a5,k5,rfl⟩:=F1 hown;have hgA:=A1 (A2 w (.cells #[.string s] 9) _) hgrow;have hne:=E9 HO.out (Nat.lt_succ_self _);have hB8:=HP.out.blk.keep hgA (fun e=>hne e.symm);have hO8:w8.ownsRow (b+1) 9 1 (.slice a5 (names.length+1) k5) (names++ [s]).length ((names++ [s]).map Value.string):=by simpa using hown
    have HP8:Hid (Pn (w8.setCell ⟨b,1,none⟩ (.slice a5 (names.length+1) k5)) b (.slice a5 (names.length+1) k5) out (a0P names s) bad):=by
     rw[HW.out];exact⟨hB8.set 1 _,hO8.kept (A6 w8 ⟨b,1,none⟩ _) (.inr (E9 hO8 (Nat.lt_succ_self _)))⟩
    have HK8:Hid (G0 w (w8.setCell ⟨b,1,none⟩ (.slice a5 (names.length+1) k5)) b):=(G0.of hgA (fun k hk _=>b8g HO.out k hk)).trans (.ofB (A6 _ ⟨b,1,none⟩ _));have d1:=hB8.cell 1 _ rfl;have y1:=hB8.frozen 1;have HS1:=A0 (E8.named HP8.out h1 h2 (by omega) HR.out);clear hown hgrow hgA hB8 hO8 c1 z1 HP HO;go_wp2_with (go_at_call 111;refine(T1 _ b (k+1) _ (names.length:Int) 1 (by omega) (by omega) HS1 (by omega)).mono ?_;rintro e w' ⟨rfl,hk1,hp1⟩;try dsimp only)
    go_end0;rw[b0R hn r names (fun s0 e0=>(HR.out.1 s0 e0).2.1) names.length HPO.out]at hp1;exact⟨rfl,HK8.out.trans hk1,hp1⟩
 ·obtain⟨g,hg⟩:∃g,g=F4 s:=⟨_,rfl⟩
  have hgf:g=false:=by rw[hg];simpa using hn
  have c2:=hP.blk.cell 2 _ rfl;have z2:=hP.blk.frozen 2;have HF:Hid (Pn (w.setCell ⟨b,2,none⟩ (.bool true)) b nv out names true):=⟨hP.blk.set 2 _,hP.own.kept (A6 w ⟨b,2,none⟩ _) (.inr (E9 hP.own (Nat.lt_succ_self _)))⟩
  clear hP;go_enter Tryz.func110,Tryz.ntmps110;go_wp2_with (go_at_call 173;refine(a8C s _ hs).mono ?_;rw[←hg,hgf];rintro e w' ⟨rfl,rfl⟩;try dsimp only)
  refine bodyPost_ret (results_none rfl _ _ _) rfl ?_;refine⟨rfl, .ofB (A6 _ ⟨b,2,none⟩ _),nv,out,names,true,HF.out,by omega,by omega,hk,?_,fun _=>rfl⟩;intro s0 hs0;cases r with
  |none=>cases hs0
  |some s1=>simp[E1,hn]at hs0
theorem E8.spoil(h:E8 w b k r):(∃x,w.cell? ⟨b,2,none⟩=some (.bool x))∧w.frozen? ⟨b,2,none⟩=false∧E8 (w.setCell ⟨b,2,none⟩ (.bool true)) b k none:=by
 obtain⟨nv,out,names,bad,hP,h1,h3,h4,h5,h6⟩:=h;exact⟨⟨bad,hP.blk.cell 2 _ rfl⟩,hP.blk.frozen 2,nv,out,names,true,⟨hP.blk.set 2 _,hP.own.kept (A6 w ⟨b,2,none⟩ _) (.inr (E9 hP.own (Nat.lt_succ_self _)))⟩,h1,h3,h4,(fun _ e=>by cases e),fun _=>rfl⟩
theorem a4B(r:Option WS):G4 [.bad] r=none:=by cases r<;>rfl
theorem a7q(r:Option WS):r.bind (E1 .bad)=none:=by cases r<;>rfl
theorem b8k{n:Int}{m:Nat}(h:n<0)(r:Option WS):r.bind (E1 (.num n m))=none:=by
 cases r with
 |none=>rfl
 |some s=>simp only[Option.bind_some,E1];rw[if_neg (by omega)]
theorem a5g(h:s.size=0):s=⟨#[]⟩:=by
 apply ByteArray.ext;exact Array.eq_empty_of_size_eq_zero h
def X6(n:Int):Prop:= -9223372036854775808≤n∧n≤9223372036854775807
def j8(s:ByteArray):Prop:=s.size≤1099511627776
theorem a5D(h:¬s.size=0):(s.toList==[])=false:=by
 rw[ByteArray.toList_eq];cases hb:(s.data.toList==[])with
 |false=>rfl
 |true=>
  exfalso;apply h;have:s.data.toList=[]:=by simpa using hb
  show s.data.size=0;rw[←Array.length_toList,this];rfl
set_option maxHeartbeats 1000000 in
theorem a6S(w:World)(b:Nat)(k:Nat)(r:Option WS)(t:XTy)(hi:X6 t.kind)(hs:j8 t.name)(h:Hid (E8 w b k r))(hk:k+3≤2^40):
 Calls Tryz.prog 112 #[.pointer (some ⟨b,0,none⟩), .agg #[.int .i64 t.kind, .string t.name]] w fun e w'=>e= .returned (.tuple #[])∧G0 w w' b∧E8 w' b (k+3) (G4 (X4 t) r):=by
 obtain⟨kd,nm⟩:=t;have hi1: -9223372036854775808≤kd∧kd≤9223372036854775807:=hi;have hs1:nm.size≤1099511627776:=hs;have hbl:=h.out.lt;have hne:w.heap.size≠b:=by omega
 dsimp only at hs;by_cases h4:4<kd
 ·have HT:Hid (X4 ⟨kd,nm⟩=[.bad]):=by unfold X4 Hid;rw[if_neg (by dsimp only;omega)]
  have hn2:¬kd=2:=by omega
  have hn4:¬kd=4:=by omega
  have hb2:(kd==2)=false:=by simpa using hn2
  have hb4:(kd==4)=false:=by simpa using hn4
  by_cases hz:nm.size=0
  ·cases a5g hz;obtain⟨⟨x,c2⟩,z2,hsp⟩:=h.out.spoil;have HS1:Hid (E8 ((w.setCell ⟨b,2,none⟩ (.bool true)).alloc (.cells #[.int .i64 kd, .string ⟨#[]⟩] 98)) b k none):=hsp.keep (A2 _ _ _)
   have HB1:Hid (A3 ((w.setCell ⟨b,2,none⟩ (.bool true)).alloc (.cells #[.int .i64 kd, .string ⟨#[]⟩] 98)) w.heap.size #[.int .i64 kd, .string ⟨#[]⟩] 98):=by
    have:=A3.new (w.setCell ⟨b,2,none⟩ (.bool true)) #[.int .i64 kd, .string ⟨#[]⟩] 98;unfold Hid;simpa using this
   have HK1:Hid (G0 w ((w.setCell ⟨b,2,none⟩ (.bool true)).alloc (.cells #[.int .i64 kd, .string ⟨#[]⟩] 98)) b):=(G0.ofB (A6 w ⟨b,2,none⟩ _)).trans (.ofNone (A2 _ _ _));clear hsp;go_enter Tryz.func112,Tryz.ntmps112
   go_wp2_with (first
    |(go_at_call 111
      refine(T1 _ b k none kd 1 (by omega) hi1 HS1 (by omega)).mono ?_;rintro e w2 ⟨rfl,hk2,hp2⟩;have HS2:=A0 hp2;have HB2:=A0 (hk2.blk HB1.out (by omega) (by decide));have HK2:=A0 (HK1.out.trans hk2);have d0:=HB2.out.cell 0 _ rfl;have d1:=HB2.out.cell 1 _ rfl;clear hk2 hp2 HS1 HB1 HK1;try dsimp only))
   go_end0;refine⟨rfl,HK2.out,?_⟩;rw[HT.out,a4B];exact HS2.out.mono (by omega) hk
  ·have hx:=a5D hz;obtain⟨⟨x,c2⟩,z2,hsp⟩:=h.out.spoil;have HS1:Hid (E8 ((w.setCell ⟨b,2,none⟩ (.bool true)).alloc (.cells #[.int .i64 kd, .string nm] 98)) b k none):=hsp.keep (A2 _ _ _)
   have HB1:Hid (A3 ((w.setCell ⟨b,2,none⟩ (.bool true)).alloc (.cells #[.int .i64 kd, .string nm] 98)) w.heap.size #[.int .i64 kd, .string nm] 98):=by
    have:=A3.new (w.setCell ⟨b,2,none⟩ (.bool true)) #[.int .i64 kd, .string nm] 98;unfold Hid;simpa using this
   have HK1:Hid (G0 w ((w.setCell ⟨b,2,none⟩ (.bool true)).alloc (.cells #[.int .i64 kd, .string nm] 98)) b):=(G0.ofB (A6 w ⟨b,2,none⟩ _)).trans (.ofNone (A2 _ _ _));clear hsp;go_enter Tryz.func112,Tryz.ntmps112
   go_wp2_with (first
    |(go_at_call 111
      refine(T1 _ b k none kd 1 (by omega) hi1 HS1 (by omega)).mono ?_;rintro e w2 ⟨rfl,hk2,hp2⟩;have HS2:=A0 hp2;have HB2:=A0 (hk2.blk HB1.out (by omega) (by decide));have HK2:=A0 (HK1.out.trans hk2);have d0:=HB2.out.cell 0 _ rfl;have d1:=HB2.out.cell 1 _ rfl;obtain⟨⟨x2,e2⟩,y2,hsp2⟩:=HS2.out.spoil;have HSP2:=A0 hsp2;clear hsp2;clear hk2 hp2 HS1 HB1 HK1;try dsimp only))
   go_end0;refine⟨rfl,HK2.out.trans (.ofB (A6 _ ⟨b,2,none⟩ _)),?_⟩;rw[HT.out,a4B];exact HSP2.out.mono (by omega) hk
 ·by_cases hn:kd=2∨kd=4
  ·have HT:Hid (X4 ⟨kd,nm⟩=[.num kd 1, .nm nm]):=by
    unfold X4 Hid;rw[if_pos (by dsimp only;omega)];rcases hn with rfl|rfl<;>rfl
   rcases hn with rfl|rfl
   ·have HS1:Hid (E8 (w.alloc (.cells #[.int .i64 2, .string nm] 98)) b k r):=h.out.keep (A2 _ _ _);have HB1:Hid (A3 (w.alloc (.cells #[.int .i64 2, .string nm] 98)) w.heap.size #[.int .i64 2, .string nm] 98):=A3.new _ _ _;have HK1:Hid (G0 w (w.alloc (.cells #[.int .i64 2, .string nm] 98)) b):= .ofNone (A2 _ _ _);go_enter Tryz.func112,Tryz.ntmps112
    go_wp2_with (first
     |(go_at_call 110
       refine(a1N w2 b (k+1) _ nm hs HS2 (by omega)).mono ?_;rintro e w3 ⟨rfl,hk3,hp3⟩;try dsimp only)
     |(go_at_call 111
       refine(T1 _ b k r 2 1 (by omega) hi1 HS1 (by omega)).mono ?_;rintro e w2 ⟨rfl,hk2,hp2⟩;have HS2:=A0 hp2;have HB2:=A0 (hk2.blk HB1.out (by omega) (by decide));have HK2:=A0 (HK1.out.trans hk2);have d0:=HB2.out.cell 0 _ rfl;have d1:=HB2.out.cell 1 _ rfl;clear hk2 hp2 HS1 HB1 HK1;try dsimp only))
    go_end0;refine⟨rfl,HK2.out.trans hk3,?_⟩;rw[HT.out];exact hp3
   ·have HS1:Hid (E8 (w.alloc (.cells #[.int .i64 4, .string nm] 98)) b k r):=h.out.keep (A2 _ _ _);have HB1:Hid (A3 (w.alloc (.cells #[.int .i64 4, .string nm] 98)) w.heap.size #[.int .i64 4, .string nm] 98):=A3.new _ _ _;have HK1:Hid (G0 w (w.alloc (.cells #[.int .i64 4, .string nm] 98)) b):= .ofNone (A2 _ _ _);go_enter Tryz.func112,Tryz.ntmps112
    go_wp2_with (first
     |(go_at_call 110
       refine(a1N w2 b (k+1) _ nm hs HS2 (by omega)).mono ?_;rintro e w3 ⟨rfl,hk3,hp3⟩;try dsimp only)
     |(go_at_call 111
       refine(T1 _ b k r 4 1 (by omega) hi1 HS1 (by omega)).mono ?_;rintro e w2 ⟨rfl,hk2,hp2⟩;have HS2:=A0 hp2;have HB2:=A0 (hk2.blk HB1.out (by omega) (by decide));have HK2:=A0 (HK1.out.trans hk2);have d0:=HB2.out.cell 0 _ rfl;have d1:=HB2.out.cell 1 _ rfl;clear hk2 hp2 HS1 HB1 HK1;try dsimp only))
    go_end0;refine⟨rfl,HK2.out.trans hk3,?_⟩;rw[HT.out];exact hp3
  ·have hn2:¬kd=2:=by omega
   have hn4:¬kd=4:=by omega
   have hb2:(kd==2)=false:=by simpa using hn2
   have hb4:(kd==4)=false:=by simpa using hn4
   have hnm:0≤kd→o7 kd.toNat=false:=by
    intro h0;obtain⟨j,rfl⟩:∃j:Nat,kd=j:=⟨kd.toNat,by omega⟩
    have a2:¬j=2:=by omega
    have a4:¬j=4:=by omega
    simp[o7,a2,a4]
   by_cases hz:nm.size=0
   ·cases a5g hz
    have HT:Hid (G4 (X4 ⟨kd,⟨#[]⟩⟩) r=r.bind (E1 (.num kd 1))):=by
     unfold X4 Hid;by_cases h0:0≤kd
     ·rw[if_pos (by dsimp only;omega)];simp only[hnm h0,a3P];rfl
     ·rw[if_neg (by dsimp only;omega),a4B,b8k (by omega)]
    clear hnm;have HS1:Hid (E8 (w.alloc (.cells #[.int .i64 kd, .string ⟨#[]⟩] 98)) b k r):=h.out.keep (A2 _ _ _);have HB1:Hid (A3 (w.alloc (.cells #[.int .i64 kd, .string ⟨#[]⟩] 98)) w.heap.size #[.int .i64 kd, .string ⟨#[]⟩] 98):=A3.new _ _ _;have HK1:Hid (G0 w (w.alloc (.cells #[.int .i64 kd, .string ⟨#[]⟩] 98)) b):= .ofNone (A2 _ _ _);go_enter Tryz.func112,Tryz.ntmps112
    go_wp2_with (first
     |(go_at_call 111
       refine(T1 _ b k r kd 1 (by omega) hi1 HS1 (by omega)).mono ?_;rintro e w2 ⟨rfl,hk2,hp2⟩;have HS2:=A0 hp2;have HB2:=A0 (hk2.blk HB1.out (by omega) (by decide));have HK2:=A0 (HK1.out.trans hk2);have d0:=HB2.out.cell 0 _ rfl;have d1:=HB2.out.cell 1 _ rfl;clear hk2 hp2 HS1 HB1 HK1;try dsimp only))
    go_end0;refine⟨rfl,HK2.out,?_⟩;rw[HT.out];exact HS2.out.mono (by omega) hk
   ·have HT:Hid (G4 (X4 ⟨kd,nm⟩) r=none):=by
     unfold X4 Hid;by_cases h0:0≤kd
     ·rw[if_pos (by dsimp only;omega)];simp only[hnm h0,a3P,hz];exact a7q _
     ·rw[if_neg (by dsimp only;omega),a4B]
    have hx:=a5D hz;clear hnm;have HS1:Hid (E8 (w.alloc (.cells #[.int .i64 kd, .string nm] 98)) b k r):=h.out.keep (A2 _ _ _);have HB1:Hid (A3 (w.alloc (.cells #[.int .i64 kd, .string nm] 98)) w.heap.size #[.int .i64 kd, .string nm] 98):=A3.new _ _ _;have HK1:Hid (G0 w (w.alloc (.cells #[.int .i64 kd, .string nm] 98)) b):= .ofNone (A2 _ _ _);go_enter Tryz.func112,Tryz.ntmps112
    go_wp2_with (first
     |(go_at_call 111
       refine(T1 _ b k r kd 1 (by omega) hi1 HS1 (by omega)).mono ?_;rintro e w2 ⟨rfl,hk2,hp2⟩;have HS2:=A0 hp2;have HB2:=A0 (hk2.blk HB1.out (by omega) (by decide));have HK2:=A0 (HK1.out.trans hk2);have d0:=HB2.out.cell 0 _ rfl;have d1:=HB2.out.cell 1 _ rfl;obtain⟨⟨x2,e2⟩,y2,hsp2⟩:=HS2.out.spoil;have HSP2:=A0 hsp2;clear hsp2;clear hk2 hp2 HS1 HB1 HK1;try dsimp only))
    go_end0;refine⟨rfl,HK2.out.trans (.ofB (A6 _ ⟨b,2,none⟩ _)),?_⟩;rw[HT.out];exact HSP2.out.mono (by omega) hk
structure LS where
 a:Int
 c:ByteArray
 m:ByteArray
 r:Option WS
def a0D(x:UInt8)(s:LS):LS:=
 if x=98 then⟨0,s.c,s.m,s.r.bind (E1 (.num s.a 1))⟩
 else if x=115 then⟨0,s.c,s.m,s.r.bind (E1 (.num s.a 2))⟩
 else if x=108 then⟨0,s.c,s.m,(if-2147483648≤s.a∧s.a≤2147483647 then s.r else none).bind (E1 (.num (if s.a<0 then s.a+4294967296 else s.a) 4))⟩
 else if x=99 then⟨s.a,⟨#[]⟩,s.m,s.r.bind (E1 (.nm s.c))⟩
 else⟨s.a,s.c,⟨#[]⟩,s.r.bind (E1 (.nm s.m))⟩
def a0Z(s:LS):Option WS:=if s.a=0∧s.c.size=0∧s.m.size=0 then s.r else none
def a3i(l:List UInt8)(s:LS):LS:=l.foldl (fun s x=>a0D x s) s
theorem b9r:∀n,n<32→(O2 n,L5 n,Z4 n,b7 n)∈ [([],0,false,false),([98],1,false,false),([115],2,false,false),([108],4,false,false),([99],0,true,false),([99,109],0,true,true)]:=by decide
theorem a3u(t:T6)(l:List T6)(r:Option WS):G4 (t::l) r=G4 l (r.bind (E1 t)):=rfl
theorem a9P(r:Option WS):G4 [] r=r:=rfl
theorem wrun_bads(l:List T6)(r:Option WS):G4 (.bad::l) r=none:=by rw[a3u,a7q,a9r]
theorem b5p(l:List UInt8)(x:UInt8)(s:LS):a3i (l++ [x]) s=a0D x (a3i l s):=by simp[a3i,List.foldl_append]
theorem z64:X6 0:=by constructor<;>omega
theorem b1I:j8 ⟨#[]⟩:=by unfold j8;decide
theorem b3G(n:Nat)(h:n<32)(a:Int)(c m:ByteArray)(r:Option WS):a0Z (a3i (O2 n) ⟨a,c,m,r.bind (E1 (.num (n:Int) 1))⟩)=G4 (a1r ⟨(n:Int),a,c,m⟩) r:=by
 have hg:=b9r n h;unfold a1r;rw[if_pos (by dsimp only;omega),a3u,a4q,a4q];simp only[Int.toNat_natCast];generalize r.bind (E1 (.num (n:Int) 1))=q;simp only[List.mem_cons,Prod.mk.injEq,List.not_mem_nil,or_false]at hg;rcases hg with⟨h1,h2,h3,h4⟩|⟨h1,h2,h3,h4⟩|⟨h1,h2,h3,h4⟩|⟨h1,h2,h3,h4⟩|⟨h1,h2,h3,h4⟩|⟨h1,h2,h3,h4⟩
 all_goals
  rw[h1,h2,h3,h4];by_cases ha:a=0
  all_goals by_cases hc:c.size=0
  all_goals by_cases hm:m.size=0
  all_goals simp[a3i,a0D,a0Z,b1N,a3P,ha,hc,hm,a3u,a9P,wrun_bads,a9r,a7q]
 all_goals try(by_cases hr: -2147483648≤a∧a≤2147483647<;>simp[hr,a3u,a9P,a7q])
 all_goals try(intro hh;exact absurd rfl hh)
set_option maxRecDepth 100000 in
set_option maxHeartbeats 2000000 in
theorem b6W(w:World)(b:Nat)(k0:Nat)(r:Option WS)(i:XIn)(ho:X6 i.op)(hi:X6 i.a)(hs:j8 i.cls)(hs2:j8 i.mem)(h:Hid (E8 w b k0 r))(hk0:k0+5≤2^40):
 Calls Tryz.prog 174 #[.pointer (some ⟨b,0,none⟩), .agg #[.int .i64 i.op, .int .i64 i.a, .string i.cls, .string i.mem]] w fun e w'=>e= .returned (.tuple #[])∧G0 w w' b∧E8 w' b (k0+5) (G4 (a1r i) r):=by
 obtain⟨op,a,c,m⟩:=i;have hbl:=h.out.lt;have hne:w.heap.size≠b:=by omega
 dsimp only at ho hi hs hs2;by_cases hop:0≤op∧op<32
 ·obtain⟨n,rfl⟩:∃n:Nat,op=n:=⟨op.toNat,by omega⟩
  have hn32:n<32:=by omega
  have HS1:Hid (E8 (w.alloc (.cells #[.int .i64 n, .int .i64 a, .string c, .string m] 120)) b k0 r):=h.out.keep (A2 _ _ _);have HB1:Hid (A3 (w.alloc (.cells #[.int .i64 n, .int .i64 a, .string c, .string m] 120)) w.heap.size #[.int .i64 n, .int .i64 a, .string c, .string m] 120):=A3.new _ _ _;have HK1:Hid (G0 w (w.alloc (.cells #[.int .i64 n, .int .i64 a, .string c, .string m] 120)) b):= .ofNone (A2 _ _ _);obtain⟨L,hL⟩:∃L,L=a5X n:=⟨_,rfl⟩
  have HL:=A0 hL;have HLL:Hid (L.data.toList=O2 n):=by unfold Hid;rw[hL];rfl
  have hLsz:L.size≤2:=by rw[hL];exact b0s n
  clear hL;have HLS:=A0 (b0Y n);go_enter Tryz.func174,Tryz.ntmps174
  go_wp2_with (first
   |(go_at_call 258
     refine(a8y n _).mono ?_;rintro e w4 ⟨rfl,rfl⟩;rw[←HL.out];try dsimp only)
   |(go_at_call 111
     refine(T1 _ b k0 r (n:Int) 1 (by omega) (by omega) HS1 (by omega)).mono ?_;rintro e w2 ⟨rfl,hk2,hp2⟩;have HS2:=A0 hp2;have HB2:=A0 (hk2.blk HB1.out (by omega) (by decide));have HK2:=A0 (HK1.out.trans hk2);have d0:=HB2.out.cell 0 _ rfl;have d1:=HB2.out.cell 1 _ rfl;have d2:=HB2.out.cell 2 _ rfl;have d3:=HB2.out.cell 3 _ rfl;clear hk2 hp2 HS1 HB1 HK1;try dsimp only))
  go_quiet (fail)
  have HS3:Hid (E8 (w2.drewN nq) b (k0+1) (r.bind (E1 (.num (n:Int) 1)))):=HS2.out.keep (F0 _ _ _);have HK3:Hid (G0 w (w2.drewN nq) b):=HK2.out.trans (.ofNone (F0 _ _ _));generalize w2.drewN nq=w3 at HS3 HK3⊢;clear HS2 HK2 HB2 d0 d1 d2 d3;go_wp2_with fail
  go_loopw [5,6,7,8] (fun va vc vm i wr=>∃(k:Nat) (st:LS),k≤L.size∧i= .int .i64 k∧va= .int .i64 st.a∧vc= .string st.c∧vm= .string st.m∧X6 st.a∧j8 st.c∧j8 st.m∧
   E8 wr b (k0+1+2*k) st.r∧G0 w wr b∧st=a3i ((O2 n).take k) ⟨a,c,m,r.bind (E1 (.num (n:Int) 1))⟩) (fun _ _ _ i _=>L.size-(intOf i).toNat)
  case atStart=>exact⟨0,⟨a,c,m,r.bind (E1 (.num (n:Int) 1))⟩,Nat.zero_le _,rfl,rfl,rfl,rfl,hi,hs,hs2,HS3.out,HK3.out,rfl⟩
  case round=>
   clear HS3 HK3;obtain⟨k,st,hk,rfl,rfl,rfl,rfl,hia,hlc,hlm,hps,hkp,hst⟩:=hrel;have HS:=A0 hps;have HK:=A0 hkp;have HST:=A0 hst;have hlc1:st.c.size≤1099511627776:=hlc;have hlm1:st.m.size≤1099511627776:=hlm;have hia1: -9223372036854775808≤st.a∧st.a≤9223372036854775807:=hia;clear hps hkp hst;by_cases hlt:k<L.size
   ·have HCL:=HLS.out (L.data[k]) (by rw[←HLL.out];simp);have hcs:(L[k]'hlt).toNat=(L.data[k]).toNat:=rfl
    have HNX:Hid (a3i ((O2 n).take (k+1)) ⟨a,c,m,r.bind (E1 (.num (n:Int) 1))⟩=a0D L.data[k] st):=by
     unfold Hid;have hl:k<(O2 n).length:=by rw[←HLL.out];simpa using hlt
     have he:(O2 n)[k]=L.data[k]:=by simp[←HLL.out]
     rw[List.take_succ_eq_append_getElem hl,he,b5p,←HST.out]
    have hend:Hid (L.size-(intOf (Value.int IntKind.i64 ((k:Int)+1))).toNat<L.size-(intOf (Value.int IntKind.i64 (k:Int))).toNat):=by unfold Hid;simp[intOf];omega
    rcases HCL with hc|hc|hc|hc|hc
    all_goals
     rw[hc]at hcs HNX;simp only[UInt8.reduceToNat]at hcs;clear hc
    ·have HN1:Hid (a0D 98 st=⟨0,st.c,st.m,st.r.bind (E1 (.num st.a 1))⟩):=rfl;go_wp2_with (go_at_call 111;refine(T1 wr b _ st.r st.a 1 (by omega) hia1 HS (by omega)).mono ?_;rintro e w4 ⟨rfl,hk4,hp4⟩;try dsimp only)
     exact⟨⟨k+1,⟨0,st.c,st.m,st.r.bind (E1 (.num st.a 1))⟩,hlt,by go_num,rfl,rfl,rfl,z64,hlc,hlm,hp4.mono (by omega) (by omega),HK.out.trans hk4,by rw[HNX.out,HN1.out]⟩,hend.out⟩
    ·have HN1:Hid (a0D 115 st=⟨0,st.c,st.m,st.r.bind (E1 (.num st.a 2))⟩):=rfl;go_wp2_with (go_at_call 111;refine(T1 wr b _ st.r st.a 2 (by omega) hia1 HS (by omega)).mono ?_;rintro e w4 ⟨rfl,hk4,hp4⟩;try dsimp only)
     exact⟨⟨k+1,⟨0,st.c,st.m,st.r.bind (E1 (.num st.a 2))⟩,hlt,by go_num,rfl,rfl,rfl,z64,hlc,hlm,hp4.mono (by omega) (by omega),HK.out.trans hk4,by rw[HNX.out,HN1.out]⟩,hend.out⟩
    ·have HN1:Hid (a0D 108 st=⟨0,st.c,st.m,(if-2147483648≤st.a∧st.a≤2147483647 then st.r else none).bind (E1 (.num (if st.a<0 then st.a+4294967296 else st.a) 4))⟩):=rfl;by_cases hr: -2147483648≤st.a∧st.a≤2147483647
     ·by_cases hneg:st.a<0
      ·have HN2:Hid (a0D 108 st=⟨0,st.c,st.m,st.r.bind (E1 (.num (st.a+4294967296) 4))⟩):=by unfold Hid;rw[HN1.out,if_pos hr,if_pos hneg]
       go_wp2_with (go_at_call 111;refine(T1 wr b _ st.r (st.a+4294967296) 4 (by omega) (by omega) HS (by omega)).mono ?_;rintro e w4 ⟨rfl,hk4,hp4⟩;try dsimp only)
       exact⟨⟨k+1,⟨0,st.c,st.m,st.r.bind (E1 (.num (st.a+4294967296) 4))⟩,hlt,by go_num,rfl,rfl,rfl,z64,hlc,hlm,hp4.mono (by omega) (by omega),HK.out.trans hk4,by rw[HNX.out,HN2.out]⟩,hend.out⟩
      ·have HN2:Hid (a0D 108 st=⟨0,st.c,st.m,st.r.bind (E1 (.num st.a 4))⟩):=by unfold Hid;rw[HN1.out,if_pos hr,if_neg hneg]
       go_wp2_with (go_at_call 111;refine(T1 wr b _ st.r st.a 4 (by omega) hia1 HS (by omega)).mono ?_;rintro e w4 ⟨rfl,hk4,hp4⟩;try dsimp only)
       exact⟨⟨k+1,⟨0,st.c,st.m,st.r.bind (E1 (.num st.a 4))⟩,hlt,by go_num,rfl,rfl,rfl,z64,hlc,hlm,hp4.mono (by omega) (by omega),HK.out.trans hk4,by rw[HNX.out,HN2.out]⟩,hend.out⟩
     ·have HN2:Hid (a0D 108 st=⟨0,st.c,st.m,none⟩):=by unfold Hid;rw[HN1.out,if_neg hr];rfl
      obtain⟨⟨x2,e2⟩,y2,hsp2⟩:=HS.out.spoil;have HSP2:=A0 hsp2;clear hsp2;have hr2:st.a< -2147483648∨2147483648≤st.a:=by omega
      by_cases hneg:st.a<0
      ·go_wp2_with (go_at_call 111;refine(T1 _ b _ none (st.a+4294967296) 4 (by omega) (by omega) HSP2 (by omega)).mono ?_;rintro e w4 ⟨rfl,hk4,hp4⟩;try dsimp only)
       all_goals exact⟨⟨k+1,⟨0,st.c,st.m,none⟩,hlt,by go_num,rfl,rfl,rfl,z64,hlc,hlm,E8.mono hp4 (by omega) (by omega),(HK.out.trans (.ofB (A6 _ ⟨b,2,none⟩ _))).trans hk4,by rw[HNX.out,HN2.out]⟩,hend.out⟩
      ·go_wp2_with (go_at_call 111;refine(T1 _ b _ none st.a 4 (by omega) hia1 HSP2 (by omega)).mono ?_;rintro e w4 ⟨rfl,hk4,hp4⟩;try dsimp only)
       all_goals exact⟨⟨k+1,⟨0,st.c,st.m,none⟩,hlt,by go_num,rfl,rfl,rfl,z64,hlc,hlm,E8.mono hp4 (by omega) (by omega),(HK.out.trans (.ofB (A6 _ ⟨b,2,none⟩ _))).trans hk4,by rw[HNX.out,HN2.out]⟩,hend.out⟩
    ·have HN1:Hid (a0D 99 st=⟨st.a,⟨#[]⟩,st.m,st.r.bind (E1 (.nm st.c))⟩):=rfl;go_wp2_with (go_at_call 110;refine(a1N wr b _ st.r st.c hlc HS (by omega)).mono ?_;rintro e w4 ⟨rfl,hk4,hp4⟩;try dsimp only)
     exact⟨⟨k+1,⟨st.a,⟨#[]⟩,st.m,st.r.bind (E1 (.nm st.c))⟩,hlt,by go_num,rfl,rfl,rfl,hia,b1I,hlm,hp4.mono (by omega) (by omega),HK.out.trans hk4,by rw[HNX.out,HN1.out]⟩,hend.out⟩
    ·have HN1:Hid (a0D 109 st=⟨st.a,st.c,⟨#[]⟩,st.r.bind (E1 (.nm st.m))⟩):=rfl;go_wp2_with (go_at_call 110;refine(a1N wr b _ st.r st.m hlm HS (by omega)).mono ?_;rintro e w4 ⟨rfl,hk4,hp4⟩;try dsimp only)
     exact⟨⟨k+1,⟨st.a,st.c,⟨#[]⟩,st.r.bind (E1 (.nm st.m))⟩,hlt,by go_num,rfl,rfl,rfl,hia,hlc,b1I,hp4.mono (by omega) (by omega),HK.out.trans hk4,by rw[HNX.out,HN1.out]⟩,hend.out⟩
   ·have HFI:Hid (a0Z st=G4 (a1r ⟨(n:Int),a,c,m⟩) r):=by
     unfold Hid;rw[HST.out,List.take_of_length_le,b3G n hn32];rw[←HLL.out];simp;omega
    obtain⟨sa,sc,sm,sr⟩:=st;dsimp only at HS hlc hlm hia;by_cases e1:sa=0
    ·subst e1;by_cases e2:sc.size=0
     ·cases a5g e2;by_cases e3:sm.size=0
      ·cases a5g e3;have HFN:Hid (a0Z ⟨0,⟨#[]⟩,⟨#[]⟩,sr⟩=sr):=by unfold a0Z Hid;rw[if_pos ⟨rfl,rfl,rfl⟩]
       go_wp2_with fail
       go_end0;refine⟨rfl,HK.out,?_⟩;rw[←HFI.out,HFN.out];exact HS.out.mono (by omega) hk0
      ·have hx:=a5D e3;have HFN:Hid (a0Z ⟨0,⟨#[]⟩,sm,sr⟩=none):=by unfold a0Z Hid;rw[if_neg (by rintro⟨-,-,h3⟩;exact e3 h3)]
       obtain⟨⟨x2,e2'⟩,y2,hsp2⟩:=HS.out.spoil;have HSP2:=A0 hsp2;clear hsp2;go_wp2_with fail
       go_end0;refine⟨rfl,HK.out.trans (.ofB (A6 _ ⟨b,2,none⟩ _)),?_⟩;rw[←HFI.out,HFN.out];exact HSP2.out.mono (by omega) hk0
     ·have hx:=a5D e2;have HFN:Hid (a0Z ⟨0,sc,sm,sr⟩=none):=by unfold a0Z Hid;rw[if_neg (by rintro⟨-,h3,-⟩;exact e2 h3)]
      obtain⟨⟨x2,e2'⟩,y2,hsp2⟩:=HS.out.spoil;have HSP2:=A0 hsp2;clear hsp2;go_wp2_with fail
      go_end0;refine⟨rfl,HK.out.trans (.ofB (A6 _ ⟨b,2,none⟩ _)),?_⟩;rw[←HFI.out,HFN.out];exact HSP2.out.mono (by omega) hk0
    ·have hx:(sa==0)=false:=by simpa using e1
     have HFN:Hid (a0Z ⟨sa,sc,sm,sr⟩=none):=by unfold a0Z Hid;rw[if_neg (by rintro⟨h3,-,-⟩;exact e1 h3)]
     obtain⟨⟨x2,e2'⟩,y2,hsp2⟩:=HS.out.spoil;have HSP2:=A0 hsp2;clear hsp2;go_wp2_with fail
     go_end0;refine⟨rfl,HK.out.trans (.ofB (A6 _ ⟨b,2,none⟩ _)),?_⟩;rw[←HFI.out,HFN.out];exact HSP2.out.mono (by omega) hk0
 ·have HT:Hid (a1r ⟨op,a,c,m⟩=[.bad]):=by unfold a1r Hid;rw[if_neg (by dsimp only;omega)]
  have hop2:op<0∨32≤op:=by omega
  obtain⟨⟨x,c2⟩,z2,hsp⟩:=h.out.spoil;have HSP:Hid (E8 ((w.setCell ⟨b,2,none⟩ (.bool true)).alloc (.cells #[.int .i64 op, .int .i64 a, .string c, .string m] 120)) b k0 none):=hsp.keep (A2 _ _ _);have HK:Hid (G0 w ((w.setCell ⟨b,2,none⟩ (.bool true)).alloc (.cells #[.int .i64 op, .int .i64 a, .string c, .string m] 120)) b):=(G0.ofB (A6 w ⟨b,2,none⟩ _)).trans (.ofNone (A2 _ _ _));clear hsp;go_enter Tryz.func174,Tryz.ntmps174;rcases hop2 with hop2|hop2
  all_goals
   go_wp2_with fail
   all_goals
    refine bodyPost_ret (results_none rfl _ _ _) rfl ?_;refine⟨rfl,HK.out,?_⟩;rw[HT.out,a4B];exact HSP.out.mono (by omega) hk0
def xTy(t:XTy):List Value:=[.int .i64 t.kind, .string t.name]
def c0I(t:a6l):List Value:=[.string t.name, .int .i64 t.ty.kind, .string t.ty.name]
def xIn(t:XIn):List Value:=[.int .i64 t.op, .int .i64 t.a, .string t.cls, .string t.mem]
def xHd(t:XHd):List Value:=[.int .i64 t.from_, .int .i64 t.to, .int .i64 t.at_, .string t.cls]
variable {α:Type}
theorem C0.keepP{lim:Nat}{enc:α→List Value}{a:Option Addr}{xs:List α}(h:C0 w lim sz enc a xs)(hk:G0 w w' b)(hl:lim≤b)(hb:b<w.heap.size):C0 w' lim sz enc a xs:=by
 intro j hj;obtain⟨p,h1,h2,h3⟩:=h j hj;exact⟨p,h1,h2,fun r u hu=>hk.cell (h3 r u hu) (by rw[a1l];omega) hb⟩
def a7Y(t:XTy):Prop:=X6 t.kind∧j8 t.name
def b9L(t:a6l):Prop:=j8 t.name∧a7Y t.ty
def T5(t:XIn):Prop:=X6 t.op∧X6 t.a∧j8 t.cls∧j8 t.mem
def c0M(t:XHd):Prop:=X6 t.from_∧X6 t.to∧X6 t.at_∧j8 t.cls
structure a7Z(m:XMe):Prop where
 name:j8 m.name
 ret:a7Y m.ret
 stack:X6 m.stack
 locals:X6 m.locals
 params:∀j (hj:j<m.params.length),a7Y m.params[j]
 code:∀j (hj:j<m.code.length),T5 m.code[j]
 handlers:∀j (hj:j<m.handlers.length),c0M m.handlers[j]
def a0S(m:XMe):Nat:=12+3*m.params.length+5*m.code.length+5*m.handlers.length
theorem a4y(f:α→List T6)(xs:List α)(j:Nat)(hj:j<xs.length)(r:Option WS):G4 ((xs.take (j+1)).flatMap f) r=G4 (f xs[j]) (G4 ((xs.take j).flatMap f) r):=by
 rw[List.take_succ_eq_append_getElem hj,List.flatMap_append,a4q];simp
set_option maxRecDepth 100000 in
set_option maxHeartbeats 2000000 in
theorem b3q(w:World)(b lim:Nat)(k:Nat)(r:Option WS)(m:XMe)(pa ca ha:Option Addr)(pk ck hk0:Nat)(hl:lim≤b)(hm:Hid (a7Z m))(h:Hid (E8 w b k r))(hc:k+a0S m≤2^40)
 (hrp:Hid (C0 w lim 2 xTy pa m.params)) (hrc:Hid (C0 w lim 4 xIn ca m.code)) (hrh:Hid (C0 w lim 4 xHd ha m.handlers)):
 Calls Tryz.prog 113 #[.pointer (some ⟨b,0,none⟩), .agg #[.string m.name, .slice pa m.params.length pk, .int .i64 m.ret.kind, .string m.ret.name, .int .i64 m.stack, .int .i64 m.locals, .slice ca m.code.length ck, .slice ha m.handlers.length hk0]] w
  fun e w'=>e= .returned (.tuple #[])∧G0 w w' b∧E8 w' b (k+a0S m) (G4 (a2D m) r):=by
 have hbl:=h.out.lt;have hne:w.heap.size≠b:=by omega
 have hlp:m.params.length≤1099511627776:=by unfold a0S at hc;omega
 have hlc:m.code.length≤1099511627776:=by unfold a0S at hc;omega
 have hlh:m.handlers.length≤1099511627776:=by unfold a0S at hc;omega
 have hcc:k+(12+3*m.params.length+5*m.code.length+5*m.handlers.length)≤1099511627776:=by unfold a0S at hc;omega
 have HS0:Hid (E8 (w.alloc (.cells #[.string m.name, .slice pa m.params.length pk, .int .i64 m.ret.kind, .string m.ret.name, .int .i64 m.stack, .int .i64 m.locals, .slice ca m.code.length ck, .slice ha m.handlers.length hk0] 102)) b k r):=h.out.keep (A2 _ _ _);have HB0:Hid (A3 (w.alloc (.cells #[.string m.name, .slice pa m.params.length pk, .int .i64 m.ret.kind, .string m.ret.name, .int .i64 m.stack, .int .i64 m.locals, .slice ca m.code.length ck, .slice ha m.handlers.length hk0] 102)) w.heap.size #[.string m.name, .slice pa m.params.length pk, .int .i64 m.ret.kind, .string m.ret.name, .int .i64 m.stack, .int .i64 m.locals, .slice ca m.code.length ck, .slice ha m.handlers.length hk0] 102):=A3.new _ _ _;have HK0:Hid (G0 w (w.alloc (.cells #[.string m.name, .slice pa m.params.length pk, .int .i64 m.ret.kind, .string m.ret.name, .int .i64 m.stack, .int .i64 m.locals, .slice ca m.code.length ck, .slice ha m.handlers.length hk0] 102)) b):= .ofNone (A2 _ _ _);have hnm:=hm.out.name;go_enter Tryz.func113,Tryz.ntmps113
 go_wp2_with (first
  |(go_at_call 111
    refine(T1 _ b (k+2) _ (m.params.length:Int) 1 (by omega) (by omega) HS1 (by omega)).mono ?_;rintro e w2 ⟨rfl,hk2,hp2⟩;have HS2:Hid (E8 w2 b (k+3) ((r.bind (E1 (.nm m.name))).bind (E1 (.num (m.params.length:Int) 1)))):=hp2;have HB2:=A0 (hk2.blk HB1.out (by omega) (by decide));have HK2:=A0 (HK1.out.trans hk2);clear hk2 hp2 HS1 HB1 HK1 d0 d1;try dsimp only)
  |(go_at_call 110
    refine(a1N _ b k r m.name hnm HS0 (by omega)).mono ?_;rintro e w1 ⟨rfl,hk1,hp1⟩;have HS1:=A0 hp1;have HB1:=A0 (hk1.blk HB0.out (by omega) (by decide));have HK1:=A0 (HK0.out.trans hk1);have d0:=HB1.out.cell 0 _ rfl;have d1:=HB1.out.cell 1 _ rfl;clear hk1 hp1 HS0 HB0 HK0;try dsimp only))
 obtain⟨r2,hr2⟩:∃r2,r2=(r.bind (E1 (.nm m.name))).bind (E1 (.num (m.params.length:Int) 1)):=⟨_,rfl⟩
 rw[←hr2]at HS2;have HR2:=A0 hr2;clear hr2;go_loopw [4] (fun i wr=>∃j:Nat,j≤m.params.length∧i= .int .i64 j∧E8 wr b (k+3+3*j) (G4 ((m.params.take j).flatMap X4) r2)∧G0 w wr b∧A3 wr w.heap.size #[.string m.name, .slice pa m.params.length pk, .int .i64 m.ret.kind, .string m.ret.name, .int .i64 m.stack, .int .i64 m.locals, .slice ca m.code.length ck, .slice ha m.handlers.length hk0] 102) (fun i _=>m.params.length-(intOf i).toNat)
 case atStart=>exact⟨0,Nat.zero_le _,rfl,HS2.out,HK2.out,HB2.out⟩
 case round=>
  clear HS2 HK2 HB2;obtain⟨j,hj,rfl,hps,hkp,hbk⟩:=hrel;have HS:=A0 hps;have HK:=A0 hkp;have HB:=A0 hbk;clear hps hkp hbk;have e1:=HB.out.cell 1 _ rfl;by_cases hlt:j<m.params.length
  ·obtain⟨p,rfl,hp1,hpc⟩:=hrp.out.keepP HK.out hl hbl j hlt;have f0:wr.cell? (p.add (j*2))=some (.int .i64 m.params[j].kind):=hpc 0 _ rfl;have f1:wr.cell? ⟨(p.add (j*2)).block,(p.add (j*2)).off+1,none⟩=some (.string m.params[j].name):=by rw[j6 p (j*2) 0];exact hpc 1 _ rfl
   clear hpc;have hok:=hm.out.params j hlt;go_wp2_with (go_at_call 112;refine(a6S wr b _ _ m.params[j] hok.1 hok.2 HS (by omega)).mono ?_;rintro e w4 ⟨rfl,hk4,hp4⟩;try dsimp only)
   exact⟨⟨j+1,hlt,by go_num,by rw[a4y X4 m.params j hlt];exact hp4.mono (by omega) (by omega),HK.out.trans hk4,hk4.blk HB.out (by omega) (by decide)⟩,by simp[intOf];omega⟩
  ·have hje:j=m.params.length:=by omega
   subst hje;obtain⟨r3,hr3⟩:∃r3,r3=G4 (m.params.flatMap X4) r2:=⟨_,rfl⟩
   have HR3:=A0 hr3
   have HS3:Hid (E8 wr b (k+3+3*m.params.length) r3):=by
    have:=HS.out;rw[List.take_length,←hr3]at this;exact this
   clear hr3 HS;have e2:=HB.out.cell 2 _ rfl;have e3:=HB.out.cell 3 _ rfl;have hrt:=hm.out.ret;have hst:=hm.out.stack;have hlo:=hm.out.locals;have hst1: -9223372036854775808≤m.stack∧m.stack≤9223372036854775807:=hst;have hlo1: -9223372036854775808≤m.locals∧m.locals≤9223372036854775807:=hlo
   go_wp2_with (first
    |(go_at_call 111
      refine(T1 _ b _ _ (m.code.length:Int) 2 (by omega) (by omega) HS6 (by omega)).mono ?_;rintro e w7 ⟨rfl,hk7,hp7⟩;have HS7:Hid (E8 w7 b (k+9+3*m.params.length) ((((G4 (X4 m.ret) r3).bind (E1 (.num m.stack 1))).bind (E1 (.num m.locals 1))).bind (E1 (.num (m.code.length:Int) 2)))):=hp7.mono (by omega) (by omega);have HB7:=A0 (hk7.blk HB6.out (by omega) (by decide));have HK7:=A0 (HK6.out.trans hk7);clear hk7 hp7 HS6 HB6 HK6 d5;try dsimp only)
    |(go_at_call 111
      refine(T1 _ b _ _ m.locals 1 (by omega) hlo1 HS5 (by omega)).mono ?_;rintro e w6 ⟨rfl,hk6,hp6⟩;have HS6:Hid (E8 w6 b (k+8+3*m.params.length) (((G4 (X4 m.ret) r3).bind (E1 (.num m.stack 1))).bind (E1 (.num m.locals 1)))):=hp6.mono (by omega) (by omega);have HB6:=A0 (hk6.blk HB5.out (by omega) (by decide));have HK6:=A0 (HK5.out.trans hk6);have d5:=HB6.out.cell 6 _ rfl;clear hk6 hp6 HS5 HB5 HK5 d4;try dsimp only)
    |(go_at_call 111
      refine(T1 _ b _ _ m.stack 1 (by omega) hst1 HS4 (by omega)).mono ?_;rintro e w5 ⟨rfl,hk5,hp5⟩;have HS5:Hid (E8 w5 b (k+7+3*m.params.length) ((G4 (X4 m.ret) r3).bind (E1 (.num m.stack 1)))):=hp5.mono (by omega) (by omega);have HB5:=A0 (hk5.blk HB4.out (by omega) (by decide));have HK5:=A0 (HK4.out.trans hk5);have d4:=HB5.out.cell 5 _ rfl;clear hk5 hp5 HS4 HB4 HK4 d3;try dsimp only)
    |(go_at_call 112
      refine(a6S wr b _ _ m.ret hrt.1 hrt.2 HS3 (by omega)).mono ?_;rintro e w4 ⟨rfl,hk4,hp4⟩;have HS4:Hid (E8 w4 b (k+6+3*m.params.length) (G4 (X4 m.ret) r3)):=hp4.mono (by omega) (by omega);have HB4:=A0 (hk4.blk HB.out (by omega) (by decide));have HK4:=A0 (HK.out.trans hk4);have d3:=HB4.out.cell 4 _ rfl;clear hk4 hp4 HS3 e1 e2 e3;try dsimp only))
   obtain⟨r7,hr7⟩:∃r7,r7=(((G4 (X4 m.ret) r3).bind (E1 (.num m.stack 1))).bind (E1 (.num m.locals 1))).bind (E1 (.num (m.code.length:Int) 2)):=⟨_,rfl⟩
   rw[←hr7]at HS7;have HR7:=A0 hr7;clear hr7 HK HB hj hlt;go_loopw [5] (fun i wr=>∃j:Nat,j≤m.code.length∧i= .int .i64 j∧E8 wr b (k+9+3*m.params.length+5*j) (G4 ((m.code.take j).flatMap a1r) r7)∧G0 w wr b∧A3 wr w.heap.size #[.string m.name, .slice pa m.params.length pk, .int .i64 m.ret.kind, .string m.ret.name, .int .i64 m.stack, .int .i64 m.locals, .slice ca m.code.length ck, .slice ha m.handlers.length hk0] 102) (fun i _=>m.code.length-(intOf i).toNat)
   case atStart=>exact⟨0,Nat.zero_le _,rfl,HS7.out,HK7.out,HB7.out⟩
   case round=>
    clear HS7 HK7 HB7;obtain⟨j,hj,rfl,hps,hkp,hbk⟩:=hrel;have HS:=A0 hps;have HK:=A0 hkp;have HB:=A0 hbk;clear hps hkp hbk;have e1:=HB.out.cell 6 _ rfl;by_cases hlt:j<m.code.length
    ·obtain⟨p,rfl,hp1,hpc⟩:=hrc.out.keepP HK.out hl hbl j hlt;have f0:wr.cell? (p.add (j*4))=some (.int .i64 m.code[j].op):=hpc 0 _ rfl;have f1:wr.cell? ⟨(p.add (j*4)).block,(p.add (j*4)).off+1,none⟩=some (.int .i64 m.code[j].a):=by rw[j6 p (j*4) 0];exact hpc 1 _ rfl
     have f2:wr.cell? ⟨(p.add (j*4)).block,(p.add (j*4)).off+2,none⟩=some (.string m.code[j].cls):=by rw[j6 p (j*4) 1];exact hpc 2 _ rfl
     have f3:wr.cell? ⟨(p.add (j*4)).block,(p.add (j*4)).off+3,none⟩=some (.string m.code[j].mem):=by rw[j6 p (j*4) 2];exact hpc 3 _ rfl
     clear hpc;have hok:=hm.out.code j hlt;go_wp2_with (go_at_call 174;refine(b6W wr b _ _ m.code[j] hok.1 hok.2.1 hok.2.2.1 hok.2.2.2 HS (by omega)).mono ?_;rintro e w4 ⟨rfl,hk4,hp4⟩;try dsimp only)
     exact⟨⟨j+1,hlt,by go_num,by rw[a4y a1r m.code j hlt];exact hp4.mono (by omega) (by omega),HK.out.trans hk4,hk4.blk HB.out (by omega) (by decide)⟩,by simp[intOf];omega⟩
    ·have hje:j=m.code.length:=by omega
     subst hje;obtain⟨r8,hr8⟩:∃r8,r8=G4 (m.code.flatMap a1r) r7:=⟨_,rfl⟩
     have HR8:=A0 hr8
     have HS8:Hid (E8 wr b (k+9+3*m.params.length+5*m.code.length) r8):=by
      have:=HS.out;rw[List.take_length,←hr8]at this;exact this
     clear hr8 HS;have e2:=HB.out.cell 7 _ rfl;go_wp2_with (go_at_call 111;refine(T1 wr b _ _ (m.handlers.length:Int) 1 (by omega) (by omega) HS8 (by omega)).mono ?_;rintro e w9 ⟨rfl,hk9,hp9⟩;try dsimp only)
     obtain⟨r9,hr9⟩:∃r9,r9=r8.bind (E1 (.num (m.handlers.length:Int) 1)):=⟨_,rfl⟩
     rw[←hr9]at hp9;have HR9:=A0 hr9;have HS9:Hid (E8 w9 b (k+10+3*m.params.length+5*m.code.length) r9):=hp9.mono (by omega) (by omega);have HB9:=A0 (hk9.blk HB.out (by omega) (by decide));have HK9:=A0 (HK.out.trans hk9);clear hr9 hp9 hk9 HS8 HK HB e1 e2 hj hlt;go_loopw [6] (fun i wr=>∃j:Nat,j≤m.handlers.length∧i= .int .i64 j∧E8 wr b (k+10+3*m.params.length+5*m.code.length+5*j) (G4 ((m.handlers.take j).flatMap a1Z) r9)∧G0 w wr b∧A3 wr w.heap.size #[.string m.name, .slice pa m.params.length pk, .int .i64 m.ret.kind, .string m.ret.name, .int .i64 m.stack, .int .i64 m.locals, .slice ca m.code.length ck, .slice ha m.handlers.length hk0] 102) (fun i _=>m.handlers.length-(intOf i).toNat)
     case atStart=>exact⟨0,Nat.zero_le _,rfl,HS9.out,HK9.out,HB9.out⟩
     case round=>
      clear HS9 HK9 HB9;obtain⟨j,hj,rfl,hps,hkp,hbk⟩:=hrel;have HS:=A0 hps;have HK:=A0 hkp;have HB:=A0 hbk;clear hps hkp hbk;have e1:=HB.out.cell 7 _ rfl;by_cases hlt:j<m.handlers.length
      ·obtain⟨p,rfl,hp1,hpc⟩:=hrh.out.keepP HK.out hl hbl j hlt;have f0:wr.cell? (p.add (j*4))=some (.int .i64 m.handlers[j].from_):=hpc 0 _ rfl;have f1:wr.cell? ⟨(p.add (j*4)).block,(p.add (j*4)).off+1,none⟩=some (.int .i64 m.handlers[j].to):=by rw[j6 p (j*4) 0];exact hpc 1 _ rfl
       have f2:wr.cell? ⟨(p.add (j*4)).block,(p.add (j*4)).off+2,none⟩=some (.int .i64 m.handlers[j].at_):=by rw[j6 p (j*4) 1];exact hpc 2 _ rfl
       have f3:wr.cell? ⟨(p.add (j*4)).block,(p.add (j*4)).off+3,none⟩=some (.string m.handlers[j].cls):=by rw[j6 p (j*4) 2];exact hpc 3 _ rfl
       clear hpc;have hok:=hm.out.handlers j hlt;have h64a: -9223372036854775808≤m.handlers[j].from_∧m.handlers[j].from_≤9223372036854775807:=hok.1;have h64b: -9223372036854775808≤m.handlers[j].to∧m.handlers[j].to≤9223372036854775807:=hok.2.1;have h64c: -9223372036854775808≤m.handlers[j].at_∧m.handlers[j].at_≤9223372036854775807:=hok.2.2.1;have hbw:=HS.out.lt;have HSA:Hid (E8 (wr.alloc (.cells #[.int .i64 m.handlers[j].from_, .int .i64 m.handlers[j].to, .int .i64 m.handlers[j].at_, .string m.handlers[j].cls] 202)) b (k+10+3*m.params.length+5*m.code.length+5*j) (G4 ((m.handlers.take j).flatMap a1Z) r9)):=HS.out.keep (A2 _ _ _);have HHA:Hid (A3 (wr.alloc (.cells #[.int .i64 m.handlers[j].from_, .int .i64 m.handlers[j].to, .int .i64 m.handlers[j].at_, .string m.handlers[j].cls] 202)) wr.heap.size #[.int .i64 m.handlers[j].from_, .int .i64 m.handlers[j].to, .int .i64 m.handlers[j].at_, .string m.handlers[j].cls] 202):=A3.new _ _ _;have HBA:Hid (A3 (wr.alloc (.cells #[.int .i64 m.handlers[j].from_, .int .i64 m.handlers[j].to, .int .i64 m.handlers[j].at_, .string m.handlers[j].cls] 202)) w.heap.size #[.string m.name, .slice pa m.params.length pk, .int .i64 m.ret.kind, .string m.ret.name, .int .i64 m.stack, .int .i64 m.locals, .slice ca m.code.length ck, .slice (some p) m.handlers.length hk0] 102):=HB.out.keep (A2 _ _ none) (by simp);have HKA:Hid (G0 w (wr.alloc (.cells #[.int .i64 m.handlers[j].from_, .int .i64 m.handlers[j].to, .int .i64 m.handlers[j].at_, .string m.handlers[j].cls] 202)) b):=HK.out.trans (.ofNone (A2 _ _ _));go_wp2_with (first
      |(go_at_call 110
        refine(a1N _ b _ _ m.handlers[j].cls hok.2.2.2 HS13 (by omega)).mono ?_;rintro e w14 ⟨rfl,hk14,hp14⟩;try dsimp only)
      |(go_at_call 111
        refine(T1 _ b _ _ m.handlers[j].at_ 2 (by omega) h64c HS12 (by omega)).mono ?_;rintro e w13 ⟨rfl,hk13,hp13⟩;have HS13:Hid (E8 w13 b (k+10+3*m.params.length+5*m.code.length+5*j+3) ((((G4 ((m.handlers.take j).flatMap a1Z) r9).bind (E1 (.num m.handlers[j].from_ 2))).bind (E1 (.num m.handlers[j].to 2))).bind (E1 (.num m.handlers[j].at_ 2)))):=hp13.mono (by omega) (by omega);have HH13:=A0 (hk13.blk HH12.out (by omega) (by decide));have HB13:=A0 (hk13.blk HB12.out (by omega) (by decide));have HK13:=A0 (HK12.out.trans hk13);have g3:=HH13.out.cell 3 _ rfl;clear hk13 hp13 HS12 HH12 HB12 HK12;try dsimp only)
      |(go_at_call 111
        refine(T1 _ b _ _ m.handlers[j].to 2 (by omega) h64b HS11 (by omega)).mono ?_;rintro e w12 ⟨rfl,hk12,hp12⟩;have HS12:Hid (E8 w12 b (k+10+3*m.params.length+5*m.code.length+5*j+2) (((G4 ((m.handlers.take j).flatMap a1Z) r9).bind (E1 (.num m.handlers[j].from_ 2))).bind (E1 (.num m.handlers[j].to 2)))):=hp12.mono (by omega) (by omega);have HH12:=A0 (hk12.blk HH11.out (by omega) (by decide));have HB12:=A0 (hk12.blk HB11.out (by omega) (by decide));have HK12:=A0 (HK11.out.trans hk12);have g2:=HH12.out.cell 2 _ rfl;clear hk12 hp12 HS11 HH11 HB11 HK11;try dsimp only)
      |(go_at_call 111
        refine(T1 _ b _ _ m.handlers[j].from_ 2 (by omega) h64a HSA (by omega)).mono ?_;rintro e w11 ⟨rfl,hk11,hp11⟩;have HS11:Hid (E8 w11 b (k+10+3*m.params.length+5*m.code.length+5*j+1) ((G4 ((m.handlers.take j).flatMap a1Z) r9).bind (E1 (.num m.handlers[j].from_ 2)))):=hp11.mono (by omega) (by omega);have HH11:=A0 (hk11.blk HHA.out (by omega) (by decide));have HB11:=A0 (hk11.blk HBA.out (by omega) (by decide));have HK11:=A0 (HKA.out.trans hk11);have g1:=HH11.out.cell 1 _ rfl;clear hk11 hp11 HSA HHA HBA HKA;try dsimp only))
       have hfin:E8 w14 b (k+10+3*m.params.length+5*m.code.length+5*(j+1)) (G4 ((m.handlers.take (j+1)).flatMap a1Z) r9):=by
        rw[a4y a1Z m.handlers j hlt];exact hp14.mono (by omega) (by omega)
       exact⟨⟨j+1,hlt,by go_num,hfin,HK13.out.trans hk14,hk14.blk HB13.out (by omega) (by decide)⟩,by simp[intOf];omega⟩
      ·have hje:j=m.handlers.length:=by omega
       subst hje;go_wp2_with fail
       go_end0;have hS:=HS.out;rw[List.take_length]at hS;refine⟨rfl,HK.out,?_⟩
       have hfin:G4 (m.handlers.flatMap a1Z) r9=G4 (a2D m) r:=by
        rw[HR9.out,HR8.out,HR7.out,HR3.out,HR2.out];simp only[a2D,a3c,a3u,a4q,List.cons_append,List.append_assoc,List.nil_append]
       rw[←hfin];exact hS.mono (by unfold a0S;omega) hc
end Go.Proofs.YtdhophglnhcjbaaGreatDoor
