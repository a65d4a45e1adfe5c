/- P05: a part of the proof that the last text tells. -/
import Derived.Test.YtdhophglnhcjbaaGreatDoorP04
import Derived.Deep.LoopGhost
import Derived.WalkMore
import Derived.Lib.Mul64
import Derived.Laws.Bits64b
import Derived.Shelf.Bits.Mul64
import Derived.Laws.CopyOwn
import Derived.Deep.RegionHeld
import Derived.OwnWalk
import Derived.RegionTactic
set_option linter.all false
set_option maxRecDepth 100000
set_option maxHeartbeats 40000000
open Go.Proofs.Tryz
namespace Go.Proofs.YtdhophglnhcjbaaGreatDoor
section
theorem c7q{P:Prop}(h:P:=by
 simpa[Addr.add_lit]using this):P:=h
theorem a1g{P:Prop}(h:P:=by
 first|omega|(go_num;omega)|(simp[intOf];omega)):P:=h
theorem a2q{P:Prop}(h:P:=by
 go_wp2_with (first|(go_at_call 229;go_loud (refine(HIT.out _ (A1 HGW.out (A2 _ _ none))).mono ?_;rintro e w1 ⟨rfl,hg1⟩;obtain⟨hc1,hf1⟩:=a5i hg1;have hz1:wr.heap.size<w1.heap.size:=by(have:=hg1.size;simp only[World.size_alloc]at this;omega)))|(go_at_call 250;go_loud (refine(HIE.out _).mono ?_;rintro e w9 ⟨rfl,rfl⟩)))
 exact bodyPost_ret (v:= .tuple #[.int .i64 j, .bool true]) (by simp[results,results164,go_sem]) rfl ⟨by rw[HFJ.out];rfl,A1 (A1 HGW.out (A2 _ _ none)) hg1⟩):P:=h
theorem a4p{P:Prop}(h:P:=by
 refine⟨p,h1,h2,fun k u hu=>hs.cell (hg1.cell (h3 k u hu) ?_) ?_⟩
 ·rw[U9];intro e;obtain⟨g',cap,cur,e1,e2,-⟩:=h.st.2.resolve_left (fun e4=>by have:=hr _ e.symm;rw[e4.1]at this;cases this);have e5:=hr _ e.symm;rw[e1]at e5;have:=Option.some.inj e5;dsimp only at this;omega
 ·rw[U9];intro e;have:=Option.some.inj e;have:=h.low;dsimp only at*;omega):P:=h
theorem a4r{P:Prop}(h:P:=by
 have h:=a6H (L:=L) (k:=k) (m:=m) (c:=c) (by rw[hc];exact HR.out.done) (by rw[hc,HR.out.len];exact Nat.mul_le_mul_right _ HMP.out.2.1);rw[hc,←HKK.out,←HK2.out]at h;exact⟨HR3.out,h.1.trans HR.out.len,h.2,D5 HR.out.gb (D5 (B6 _ _) hg3 (fun k e=> .inr e.symm)) (fun k e=> .inl (by cases e;exact Nat.le_refl _))⟩):P:=h
theorem a5q{P:Prop}(h:P:=by
 have h:=a6H (L:=cur) (k:=0) (m:=m0) (c:=c) (by rw[Nat.zero_mul];simp[C8]) (by rw[Nat.zero_add,hc,HCL.out];exact Nat.mul_le_mul_right _ hm1);rw[Nat.zero_mul,Nat.zero_add,hc]at h;exact⟨HR2.out,h.1.trans HCL.out,h.2,D5 HG1.out hg2 (fun k e=> .inl (by cases e;exact Nat.le_refl _))⟩):P:=h
theorem a6v{P:Prop}(h:P:=by
 go_simp
 try with_reducible rfl):P:=h
theorem a6w{P:Prop}(h:P:=by
 have hk3:k=n:=by omega
 subst hk3;have d1:decide ((k:Int)<(k:Int))=false:=decide_eq_false (by omega);go_wp2_with fail
 go_ret;exact⟨w.heap.size,rfl,a8P HR.out.row HR.out.len HR.out.done hs1 (by unfold maxLen;omega),HR.out.gb⟩):P:=h
theorem c5d{P:Prop}(h:P:=by
 simp only[List.getElem?_toArray,List.getElem?_set];rw[if_neg (by omega),if_neg (by omega),if_neg (by omega)]):P:=h
theorem c5n{P:Prop}(h:P:=by
 show wr.cell? _=_;rcases Nat.eq_zero_or_pos j with e|e
 ·subst e;have:=HR.out.row;simp[World.cell?,this,Addr.add_lit,h2]
 ·have:=HR.out.row;simp[World.cell?,this,Addr.add_lit,h2]):P:=h
theorem c5s{P:Prop}(h:P:=by
 rw[HM0.out]at h;by_cases h0:n=0
 ·subst h0;rw[show Nat.min 1 0=0 from rfl,b1F]at h;cases h
 ·rw[show Nat.min 1 n=1 by show min 1 n=1;omega,a9o]at h;exact hsrc1 j v h):P:=h
theorem c5v{P:Prop}(h:P:=by
 exact⟨j+1,by first|rfl|go_num,by omega,A1 (A1 HG1W.out (A2 _ _ none)) hg1,fun r hr=>by
  by_cases e:r=j
  ·rw[e];exact HCF.out
  ·exact HALL.out r (by omega)⟩):P:=h
theorem c5y{P:Prop}(h:P:=by
 have h4:=b1G (m:=m) (n:=k) c HMP.out.2.2;rw[←HR.out.done,hc]at h4;rw[←h4,List.take_take,Nat.min_eq_left (Nat.mul_le_mul_right _ HMP.out.2.2)]):P:=h
theorem c6k{P:Prop}(h:P:=by
 show 0+(C8 m0 c).length≤cur.length;rw[a0M,hcl,hc,HM0.out,Nat.zero_add];exact Nat.mul_le_mul_right _ (Nat.min_le_right _ _)):P:=h
theorem c6l{P:Prop}(h:P:=by
 exact⟨hg3.cell Q8 A5,hg3.cell Q4 A5,hg3.cell Q30 A5,hg3.cell Q31 A5,hg3.cell QE0 A5,hg3.cell QE1 A5,hg3.cell QE2 A5⟩):P:=h
theorem c6n{P:Prop}(h:P:=by
 exact⟨k2,_,rfl,by have:=HK2.out;have:=HMP.out;omega, .inl (by have:=HK2.out;have:=HMP.out;omega),HRN.out⟩):P:=h
theorem c6r{P:Prop}(h:P:=by
 cases c with
 |nil=>simp at hc
 |cons v t=>exact World.block_lt_of_cell? w _ (by have:=hsrc 0 v rfl;exact this)):P:=h
theorem c6t{P:Prop}(h:P:=by
 rcases hwork.2 with⟨e1,-⟩|⟨q',cap,cur,e1,-,-,-,h6,-⟩
 ·cases e1
 ·injection e1 with _ _ e3;omega):P:=h
theorem c6y{P:Prop}(h:P:=by
 apply List.ext_getElem
 ·simp[madeCells]
 ·intro i h1 h2;simp[madeCells,Value.cells,Nat.mod_one]):P:=h
theorem c7b{P:Prop}(h:P:=by
 show _≤_;rw[a0M,hc,HR.out.len,←Nat.add_mul];exact Nat.mul_le_mul_right _ HMP.out.2.1):P:=h
theorem c7c{P:Prop}(h:P:=by
 show _∨_;rw[hm0];by_cases h0:n=0
 ·exact .inr h0
 ·exact .inl (by show 0<min 1 n;omega)):P:=h
end
section
open Go.RowKit Go.Shelf Cf
namespace Kx
def a6t(w:World)(eg:Nat)(L:List Cl)(m:Me):Prop:=∃cs:Array Value,A3 w eg cs 315∧∀a,a<m.code.length→∃ta tk ua uk,cs[a*3]? =some (.slice ta (G8 L m (A6 m a)) tk)∧cs[a*3+1]? =some (.slice ua (M6 L (A6 m a)) uk)∧cs[a*3+2]? =some (.bool (U2 (A6 m a)))
variable {w w':World}
variable {base sz:Nat}
variable {m:Me}
theorem a6t.fr{eg:Nat}{L:List Cl}(h:a6t w eg L m)(hf:Fr base w w'):a6t w' eg L m:=by
 obtain⟨cs,h1,h2⟩:=h;exact⟨cs,hf.eff eg cs (0,0) h1,h2⟩
theorem B8.low{α:Type}{lim:Nat}{enc:α→List Value}{a:Option Addr}{xs:List α}(h:B8 w lim sz enc a xs)(hf:Fr base w w')(hl:lim≤base):B8 w' lim sz enc a xs:=by
 intro j hj;obtain⟨p,h1,h2,h3⟩:=h j hj;exact⟨p,h1,h2,fun k u hu=>(World.cell?_of_block (hf.low _ (by rw[U9];omega))).trans (h3 k u hu)⟩
structure a0e(w0 wr:World)(base b eg hg sg wg:Nat)(g:Nat→Nat)(L:List Cl)(m:Me)(pa:Option Addr)(pk:Nat)(ca:Option Addr)(ck:Nat)(ha:Option Addr)(hk:Nat)(s:Wk)(wa:Option Addr)(wk:Nat)(cur:Option (Nat×Nat))(K:Nat):Prop where
 mem:L4 wr base b eg hg sg wg g m pa pk ca ck ha hk m.code.length m.stack s wa wk
 snd:U3 L m s
 gone:p8 L m s cur
 zero:sq s.seen 0 0=true
 mu:a1u s≤K
 fr:Fr base w0 wr
theorem a4K{a:Nat}(h:a<m.code.length):A6 m a∈m.code:=by unfold A6;simp[h]
theorem a9b(i:In)(a:Nat):(G4 i a).length≤2:=by
 unfold G4;by_cases c:i.op=20∨i.op=30
 ·rw[if_pos c];exact Nat.zero_le _
 rw[if_neg c];clear c;by_cases c:i.op=12
 ·rw[if_pos c];exact Nat.le_succ _
 rw[if_neg c];clear c;by_cases c:13≤i.op∧i.op≤15
 ·rw[if_pos c];exact Nat.le_refl _
 rw[if_neg c];exact Nat.le_succ _
theorem a3s(l:List (Nat×Nat)):(l.flatMap O8).length=l.length*2:=by
 induction l with
 |nil=>rfl
 |cons x l ih=>exact b4a
theorem a3X{e g n k:Nat}{cs:List Value}(h:w.ownsRow base e sz (.slice (some ⟨g,0,none⟩) n k) n cs):n≤k:=by
 rcases h.2 with⟨h1,_⟩|⟨g',cap,cur,hv,_,_,hc,_⟩
 ·cases h1
 ·injection hv with _ _ h3;omega
def RnR(w0:World)(base b eg hg sg wg:Nat)(g:Nat→Nat)(L:List Cl)(m:Me)(pa:Option Addr)(pk:Nat)(ca:Option Addr)(ck:Nat)(ha:Option Addr)(hk:Nat)(p:Nat×Nat)(K B3 j:Nat)(W:World):Prop:=∃s wa wk,a0e w0 W base b eg hg sg wg g L m pa pk ca ck ha hk s wa wk (some p) K∧A3 W B3 #[.int .i64 p.1, .int .i64 p.2] 372∧(∀i,i<j→∀(hi:i<m.handlers.length),a0C m.handlers[i] p.1=true→(m.stack≠0→sq s.seen m.handlers[i].at_ 1=true)∧(m.stack=0→wq s.wrong p.1=true))∧∀q',wa=some q'→B3≠q'.block
def Rn3(w0:World)(base b eg hg sg wg:Nat)(g:Nat→Nat)(L:List Cl)(m:Me)(pa:Option Addr)(pk:Nat)(ca:Option Addr)(ck:Nat)(ha:Option Addr)(hk:Nat)(p:Nat×Nat)(K bn B5:Nat)(a5:Option Addr)(k5:Nat)(gl:List Nat)(j:Nat)(W:World):Prop:=∃s wa wk,a0e w0 W base b eg hg sg wg g L m pa pk ca ck ha hk s wa wk (some p) K∧(∀d∈m.handlers,a0C d p.1=true→(m.stack≠0→sq s.seen d.at_ 1=true)∧(m.stack=0→wq s.wrong p.1=true))∧(∀i,i<j→sq s.seen (gl.getD i 0) bn=true)∧(∀q' r,wa=some q'→a5=some r→r.block≠q'.block)∧W.ownsRow B5 3 1 (.slice a5 gl.length k5) gl.length (gl.flatMap j7)∧hg<B5∧B5≤W.heap.size
def a9P(b B3:Nat)(t:Nat→Value):Act:={tmps:= #[.pointer (some ⟨b,0,none⟩),undef,t 2, .pointer (some ⟨B3,0,none⟩),undef,t 5,t 6,t 7,undef,t 9, .pointer (some ⟨b,0,none⟩), .tuple #[],t 12,t 13,t 14,t 15,t 16,t 17,t 18,t 19,t 20,t 21,t 22,t 23,t 24,t 25,t 26,t 27,t 28,t 29,t 30,t 31,t 32,t 33,t 34,t 35,t 36,t 37,t 38,t 39,t 40,t 41,t 42,t 43,t 44,t 45,t 46,t 47,t 48,t 49,t 50,t 51,t 52,t 53,t 54,t 55,t 56,t 57,t 58,t 59,t 60,t 61,t 62,t 63,t 64,t 65,t 66,t 67,t 68,t 69,t 70,t 71,t 72,t 73,t 74,t 75,t 76,t 77,t 78,t 79,t 80,t 81,t 82,t 83,t 84,t 85,t 86,t 87,t 88,t 89,t 90,t 91,t 92,t 93,t 94,t 95,t 96,t 97,t 98,t 99,t 100,t 101,t 102,t 103,t 104,t 105,t 106,t 107,t 108,t 109,t 110,t 111,t 112,t 113,t 114,t 115,t 116,t 117,t 118,t 119,t 120,t 121,t 122,t 123,t 124],defers:=[]}
def RnJ(b B3:Nat)(R:World→Prop)(a:Act)(w:World):Prop:=R w∧∃t:Nat→Value,a=a9P b B3 t
theorem b2p{P:Program}{c:Code}{a:Act}{i:Nat}{J K:Act→World→Prop}{Q:Exit→Act→World→Prop}(hJ:∀a w,J a w→K a w)
 (h:c.wp P (Exit.inBlock i (Exit.then J (fun _ _ _=>False))) a w):c.wp P (Exit.inBlock i (Exit.then K Q)) a w:=by
 refine Code.wp_mono ?_ h;intro e a w he
 have key:∀e a w,Exit.then J (fun _ _ _=>False) e a w→Exit.then K Q e a w:=by
  intro e a w he;cases e<;>first|exact hJ _ _ he|exact he.elim
 revert he;cases e<;>simp only[Exit.inBlock]<;>intro he
 all_goals first
  |exact key _ _ _ he
  |(split at he<;>split<;>first|exact key _ _ _ he|contradiction)
theorem b2w(s:Wk):s.work.length≤a1u s:=by unfold a1u;omega
section
variable{w0 wr w':World}{base b eg hg sg wg:Nat}{g:Nat→Nat}{L:List Cl}{m:Me}{pa:Option Addr}{pk:Nat}{ca:Option Addr}{ck:Nat}{ha:Option Addr}{hk:Nat}{s:Wk}{wa:Option Addr}{wk:Nat}{cur:Option (Nat×Nat)}{K:Nat}
theorem a0e.keep(h:a0e w0 wr base b eg hg sg wg g L m pa pk ca ck ha hk s wa wk cur K)(hgr:wr.grownBy w' none)(hb:base≤wr.heap.size):a0e w0 w' base b eg hg sg wg g L m pa pk ca ck ha hk s wa wk cur K:=
 ⟨h.mem.keep hgr,h.snd,h.gone,h.zero,h.mu,h.fr.trans (Fr.grown hgr hb)⟩
theorem a0e.bad(h:a0e w0 wr base b eg hg sg wg g L m pa pk ca ck ha hk s wa wk cur K){a:Nat}(ha':a<m.code.length)(hb:a1k L m a)(hbw:base≤wr.heap.size):a0e w0 (wr.setCell ⟨wg,a,none⟩ (.bool true)) base b eg hg sg wg g L m pa pk ca ck ha hk (a2F s a) wa wk cur K:=
 ⟨(h.mem.bad a).1,b7w h.snd ha' hb,h.gone.up (b1x h.snd ha') rfl rfl,h.zero,h.mu,h.fr.trans (h.mem.fr (h.mem.bad a).2 hbw)⟩
end
theorem a0e.rch{w0 wr w':World}{base b eg hg sg wg:Nat}{g:Nat→Nat}{L:List Cl}{m:Me}{pa:Option Addr}{pk:Nat}{ca:Option Addr}{ck:Nat}{ha:Option Addr}{hk:Nat}{s:Wk}{wa wa':Option Addr}{wk wk':Nat}{cur:Option (Nat×Nat)}{K:Nat}
 (h:a0e w0 wr base b eg hg sg wg g L m pa pk ca ck ha hk s wa wk cur K) (hbw:base≤wr.heap.size) {a k:Nat} (hr:Cf.F9 L m a k) (ha':a<m.code.length) (hk':k≤m.stack) (hM:L4 w' base b eg hg sg wg g m pa pk ca ck ha hk m.code.length m.stack (V0 s a k) wa' wk') (hx:Fx b hg wg g m.code.length wa wa' wr w'):
 a0e w0 w' base b eg hg sg wg g L m pa pk ca ck ha hk (V0 s a k) wa' wk' cur K:=
 ⟨hM,b0r h.snd ha' hk' hr,b0k h.snd ha' hk' h.gone,(a8k h.snd ha' hk').seen _ _ h.zero,Nat.le_trans (b0G h.snd ha' hk') h.mu,h.fr.trans (h.mem.fr hx hbw)⟩
theorem c0Q(w:World)(base b eg hg sg wg:Nat)(g:Nat→Nat)(L:List Cl)(m:Me)(pa:Option Addr)(pk:Nat)(ca:Option Addr)(ck:Nat)(ha:Option Addr)(hk:Nat)(s0:Wk)(hs0:s0=Y8 m)(wk:Nat)
 (h:Hid (L4 w base b eg hg sg wg g m pa pk ca ck ha hk m.code.length m.stack s0 none wk)) (hE:Hid (a6t w eg L m)) (lim:Nat) (hlim:lim≤base) (hbw:base≤w.heap.size) (hRc:Hid (B8 w lim 4 T3 ca m.code)) (hRh:Hid (B8 w lim 4 T4 ha m.handlers)) (hco:R0 L m) (hin:∀i∈m.code,a1D L i) (hn:m.code.length≤65535) (hst:m.stack≤255) (hhl:m.handlers.length≤0):
 Calls prog 198 #[.pointer (some ⟨b,0,none⟩)] w fun e w'=>e= .returned (.tuple #[])∧∃s wa wk,L4 w' base b eg hg sg wg g m pa pk ca ck ha hk m.code.length m.stack s wa wk∧U3 L m s∧(∀a k,sq s.seen a k=true↔Cf.F9 L m a k)∧(∀a,wq s.wrong a=true↔a1k L m a)∧Fr base w w':=by
 have hi:=fun i h=>(hin i h).okin
 have HNH:=A0 hhl
 have HRCH:Hid (∀W s wa wk,L4 W base b eg hg sg wg g m pa pk ca ck ha hk m.code.length m.stack s wa wk→U3 L m s→s.work.length≤200000000→base≤W.heap.size→∀a k,a<m.code.length→k≤m.stack→Calls prog 274 #[.pointer (some ⟨b,0,none⟩), .int .i64 a, .int .i64 k] W fun e w'=>e= .returned (.tuple #[])∧∃wa' wk',L4 w' base b eg hg sg wg g m pa pk ca ck ha hk m.code.length m.stack (V0 s a k) wa' wk'∧Fx b hg wg g m.code.length wa wa' W w'):=
  fun W s wa wk h1 h2 h3 h4 a k h5 h6=>b7M W base b eg hg sg wg g m pa pk ca ck ha hk m.code.length m.stack s wa wk h1 hn (by omega) h2.len1 h2.row h2.len3 h2.len2 h3 a k h5 h6 h4
 have hmu0:a1u s0≤100000000:=by
  rw[hs0];unfold a1u a5Z Y8;have:((List.replicate m.code.length (List.replicate (m.stack+1) false)).map fun r=>r.countP (fun x=> !x)).sum=m.code.length*(m.stack+1):=by simp[List.countP_replicate]
  rw[this];have h2:m.code.length*(m.stack+1)≤65535*256:=Nat.mul_le_mul hn (by omega);simp only[List.length_nil];omega
 have hI0:=(a3d L m).1;have hSN:=c0F L m;have hGN:=b8V L m;rw[←hs0]at hSN hGN;have HSN:Hid (U3 L m s0∧p8 L m s0 none∧a1u s0≤100000000∧R0 L m∧(∀i∈m.code,a1D L i)∧(∀i∈m.code,P0 i)):=⟨hSN,hGN,hmu0,hco,hin,hi⟩
 have hRC0:=HRCH.out w s0 none wk h.out hSN (by rw[hs0];simp[Y8]) hbw 0 0 hco.some_ (Nat.zero_le _);have HRC0:Hid (Calls prog 274 #[.pointer (some ⟨b,0,none⟩), .int .i64 0, .int .i64 0] w fun e w'=>e= .returned (.tuple #[])∧∃wa' wk',L4 w' base b eg hg sg wg g m pa pk ca ck ha hk m.code.length m.stack (V0 s0 0 0) wa' wk'∧Fx b hg wg g m.code.length none wa' w w'):=hRC0;clear hSN hGN hmu0 hco hin hi hRC0 hs0;go_enter func198,ntmps198;go_step3
 go_wp2_with (go_at_call 274;refine HRC0.out.mono ?_)
 rintro e w1 ⟨rfl,wa1,wk1,hM1,hX1⟩
 have hI:a0e w w1 base b eg hg sg wg g L m pa pk ca ck ha hk (V0 s0 0 0) wa1 wk1 none 100000000:=by
  have h0:=HSN.out.2.2.2.1.some_;refine⟨hM1,b0r HSN.out.1 h0 (Nat.zero_le _) hI0,b0k HSN.out.1 h0 (Nat.zero_le _) HSN.out.2.1,b0j HSN.out.1 h0 (Nat.zero_le _),Nat.le_trans (b0G HSN.out.1 h0 (Nat.zero_le _)) HSN.out.2.2.1,h.out.fr hX1 hbw⟩
 have HI:=A0 hI;clear hI hM1 hX1;go_wp2_with fail
 go_step3
 go_wp2_with fail
 go_loopg [] 100000000 (fun K wr=>∃s wa wk,a0e w wr base b eg hg sg wg g L m pa pk ca ck ha hk s wa wk none K∧K≤100000000)
 case atStart=>exact⟨_,_,_,HI.out,Nat.le_refl _⟩
 case round=>
  obtain⟨K1,hK1⟩:∃K1,K1=gk:=⟨_,rfl⟩
  subst hK1;obtain⟨s,wa,wk2,hI,hK⟩:=hrel;have HI2:=A0 hI;have hbr:=Nat.le_trans hbw hI.fr.size;by_cases hw:s.work=[]
  ·have c12:wr.cell? ⟨b,12,none⟩=some (.slice wa 0 wk2):=by have:=hI.mem.blk.cell 12 _ rfl;rw[hw]at this;exact this
   have HEND:=c1S hI.snd hI.gone hI.zero hw;have HEN:=A0 HEND;clear HEND hI hw;go_wp2_with fail
   rw[Exit.noGoto_normal];go_end0;exact⟨rfl,s,wa,wk2,HI2.out.mem,HI2.out.snd,HEN.out.1,HEN.out.2,HI2.out.fr⟩
  ·obtain⟨xs,p,hxp⟩:∃xs p,s.work=xs++ [p]:=⟨_,_,(List.dropLast_concat_getLast hw).symm⟩
   have hpr:=hI.snd.snd _ _ (hI.snd.work p (by rw[hxp];simp));have hpb:=a1V HSN.out.2.2.2.1 HSN.out.2.2.2.2.2 hpr;obtain⟨xl,hxl⟩:∃xl,xl=xs.length:=⟨_,rfl⟩
   have hWL:s.work.length=xl+1:=by rw[hxp,hxl];simp
   have hpop:=hI.mem.pop hxp;have hwork:=hI.mem.work;rw[hWL]at hwork;obtain⟨q,qc,hq,-,hqs⟩:=hwork.form (Nat.succ_pos _);injection hq with hq1 _ hq3
   subst hq1;have hqk:=a3X hwork
   have hkk:wk2≤maxLen:=by
    exact c6t
   have s0c:wr.cell? ⟨q,xl*2,none⟩=some (.int .i64 p.1):=by
    have:=hwork.cells (g:=q) rfl (xl*2) (.int .i64 p.1) (by
     rw[hxp,List.flatMap_append,List.getElem?_append_right (by rw[a3s,hxl];exact Nat.le_refl _),a3s,hxl,Nat.sub_self];rfl)
    rcases Nat.eq_zero_or_pos (xl*2)with e2|e2<;>simpa[Addr.add_lit]using this
   have s1c:wr.cell? ⟨q,xl*2+1,none⟩=some (.int .i64 p.2):=by
    have:=hwork.cells (g:=q) rfl (xl*2+1) (.int .i64 p.2) (by
     rw[hxp,List.flatMap_append,List.getElem?_append_right (by rw[a3s,hxl];omega),a3s,hxl,Nat.add_sub_cancel_left];rfl)
    exact c7q
   have c12:wr.cell? ⟨b,12,none⟩=some (.slice (some ⟨q,0,none⟩) (xl+1) wk2):=by have:=hI.mem.blk.cell 12 _ rfl;rw[hWL]at this;exact this
   have f12:=hI.mem.blk.frozen 12;have hbW:=hI.mem.blk.lt;have hmup:=b8U hw
   have hb3:A3 ((wr.setCell ⟨b,12,none⟩ (.slice (some ⟨q,0,none⟩) xl wk2)).alloc (.cells #[.int .i64 p.1, .int .i64 p.2] 372)) wr.heap.size #[.int .i64 p.1, .int .i64 p.2] 372:=by
    have:=A3.new (wr.setCell ⟨b,12,none⟩ (.slice (some ⟨q,0,none⟩) xl wk2)) #[.int .i64 p.1, .int .i64 p.2] 372;rw[show(wr.setCell ⟨b,12,none⟩ (.slice (some ⟨q,0,none⟩) xl wk2)).heap.size=wr.heap.size by simp[World.setCell]]at this;exact this
   have hIP:a0e w ((wr.setCell ⟨b,12,none⟩ (.slice (some ⟨q,0,none⟩) xl wk2)).alloc (.cells #[.int .i64 p.1, .int .i64 p.2] 372)) base b eg hg sg wg g L m pa pk ca ck ha hk (a2b s) (some ⟨q,0,none⟩) wk2 (some p) (K1-1):=by
    rw[hxl];exact⟨hpop.1.keep (A2 _ _ none),b7v hI.snd,b6n hxp hI.gone,hI.zero,by have:=hI.mu;omega,hI.fr.trans ((hI.mem.fr hpop.2 hbr).trans (Fr.grown (A2 _ _ none) (Nat.le_trans hbr hpop.2.size)))⟩
   have hgk:0<K1:=by have:=hI.mu;omega
   have hqne:=hqs;have hxl0:xl≤200000000:=by have h1:=b2w s;have h2:=hI.mu;omega
   have HX:Hid (Cf.F9 L m p.1 p.2∧p.1<m.code.length∧p.2≤m.stack):=⟨hpr,hpb.1,hpb.2⟩
   have HIP:=A0 hIP;have HB3:=A0 hb3;have HQ3:Hid (q<wr.heap.size∧0<K1∧K1≤100000000∧sq s.seen p.1 p.2=true):=⟨hqs,hgk,hK,hI.snd.work p (by rw[hxp];simp)⟩
   clear hI HI2 hpr hpb hpop hwork hxp hxl hWL hIP hb3 hmup hgk hK hw hqs hqne hq3;go_wp2_with fail
   go_step3
   go_upto_region 5 with fail
   generalize (wr.setCell ⟨b,12,none⟩ (.slice (some ⟨q,0,none⟩) xl wk2)).alloc (.cells #[.int .i64 p.1, .int .i64 p.2] 372)=W1 at HIP HB3⊢;clear hbW hbr;generalize wr.heap.size=B3 at HB3 HQ3⊢;have c7:=HIP.out.mem.blk.c7;clear s0c s1c c12 f12;go_wp2_with fail
   go_step3
   go_wp2_with fail
   have HJ0:Hid (RnR w base b eg hg sg wg g L m pa pk ca ck ha hk p (K1-1) B3 0 W1):=⟨_,_,_,HIP.out,HB3.out,fun i hi=>absurd hi (Nat.not_lt_zero i),fun q' e=>by cases e;have:=HQ3.out.1;show B3≠q;omega⟩
   refine b2p (J:=RnJ b B3 (fun W=>RnR w base b eg hg sg wg g L m pa pk ca ck ha hk p (K1-1) B3 m.handlers.length W)) ?_ ?_
   ·rintro a W2 ⟨hR,t,rfl⟩;dsimp only[a9P];obtain⟨s2,wa2,wk3,hI,hb3,hall,hob⟩:=hR;obtain⟨cs,hbe,hcs⟩:=hE.out.fr hI.fr;obtain⟨ta,tk,ua,uk,hE0,hE1,hE2⟩:=hcs p.1 HX.out.2.1;have C7:=hI.keep (B6 W2 none) (Nat.le_trans hbw hI.fr.size);have hbd:=hb3.keep (B6 W2 none) A5;have hbed:=hbe.keep (B6 W2 none) A5;have Q8:=C7.mem.blk.c8;have Q4:=C7.mem.blk.c4;obtain⟨Q30,Q31⟩:=hbd.q2;obtain⟨tn,htn⟩:∃tn,tn=G8 L m (A6 m p.1):=⟨_,rfl⟩
    obtain⟨pn,hpn⟩:∃pn,pn=M6 L (A6 m p.1):=⟨_,rfl⟩
    obtain⟨eb,heb⟩:∃eb,eb=U2 (A6 m p.1):=⟨_,rfl⟩
    rw[←htn]at hE0;rw[←hpn]at hE1;rw[←heb]at hE2;have QE0:=hbed.cell _ _ hE0;have QE1:=hbed.cell _ _ hE1;have QE2:=hbed.cell _ _ hE2;have hinf:=HSN.out.2.2.2.2.1 _ (a4K HX.out.2.1);have htl:tn≤1001:=by rw[htn];exact a8O hinf
    have hpl:pn≤2:=by rw[hpn];exact a9q
    have hpe:eb=true→pn=0:=fun e=>by rw[hpn];rw[heb]at e;exact a9e e
    have hp2:=HX.out.2.2;have HI3:=A0 hI;have HB4:=A0 hb3
    have HAL:Hid (∀d∈m.handlers,a0C d p.1=true→(m.stack≠0→sq s2.seen d.at_ 1=true)∧(m.stack=0→wq s2.wrong p.1=true)):=fun d hd=>by
     obtain⟨i,hi,rfl⟩:=List.getElem_of_mem hd;exact hall i hi hi
    have HOB:=A0 hob;have HRM:Hid (j6 L m p.1 p.2=(decide (tn≤p.2)&&decide (p.2-tn+pn≤m.stack))):=by unfold Hid j6;rw[htn,hpn]
    have HBE:Hid (a0O L m p.1 p.2=p.2-tn+pn):=by unfold Hid a0O;rw[htn,hpn]
    have HEB:=A0 heb;have HBH:=A0 (fun W=>a8s W ta ua tn tk pn uk p.2 m.stack eb (by omega) (by omega) (by omega) (by omega));clear hall hob hI hb3 hbe hcs C7 hbd hbed hE0 hE1 hE2 htn hpn heb hinf;have hpI:(p.1:Int)<(m.code.length:Int):=by have:=HX.out.2.1;omega
    by_cases hroom:tn≤p.2∧p.2-tn+pn≤m.stack
    ·have hbv:∃bh:Int,j8 tn pn p.2 m.stack eb= .tuple #[.int .i64 bh, .bool true]∧(eb=false→bh=((p.2-tn+pn:Nat):Int)):=by
      unfold j8;cases eb with
      |true=>exact⟨0,by simp[hroom.1],fun e=>by cases e⟩
      |false=>exact⟨(p.2:Int)-tn+pn,by simp[hroom.1,show(p.2:Int)-tn+pn≤m.stack by omega],fun _=>by omega⟩
     obtain⟨bh,hbh,hbn⟩:=hbv;rw[hbh]at HBH;have HRT:Hid (j6 L m p.1 p.2=true∧(eb=false→bh=((p.2-tn+pn:Nat):Int))∧p.2-tn+pn≤m.stack):=⟨by rw[HRM.out];simp[hroom],hbn,hroom.2⟩
     clear hbh hbn hroom hpe;go_upto_region 13 with fail
     refine wp_region_held_drew (S:=(fun w'=>w'.cell? ⟨b,8,none⟩=some (.slice (some ⟨eg,0,none⟩) m.code.length m.code.length)∧w'.cell? ⟨b,4,none⟩=some (.int .i64 m.stack)∧w'.cell? ⟨B3,0,none⟩=some (.int .i64 p.1)∧w'.cell? ⟨B3,1,none⟩=some (.int .i64 p.2)∧w'.cell? ⟨eg,p.1*3,none⟩=some (.slice ta tn tk)∧w'.cell? ⟨eg,p.1*3+1,none⟩=some (.slice ua pn uk)∧w'.cell? ⟨eg,p.1*3+2,none⟩=some (.bool eb))) (by kernel_rfl) (⟨Q8,Q4,Q30,Q31,QE0,QE1,QE2⟩) (fun hHeld=> ?_);refine A4 0 ?_;refine A4 1 ?_;refine A4 2 ?_;refine A4 3 ?_;refine A4 4 ?_;refine A4 5 ?_;refine A4 6 ?_;refine A4 7 ?_;refine A4 8 ?_;refine A4 9 ?_;refine A4 10 ?_;refine A4 11 ?_;refine A4 12 ?_;refine A4 13 ?_;refine A4 14 ?_;refine T6 15 fun K hK=> ?_;go_simp
     go_wp2_with (go_at_call 275;refine(HBH.out _).mono ?_;rintro e w3 ⟨rfl,hg3⟩)
     refine hK.out _ _ ?_ (fun hHeld=> ?_)
     case refine_1=>exact c6l
     try clear hK K
     try simp only[Act.put,lz]
     refine A4 16 ?_;refine A4 17 ?_;refine A4 18 ?_;refine A4 19 ?_;refine A4 20 ?_;refine wpAnyH_done (by kernel_rfl) ?_ _;go_upto_region 16 with fail
     have hg23:=A1 (B6 W2 none) hg3;have hI5:=HI3.out.keep hg23 (Nat.le_trans hbw HI3.out.fr.size);have hId:=hI5.keep (B6 w3 none) (Nat.le_trans hbw hI5.fr.size);have hBw:=HB4.out.keep (A1 hg23 (B6 w3 none)) A5;obtain⟨pc,hpc,-,hci⟩:=B8.low hRc.out hId.fr hlim p.1 HX.out.2.1;obtain⟨i,hi⟩:∃i,i=A6 m p.1:=⟨_,rfl⟩
     have hcm:m.code[p.1]'HX.out.2.1=i:=by rw[hi];unfold A6;simp[HX.out.2.1]
     rw[hcm]at hci;subst hpc;have R6:=hId.mem.blk.c6;have R30:=hBw.c0;have RI0:w3.drew.cell? (pc.add (p.1*4))=some (.int .i64 i.op):=hci 0 _ rfl;have RI1:w3.drew.cell? ⟨(pc.add (p.1*4)).block,(pc.add (p.1*4)).off+1,none⟩=some (.int .i64 i.a):=by rw[C0 pc (p.1*4) 0];exact hci 1 _ rfl
     have RI2:w3.drew.cell? ⟨(pc.add (p.1*4)).block,(pc.add (p.1*4)).off+2,none⟩=some (.string i.cls):=by rw[C0 pc (p.1*4) 1];exact hci 2 _ rfl
     have RI3:w3.drew.cell? ⟨(pc.add (p.1*4)).block,(pc.add (p.1*4)).off+3,none⟩=some (.string i.mem):=by rw[C0 pc (p.1*4) 2];exact hci 3 _ rfl
     have HI:=A0 hi;have hioa:12≤i.op→i.op≤15→0≤i.a:=fun h1 _=>(HSN.out.2.2.2.2.2 i (by rw[hi];exact a4K HX.out.2.1)).2 (by omega)
     have HNX:=A0 (fun W=>a8X W i p.1 (by have:=HX.out.2.1;omega) hioa);have HI6:=A0 hId;obtain⟨gl,hgl⟩:∃gl,gl=G4 i p.1:=⟨_,rfl⟩
     have HGL:=A0 hgl;rw[←hgl]at HNX;obtain⟨nl,hnl⟩:∃nl,nl=gl.length:=⟨_,rfl⟩
     have HNL:=A0 hnl;have hnl2:nl≤2:=by rw[hnl,hgl];exact a9b _ _
     rw[←hnl]at HNX;clear hci hcm hi hioa hId hI5 hBw hgl hnl Q8 Q4 Q30 Q31 QE0 QE1 QE2;refine wp_region_held_drew (S:=(fun w'=>w'.cell? ⟨b,6,none⟩=some (.slice (some pc) m.code.length ck)∧w'.cell? ⟨B3,0,none⟩=some (.int .i64 p.1)∧w'.cell? (pc.add (p.1*4))=some (.int .i64 i.op)∧w'.cell? ⟨(pc.add (p.1*4)).block,(pc.add (p.1*4)).off+1,none⟩=some (.int .i64 i.a)∧w'.cell? ⟨(pc.add (p.1*4)).block,(pc.add (p.1*4)).off+2,none⟩=some (.string i.cls)∧w'.cell? ⟨(pc.add (p.1*4)).block,(pc.add (p.1*4)).off+3,none⟩=some (.string i.mem))) (by kernel_rfl) (⟨R6,R30,RI0,RI1,RI2,RI3⟩) (fun hHeld=> ?_);refine A4 0 ?_;refine A4 1 ?_;refine A4 2 ?_;refine A4 3 ?_;refine A4 4 ?_;refine A4 5 ?_;refine A4 6 ?_;refine A4 7 ?_;refine A4 8 ?_;refine A4 9 ?_;refine A4 10 ?_;refine A4 13 ?_;refine T6 11 fun K hK=> ?_;go_simp
     go_wp2_with (go_at_call 268;refine(HNX.out _).mono ?_;rintro e w5 ⟨hg5,v5,rfl,ho5⟩;obtain⟨a5,k5,rfl⟩:=F0 ho5)
     refine hK.out _ _ ?_ (fun hHeld=> ?_)
     case refine_1=>exact⟨hg5.cell R6 A5,hg5.cell R30 A5,hg5.cell RI0 A5,hg5.cell RI1 A5,hg5.cell RI2 A5,hg5.cell RI3 A5⟩
     try clear hK K
     try simp only[Act.put,lz]
     refine A4 12 ?_;refine wpAnyH_done (by kernel_rfl) ?_ _;have hlw:=HI6.out.mem.hts.lt
     have hwaw:∀q',wa2=some q'→q'.block<w3.drew.heap.size:=fun q' e=>by
      have:=HI6.out.mem.work;rw[e]at this;exact(Y4 this rfl).2
     have H30:Hid (Rn3 w base b eg hg sg wg g L m pa pk (some pc) ck ha hk p (K1-1) (p.2-tn+pn) w3.drew.heap.size a5 k5 gl 0 w5):=⟨s2,wa2,wk3,HI6.out.keep hg5 (Nat.le_trans hbw HI6.out.fr.size),HAL.out,fun i hi=>absurd hi (Nat.not_lt_zero i),fun q' r e1 e2 e3=>by
      have h1:=hwaw q' e1;have h2:(Value.slice a5 nl k5).ownBlock=some r.block:=by rw[e2];rfl
      have h3:=(Y4 ho5 h2).1;omega,by rw[←HNL.out];exact ho5,hlw,hg5.size⟩
     clear hlw hwaw;go_wp2_with fail
     go_loopg [116] nl (fun gq c W=>∃j:Nat,c= .int .i64 j∧j≤nl∧gq+j=nl∧Rn3 w base b eg hg sg wg g L m pa pk (some pc) ck ha hk p (K1-1) (p.2-tn+pn) w3.drew.heap.size a5 k5 gl j W)
     case atStart=>exact⟨0,rfl,Nat.zero_le _,rfl,H30.out⟩
     case round=>
      obtain⟨j,rfl,hj,hgq,hR⟩:=hrel;obtain⟨s3,wa3,wk4,hI3,hal3,hsn3,hob3,hown3,hlt5,hle5⟩:=hR;have HI7:=A0 hI3;have HA7:=A0 hal3;have HS7:=A0 hsn3;have HO7:=A0 hob3;have HW7:Hid (wr.ownsRow w3.drew.heap.size 3 1 (.slice a5 gl.length k5) gl.length (gl.flatMap j7)∧hg<w3.drew.heap.size∧w3.drew.heap.size≤wr.heap.size):=⟨hown3,hlt5,hle5⟩
      clear hI3 hal3 hsn3 hob3 hown3 hlt5 hle5;by_cases hlt:j<nl
      ·have hjl:j<gl.length:=by rw[←HNL.out];exact hlt
       obtain⟨g5,c5,hg5e,-,hg5l⟩:=HW7.out.1.form (by omega);injection hg5e with hg5e hg5n hg5k
       clear hg5n;subst hg5k
       have hgj:wr.cell? ⟨g5,j,none⟩=some (.int .i64 (gl.getD j 0)):=by
        have:=HW7.out.1.cells (g:=g5) (by rw[hg5e];rfl) j (.int .i64 (gl.getD j 0)) (by
         have h5:=a0T j7 1 (fun _=>rfl) gl j hjl 0 (by omega);rw[Nat.mul_one,Nat.add_zero]at h5;rw[h5];simp[j7,hjl])
        rcases Nat.eq_zero_or_pos j with e2|e2
        ·subst e2;exact c7q
        ·exact c7q
       subst hg5e;obtain⟨x,hx⟩:∃x,x=gl.getD j 0:=⟨_,rfl⟩
       rw[←hx]at hgj;have hxm:x∈G4 i p.1:=by rw[←HGL.out,hx];simp[hjl]
       rw[HI.out]at hxm;have hxb:=b2J HSN.out.2.2.2.1 HSN.out.2.2.2.2.2 HX.out.2.1 x hxm
       have hebF:eb=false:=by
        rw[HEB.out];cases hee:U2 (A6 m p.1)with
        |false=>rfl
        |true=>
         have h20:(A6 m p.1).op=20∨(A6 m p.1).op=30:=by simpa[U2]using hee
         unfold G4 at hxm;rw[if_pos h20]at hxm;cases hxm
       have hbhn:=HRT.out.2.1 hebF;have hbn:=HRT.out.2.2;have hbw7:=Nat.le_trans hbw HI7.out.fr.size
       have hrx:Cf.F9 L m x (p.2-tn+pn):=by
        rw[←HBE.out];refine(a3d L m).2 p.1 p.2 HX.out.1 (x,a0O L m p.1 p.2) ?_;unfold a1E;rw[if_pos HRT.out.1];exact List.mem_append_right _ (List.mem_map.2 ⟨x,hxm,rfl⟩)
       obtain⟨bn,hbne⟩:∃bn,bn=p.2-tn+pn:=⟨_,rfl⟩
       have HBN:=A0 hbne;rw[←hbne]at hbhn hbn hrx;have hR1:=HRCH.out wr s3 wa3 wk4 HI7.out.mem HI7.out.snd (by have h1:=b2w s3;have h2:=HI7.out.mu;have h3:=HQ3.out.2.2.1;omega) hbw7 x bn hxb hbn;rw[←hbhn]at hR1;have HR1:=A0 hR1;have hup:=a8k HI7.out.snd hxb hbn;have hsx:=b0j HI7.out.snd hxb hbn
       have HGO:Hid (∀w4 wa4 wk4',L4 w4 base b eg hg sg wg g m pa pk (some pc) ck ha hk m.code.length m.stack (V0 s3 x bn) wa4 wk4'→Fx b hg wg g m.code.length wa3 wa4 wr w4→Rn3 w base b eg hg sg wg g L m pa pk (some pc) ck ha hk p (K1-1) (p.2-tn+pn) w3.drew.heap.size (some ⟨g5,0,none⟩) k5 gl (j+1) w4):=fun w4 wa4 wk4' hM4 hX4=>
        ⟨_,wa4,wk4',HI7.out.rch hbw7 hrx hxb hbn hM4 hX4,fun d hd hc=>⟨fun e=>hup.seen _ _ ((HA7.out d hd hc).1 e),fun e=>hup.wrong _ ((HA7.out d hd hc).2 e)⟩,fun i' hi'=>by
         rw[←HBN.out];by_cases e:i'=j
         ·subst e;rw[←hx];exact hsx
         ·have:=HS7.out i' (by omega);rw[←HBN.out]at this;exact hup.seen _ _ this,fun q' r e1 e2=>by
         cases e2;rcases hX4.own q' e1 with⟨q2,e3,e4⟩|e3
         ·rw[←e4];exact HO7.out q2 _ e3 rfl
         ·show g5≠q'.block;omega,by
         have h5:=HI7.out.mem;obtain⟨hl8,h8⟩:=HW7.out.1;refine⟨hl8,?_⟩;rcases h8 with h8|⟨g',cap,cur,e1,e2,e3,e4⟩
         ·exact .inl h8
         ·cases e1;refine .inr ⟨g5,k5,cur,rfl,e2,?_,e4⟩;have hb5:A3 wr g5 cur 3:=e3;rw[hX4.block g5 hg5l (K6 hb5 h5.blk (by decide)) (by have:=HW7.out.2.1;omega) (K6 hb5 h5.wrong (by decide)) (fun a ha'=>K6 hb5 (h5.rows a ha') (by decide)) (fun q' e=>HO7.out q' _ e rfl)];exact e3,HW7.out.2.1,Nat.le_trans HW7.out.2.2 hX4.size⟩
       have hjI:(j:Int)<(nl:Int):=by omega
       clear hx hxm hxb hebF hbhn hbn hbw7 hrx hbne hR1 hup hsx hg5l;go_wp2_with (go_at_call 274;refine HR1.out.mono ?_;rintro e w4 ⟨rfl,wa4,wk4',hM4,hX4⟩)
       have HN:=HGO.out w4 wa4 wk4' hM4 hX4;go_roundg (gk-1)
       case measure=>omega
       case rel=>exact⟨j+1,by go_num,by omega,by omega,HN⟩
      ·have hjn:j=nl:=by omega
       have HFIN:Hid (a0e w wr base b eg hg sg wg g L m pa pk (some pc) ck ha hk s3 wa3 wk4 none (K1-1)):=⟨HI7.out.mem,HI7.out.snd,p8.close (a:=p.1) (h:=p.2) HI7.out.gone ⟨fun x hx=>by
        unfold a1E at hx;rcases List.mem_append.1 hx with hx|hx
        ·split at hx
         ·cases hx
         ·rename_i hs0;obtain⟨d,hd,rfl⟩:=List.mem_map.1 hx;exact(HA7.out d (List.mem_filter.1 hd).1 (List.mem_filter.1 hd).2).1 hs0
        ·rw[if_pos HRT.out.1]at hx;obtain⟨y,hy,rfl⟩:=List.mem_map.1 hx;rw[←HI.out,←HGL.out]at hy;obtain⟨k,hk,rfl⟩:=List.getElem_of_mem hy;have:=HS7.out k (by rw[hjn,HNL.out];exact hk);rw[HBE.out];simpa[hk]using this,(fun e=>by(rw[HRT.out.1]at e;cases e)),fun⟨d,hd,hc⟩ e=>(HA7.out d hd hc).2 e⟩,HI7.out.zero,HI7.out.mu,HI7.out.fr⟩
       subst hjn;go_wp2_with fail
       rw[Exit.noGoto_normal];go_wp2_with fail
       go_roundg (K1-1)
       case measure=>have:=HQ3.out.2.1;omega
       case rel=>exact⟨_,wa3,wk4,HFIN.out,by have:=HQ3.out.2.2.1;omega⟩
    ·have hbv:∃bh,j8 tn pn p.2 m.stack eb= .tuple #[bh, .bool false]:=by
      unfold j8;cases eb with
      |true=>
       have:=hpe rfl;exact⟨_,by simp[show¬tn≤p.2 by omega];rfl⟩
      |false=>exact⟨_,by
       have:(decide (tn≤p.2)&&decide ((p.2:Int)-tn+pn≤m.stack))=false:=by simp;omega
       simp only[this];rfl⟩
     obtain⟨bh,hbh⟩:=hbv;rw[hbh]at HBH;have HRF:Hid (j6 L m p.1 p.2=false):=by unfold Hid;rw[HRM.out];simp;omega
     clear hbh hroom hpe;go_upto_region 13 with fail
     refine wp_region_held_drew (S:=(fun w'=>w'.cell? ⟨b,8,none⟩=some (.slice (some ⟨eg,0,none⟩) m.code.length m.code.length)∧w'.cell? ⟨b,4,none⟩=some (.int .i64 m.stack)∧w'.cell? ⟨B3,0,none⟩=some (.int .i64 p.1)∧w'.cell? ⟨B3,1,none⟩=some (.int .i64 p.2)∧w'.cell? ⟨eg,p.1*3,none⟩=some (.slice ta tn tk)∧w'.cell? ⟨eg,p.1*3+1,none⟩=some (.slice ua pn uk)∧w'.cell? ⟨eg,p.1*3+2,none⟩=some (.bool eb))) (by kernel_rfl) (⟨Q8,Q4,Q30,Q31,QE0,QE1,QE2⟩) (fun hHeld=> ?_);refine A4 0 ?_;refine A4 1 ?_;refine A4 2 ?_;refine A4 3 ?_;refine A4 4 ?_;refine A4 5 ?_;refine A4 6 ?_;refine A4 7 ?_;refine A4 8 ?_;refine A4 9 ?_;refine A4 10 ?_;refine A4 11 ?_;refine A4 12 ?_;refine A4 13 ?_;refine A4 14 ?_;refine T6 15 fun K hK=> ?_;go_simp
     go_wp2_with (go_at_call 275;refine(HBH.out _).mono ?_;rintro e w3 ⟨rfl,hg3⟩)
     refine hK.out _ _ ?_ (fun hHeld=> ?_)
     case refine_1=>exact c6l
     try clear hK K
     try simp only[Act.put,lz]
     refine A4 16 ?_;refine A4 17 ?_;refine A4 18 ?_;refine A4 19 ?_;refine A4 20 ?_;refine wpAnyH_done (by kernel_rfl) ?_ _;go_upto_region 15 with fail
     have hg23:=A1 (B6 W2 none) hg3;have hI5:=HI3.out.keep hg23 (Nat.le_trans hbw HI3.out.fr.size);have hId:=hI5.keep (B6 w3 none) (Nat.le_trans hbw hI5.fr.size);have hBw:=HB4.out.keep (A1 hg23 (B6 w3 none)) A5;have Q0:=hBw.c0;have Q1:w3.drew.cell? ⟨b,11,none⟩=some (.slice (some ⟨wg,0,none⟩) m.code.length m.code.length):=hId.mem.blk.cell 11 _ rfl;have hpc:=HX.out.2.1;have Q2:w3.drew.cell? ⟨wg,p.1,none⟩=some (.bool (s2.wrong.getD p.1 false)):=V9 hId.mem.wrong p.1 _ (by simp[hId.snd.len2,hpc]);have Q3:=hId.mem.wrong.frozen p.1;have nB3:=K6 hBw hId.mem.wrong (by decide);have nb:=K6 hId.mem.blk hId.mem.wrong (by decide);have hbad:=hId.bad HX.out.2.1 (.inl ⟨p.2,HX.out.1,HRF.out⟩) (Nat.le_trans hbw hId.fr.size)
     have hwp:wq (a2F s2 p.1).wrong p.1=true:=by
      unfold a2F;dsimp only;rw[a5Y (by rw[hId.snd.len2];exact HX.out.2.1)];simp
     have HRR:Hid (a0e w (w3.drew.setCell ⟨wg,p.1,none⟩ (.bool true)) base b eg hg sg wg g L m pa pk ca ck ha hk (a2F s2 p.1) wa2 wk3 none (K1-1)):=⟨hbad.mem,hbad.snd,p8.close (a:=p.1) (h:=p.2) hbad.gone ⟨fun x hx=>by
      unfold a1E at hx;rcases List.mem_append.1 hx with hx|hx
      ·split at hx
       ·cases hx
       ·rename_i hs0;obtain⟨d,hd,rfl⟩:=List.mem_map.1 hx;exact(HAL.out d (List.mem_filter.1 hd).1 (List.mem_filter.1 hd).2).1 hs0
      ·rw[HRF.out]at hx;simp at hx,fun _=>hwp,fun _ _=>hwp⟩,hbad.zero,hbad.mu,hbad.fr⟩
     clear hbad hI5 hId hBw hwp;refine wp_region_held_drew (S:=(fun w'=>w'.cell? ⟨B3,0,none⟩=some (.int .i64 p.1)∧w'.cell? ⟨b,11,none⟩=some (.slice (some ⟨wg,0,none⟩) m.code.length m.code.length))) (by kernel_rfl) (⟨Q0,Q1⟩) (fun hHeld=> ?_);refine A4 0 ?_;refine A4 1 ?_;refine A4 2 ?_;refine A4 3 ?_;refine A4 4 ?_;refine A4 5 ?_;refine A4 6 ?_;refine T6 7 fun K hK=> ?_;go_simp
     refine hK.out _ _ ?_ (fun hHeld=> ?_)
     case refine_1=>exact⟨(A9 _ ⟨wg,p.1,none⟩ _).cell Q0 (fun e=>nB3 (Option.some.inj e)),(A9 _ ⟨wg,p.1,none⟩ _).cell Q1 (fun e=>nb (Option.some.inj e))⟩
     try clear hK K
     try simp only[Act.put,lz]
     refine wpAnyH_done (by kernel_rfl) ?_ _;go_wp2_with fail
     rw[Exit.noGoto_exit];go_wp2_with fail
     go_roundg (K1-1)
     case measure=>have:=HQ3.out.2.1;omega
     case rel=>exact⟨_,wa2,wk3,HRR.out,by have:=HQ3.out.2.2.1;omega⟩
   ·go_loopw [46] (fun c W=>∃j:Nat,c= .int .i64 j∧j≤m.handlers.length∧RnR w base b eg hg sg wg g L m pa pk ca ck ha hk p (K1-1) B3 j W) (fun c _=>m.handlers.length-(intOf c).toNat)
    case atStart=>exact⟨0,rfl,Nat.zero_le _,HJ0.out⟩
    case round=>
     obtain⟨j,rfl,hj,hR⟩:=hrel;by_cases hlt:j<m.handlers.length
     ·exact absurd hlt (by have:=HNH.out;omega)
     ·have hjn:j=m.handlers.length:=by omega
      subst hjn;have HRR:=A0 hR;clear hR;go_wp2_with fail
      exact⟨HRR.out,a1t (Fr:=a9P b B3) rfl⟩
theorem b8a(w:World)(n:Nat)(hn:n≤4000000000):Calls prog 318 #[.int .u64 1, .int .u64 n] w fun e w'=>e= .returned (.tuple #[.int .u64 0, .int .u64 n])∧w'=w:=by
 have h1:bits .and .u64 1 4294967295=1:=by kernel_rfl
 have h2:bits .and .u64 (n:Int) 4294967295=(n:Int):=by
  rw[Mul64.maskN n (by omega)];congr 1;omega
 have h3:(n:Int)/4294967296=0:=by omega
 have h4:=Mul64.wrapN n (by omega);have h5:IntKind.u64.wrap 0=0:=by kernel_rfl
 have h6:bits .and .u64 0 4294967295=0:=by kernel_rfl
 go_enter func318,ntmps318;go_wp2_with fail
 go_ret2
 exact⟨rfl,rfl⟩
theorem b2v(w:World)(n:Nat)(hn:n≤4000000000):Calls prog 265 #[.int .u64 1, .int .u64 n] w fun e w'=>e= .returned (.tuple #[.int .u64 0, .int .u64 n])∧w'=w:=by
 have c64:=b8a w n hn;go_enter func265,ntmps265;go_wp2_with (go_at_call 318;refine c64.mono ?_;rintro e w' ⟨rfl,hw⟩;rw[hw])
 go_ret2
 exact⟨rfl,rfl⟩
open Go.RowKit Cf
variable {P:Program}
theorem b5z(w:World)(dT sT ty elem:TypeId)(g o dLen dCap:Nat)(a:Addr)(sLen sCap:Nat)(cur:Array Value)(t:TypeId)(cs:List Value)(sz:Nat)
 (hu:P.underlying dT=some (.slice elem)) (hs:(P.info? elem).map (·.size)=some sz)
 (hg:w.heap[g]? =some (.cells cur t (0,0))) (hn:cs.length=Nat.min sLen dLen*sz)
 (hsrc:∀j v,cs[j]? =some v→w.cell? (a.add j)=some v) (hfit:o+cs.length≤cur.size) (h1:∀v∈cs,v.oneCell'=true):
 (Builtin.copy_ #[dT,sT] ty #[.slice (some ⟨g,o,none⟩) dLen dCap, .slice (some a) sLen sCap]).run P w=
   .ok (goInt (Nat.min sLen dLen)) (w.setRow g (cur.toList.take o++cs++cur.toList.drop (o+cs.length)).toArray):=by
 have hl:=run_loadCells_list (P:=P) w a cs hsrc;have hst:=run_storeCells_at P g o t cs 0 cur w hg (by simpa using hfit) h1;cases hq:P.info? elem with
 |none=>simp[hq]at hs
 |some i=>
  have hi:i.size=sz:=by simpa[hq]using hs
  simp[Builtin.copy_,run_underlying hu,Builtin.lenOf,Builtin.firstCells,sizeOf,typeInfo,hq,hi,←hn,hl,hst]
variable {w:World}
variable {o:Oper}
variable {a:Act}
variable {Q:Exit→Act→World→Prop}
theorem a8j{K:Act→World→Prop}(d s:Operand)(dT sT:TypeId)
 (ho:o.op= .call {callee:= .builtin .copy,args:= #[d,s],argTypes:= #[dT,sT]}) (elem:TypeId) (sz:Nat) (hu:P.underlying dT=some (.slice elem)) (hsz:(P.info? elem).map (·.size)=some sz)
 (g off:Nat) (sp:Addr) (dLen dCap sLen sCap:Nat) (hd:a.eval d= .slice (some ⟨g,off,none⟩) dLen dCap) (hs:a.eval s= .slice (some sp) sLen sCap)
 (cur:List Value) (t:TypeId) (hg:Hid (w.heap[g]? =some (.cells cur.toArray t (0,0)))) (cs:List Value) (m:Nat) (hm:m=Nat.min sLen dLen) (hn:cs.length=m*sz)
 (hsrc:∀j v,cs[j]? =some v→w.cell? (sp.add j)=some v)
 (hfit:off+cs.length≤cur.length) (h1:∀v∈cs,v.oneCell'=true)
 (h:∀w',Hid (w'.heap[g]? =some (.cells (splice cur off cs).toArray t (0,0)))→w.grownBy w' (some g)→K (a.put o.dst (goInt m)) w'):
 o.wp P a w K Q:=by
 subst hm;have hrun:=b5z (P:=P) w dT sT o.type elem g off dLen dCap sp sLen sCap cur.toArray t cs sz hu hsz hg.out hn hsrc (by simpa using hfit) h1;unfold Oper.wp;simp only[execOp,ho,resolve,invoke,builtin,Sem.run_bind,Sem.run_pure,Result.andThen_ok,List.map_toArray,List.map_cons,List.map_nil,hd,hs,hrun];refine h _ (show _=_ by simpa[splice]using setRow_heap w g _ _ t _ hg.out) ⟨rfl,rfl,rfl,by simp[World.setRow],fun k _ hk=>setRow_other w g k _ (fun e=>hk (by rw[e]))⟩
theorem a7V{ops:Array Oper}{rest:List Oper}(hgd:o.guard=none)(d s:Operand)(dT sT:TypeId)
 (ho:o.op= .call {callee:= .builtin .copy,args:= #[d,s],argTypes:= #[dT,sT]}) (elem:TypeId) (sz:Nat) (hu:P.underlying dT=some (.slice elem)) (hsz:(P.info? elem).map (·.size)=some sz)
 (g off:Nat) (sp:Addr) (dLen dCap sLen sCap:Nat) (hd:a.eval d= .slice (some ⟨g,off,none⟩) dLen dCap) (hs:a.eval s= .slice (some sp) sLen sCap)
 (cur:List Value) (t:TypeId) (hg:Hid (w.heap[g]? =some (.cells cur.toArray t (0,0)))) (cs:List Value) (m:Nat) (hm:m=Nat.min sLen dLen) (hn:cs.length=m*sz)
 (hsrc:∀j v,cs[j]? =some v→w.cell? (sp.add j)=some v)
 (hfit:off+cs.length≤cur.length) (h1:∀v∈cs,v.oneCell'=true)
 (h:∀w',Hid (w'.heap[g]? =some (.cells (splice cur off cs).toArray t (0,0)))→w.grownBy w' (some g)→wpList P ops Q rest (a.put o.dst (goInt m)) w'):
 wpList P ops Q (o::rest) a w:=
 wpList_plain hgd fun _ hK=>a8j d s dT sT ho elem sz hu hsz g off sp dLen dCap sLen sCap hd hs cur t hg cs m hm hn hsrc hfit h1 fun w' h2 h3=>hK _ _ (h w' h2 h3)
def C8(n:Nat)(c:List Value):List Value:=(List.replicate n c).flatten
theorem a0M(n:Nat)(c:List Value):(C8 n c).length=n*c.length:=by simp[C8]
theorem a9p(m n:Nat)(c:List Value):C8 (m+n) c=C8 m c++C8 n c:=by
 unfold C8;rw[←List.replicate_append_replicate,List.flatten_append]
theorem a9o(c:List Value):C8 1 c=c:=by simp[C8]
theorem b1F(c:List Value):C8 0 c=[]:=by simp[C8]
variable {base g m n sz:Nat}
theorem b1G(c:List Value)(h:m≤n):(C8 n c).take (m*c.length)=C8 m c:=by
 obtain⟨d,rfl⟩:∃d,n=m+d:=⟨n-m,by omega⟩
 rw[a9p,List.take_append_of_le_length (by rw[a0M];exact Nat.le_refl _),List.take_of_length_le (by rw[a0M];exact Nat.le_refl _)]
variable {L c xs:List Value}
theorem a7p{v:Value}(h:v∈C8 n c):v∈c:=by
 unfold C8 at h;obtain⟨l,hl,hv⟩:=List.mem_flatten.1 h;rw[List.eq_of_mem_replicate hl]at hv;exact hv
theorem a6H{k:Nat}(h:L.take (k*c.length)=C8 k c)(hl:(k+m)*c.length≤L.length):
 (splice L (k*c.length) (C8 m c)).length=L.length∧(splice L (k*c.length) (C8 m c)).take ((k+m)*c.length)=C8 (k+m) c:=by
 rw[Nat.add_mul]at hl;refine⟨length_splice _ _ _ (by rw[a0M];exact hl),?_⟩;unfold splice;rw[h,←List.append_assoc,←a9p,List.take_append_of_le_length (by rw[a0M];exact Nat.le_refl _),List.take_of_length_le (by rw[a0M];exact Nat.le_refl _)]
theorem b5A{α:Type}(enc:α→List Value)(n:Nat)(x:α):C8 n (enc x)=(List.replicate n x).flatMap enc:=by
 simp[C8,List.flatMap]
theorem b3k:(prog.info? 3).map (fun i=>(i.zero,i.size,i.bytes))=some (some (.int .i64 0),1,8):=by kernel_rfl
structure RpA(w W:World)(e:TypeId)(g n k sz:Nat)(c L:List Value):Prop where
 row:W.heap[g]? =some (.cells L.toArray e (0,0))
 len:L.length=n*sz
 done:L.take (k*sz)=C8 k c
 gb:w.grownBy W none
variable {e:TypeId}
theorem a8Z(h:w.ownsRow base e sz (.slice (some ⟨g,0,none⟩) n n) n xs):∃cur:List Value,w.heap[g]? =some (.cells cur.toArray e (0,0))∧cur.length=n*sz:=by
 rcases h.2 with⟨hv,_⟩|⟨g',cap,cur,hv,_,hg,_,_,hs,_⟩
 ·cases hv
 ·cases hv;exact⟨cur.toList,by simpa using hg,by simpa using hs⟩
theorem a8P(hg:w.heap[g]? =some (.cells L.toArray e (0,0)))(hl:L.length=n*sz)(ht:L.take (n*sz)=xs)(hb:base≤g)(hn:n≤maxLen):w.ownsRow base e sz (.slice (some ⟨g,0,none⟩) n n) n xs:=by
 refine⟨?_, .inr ⟨g,n,L.toArray,rfl,hb,hg,Nat.le_refl _,hn,by simpa using hl,by simpa using ht⟩⟩;rw[←ht,List.length_take,hl];omega
theorem c0T(w:World)(sp:Addr)(n q0:Nat)(c:List Value)(hc:c.length=1)(hsrc:∀j v,c[j]? =some v→w.cell? (sp.add j)=some v)(hone:∀v∈c,v.oneCell'=true)(hn:n≤4000000000):
 Calls prog 196 #[.slice (some sp) 1 q0, .int .i64 n] w fun e w'=>∃g,e= .returned (.slice (some ⟨g,0,none⟩) n n)∧w'.ownsRow w.heap.size 3 1 (.slice (some ⟨g,0,none⟩) n n) n (C8 n c)∧w.grownBy w' none:=by
 have hs1:w.heap.size≤w.heap.size:=Nat.le_refl _;obtain⟨inf,ii0,iz0,iz1,iz2⟩:=info_parts b3k;have e1:=Mul64.wrapN n (by omega);have e2:IntKind.i64.wrap (n:Int)=(n:Int):=by rw[IntKind.wrap_i64];omega
 have e3:decide ((9223372036854775807:Int)<(n:Int))=false:=decide_eq_false (by omega);have e4:decide ((n:Int)<0)=false:=decide_eq_false (by omega);have e5:IntKind.u64.wrap 1=1:=by kernel_rfl
 have HB:Hid (∀i,inf.bytes*n≤i→n*8≤i):=fun i h=>by rw[iz2]at h;rw[Nat.mul_comm];exact h
 go_enter func196,ntmps196;go_upto_region 6 with(go_at_call 265;go_loud (refine(b2v w n hn).mono ?_;rintro e w' ⟨rfl,hw⟩;rw[hw]))
 go_upto_region 7 with(at_make;go_loud (refine wpList_make_full _ rfl _ _ 53 rfl w.heap.size 3 inf _ 1 underlying53 ii0 iz0 iz1 .i64 .i64 (n:Int) (n:Int) n rfl rfl rfl rfl (by rw[iz2];omega) (by unfold maxLen;omega) hs1 ?_;intro w1 ho1 hg1;dsimp only))
 have hsp:sp.block<w.heap.size:=by
  exact c6r
 have hsrc1:=fun j v h=>hg1.cell (hsrc j v h) (by simp)
 obtain⟨cur,hcur,hcl⟩:=a8Z ho1;have HR1:=A0 hcur;have HG1:=A0 hg1;obtain⟨m0,hm0⟩:∃m0,m0=Nat.min 1 n:=⟨_,rfl⟩
 have HM0:=A0 hm0
 have HS1:Hid (∀j v,(C8 m0 c)[j]? =some v→w1.cell? (sp.add j)=some v):=fun j v h=>by
  exact c5s
 have HL1:Hid (0+(C8 m0 c).length≤cur.length):=by
  exact c6k
 have HO1:Hid (∀v∈C8 m0 c,v.oneCell'=true):=fun v h=>hone v (a7p h)
 have HN1:Hid ((C8 m0 c).length=m0*1):=by show _=_;rw[a0M,hc]
 have hm1:m0≤n:=by rw[hm0];exact Nat.min_le_right _ _
 have HM1:Hid (0<m0∨n=0):=by
  exact c7c
 clear hm0 hcur ho1 hg1 hsrc1;have HCL:=A0 hcl;clear hcl;go_wp2_with (refine a7V rfl (.tmp 31) (.tmp 32) 53 53 rfl 3 1 underlying53 (by kernel_rfl) w.heap.size 0 sp n n 1 q0 rfl rfl cur 3 HR1 (C8 m0 c) m0 HM0.out HN1.out HS1.out HL1.out HO1.out ?_;intro w2 HR2 hg2;dsimp only[goInt])
 have HRP:Hid (RpA w w2 3 w.heap.size n m0 1 c (splice cur 0 (C8 m0 c))):=by
  exact a5q
 clear hg2;go_loopg [8] (n-m0) (fun gk v W=>∃(k:Nat) (L:List Value),v= .int .i64 k∧gk+k=n∧(0<k∨n=0)∧RpA w W 3 w.heap.size n k 1 c L)
 case atStart=>exact⟨m0,_,rfl,by omega,HM1.out,HRP.out⟩
 case round=>
  obtain⟨k,L,rfl,hk,hk0,hR⟩:=hrel;have HK0:=A0 hk0;have HR:=A0 hR;clear hk0 hR;by_cases hlt:k<n
  ·obtain⟨m,hm⟩:∃m,m=Nat.min k (n-k):=⟨_,rfl⟩
   have HM:=A0 hm;have hmk:m≤k:=by rw[hm];exact Nat.min_le_left _ _
   have hmn:k+m≤n:=by have:m≤n-k:=by rw[hm];exact Nat.min_le_right _ _
                      omega
   have hmp:0<m:=by
    rw[hm];rcases HK0.out with h|h
    ·show 0<min k (n-k);omega
    ·omega
   clear hm;obtain⟨k2,hk2⟩:∃k2,k2=k+m:=⟨_,rfl⟩
   have HK2:=A0 hk2;have HMP:Hid (0<m∧k+m≤n∧m≤k):=⟨hmp,hmn,hmk⟩
   have e6:IntKind.i64.wrap ((k:Int)+(m:Int))=(k2:Int):=by rw[IntKind.wrap_i64,hk2];omega
   clear hk2 hmp hmn hmk;have hkn:k≤n:=by omega
   have hkn2:¬k=n:=by omega
   have d1:decide ((k:Int)<(n:Int))=true:=decide_eq_true (by omega)
   have HL:Hid (k*1+(C8 m c).length≤L.length):=by
    exact c7b
   have HN:Hid ((C8 m c).length=m*1):=by show _=_;rw[a0M,hc]
   have HO:Hid (∀v∈C8 m c,v.oneCell'=true):=fun v h=>hone v (a7p h)
   have HS:Hid (∀j v,(C8 m c)[j]? =some v→wr.drew.cell? ((⟨w.heap.size,0,none⟩:Addr).add j)=some v):=fun j v h=>by
    have h2:L[j]? =some v:=by
     have h3:C8 m c=L.take (m*1):=by
      exact c5y
     rw[h3,List.getElem?_take]at h;split at h
     ·exact h
     ·cases h
    exact c5n
   have hkn3:¬n=k:=by omega
   have HKK:Hid (k=k*1):=by show _=_;omega
   have HR2':Hid (wr.drew.heap[w.heap.size]? =some (.cells L.toArray 3 (0,0))):=HR.out.row;go_upto_region 9 with fail
   refine wp_region_held_drew (S:=(fun w'=>True)) (by kernel_rfl) ?s1 (fun hHeld=> ?t1)
   case s1=>trivial
   refine A4 0 ?_;refine A4 1 ?_;refine A4 2 ?_;refine A4 3 ?_;refine A4 4 ?_;refine A4 5 ?_;refine A4 6 ?_;refine T6 7 fun K hK=> ?_;refine a8j (.tmp 41) (.tmp 44) 53 53 rfl 3 1 underlying53 (by kernel_rfl) w.heap.size (k) ⟨w.heap.size,0,none⟩ (n-k) (n-k) k n rfl rfl L 3 HR2'.out (C8 m c) m HM.out HN.out HS.out (by rw[HKK.out];exact HL.out) HO.out ?_;intro w3 HR3 hg3;dsimp only[goInt];refine hK.out _ _ ?_ (fun hHeld=> ?_)
   case refine_1=>trivial
   try clear hK K
   try simp only[Act.put,lz]
   refine A4 8 ?_;refine A4 9 ?_;refine wpAnyH_done (by kernel_rfl) ?_ _
   have HRN:Hid (RpA w w3 3 w.heap.size n k2 1 c (splice L (k) (C8 m c))):=by
    exact a4r
   clear hg3;go_wp2_with fail
   go_roundg (n-k2)
   case rel=>exact c6n
   case measure=>have:=HK2.out;have:=HMP.out;omega
  ·exact a6w
theorem c2b(w:World)(sp:Addr)(n q0:Nat)(c:List Value)(hc:c.length=2)(hsrc:∀j v,c[j]? =some v→w.cell? (sp.add j)=some v)(hone:∀v∈c,v.oneCell'=true)(hn:n≤4000000000):
 Calls prog 191 #[.slice (some sp) 1 q0, .int .i64 n] w fun e w'=>∃g,e= .returned (.slice (some ⟨g,0,none⟩) n n)∧w'.ownsRow w.heap.size 98 2 (.slice (some ⟨g,0,none⟩) n n) n (C8 n c)∧w.grownBy w' none:=by
 have hs1:w.heap.size≤w.heap.size:=Nat.le_refl _;obtain⟨inf,ii0,iz0,iz1,iz2⟩:=info_parts a5S;have e1:=Mul64.wrapN n (by omega);have e2:IntKind.i64.wrap (n:Int)=(n:Int):=by rw[IntKind.wrap_i64];omega
 have e3:decide ((9223372036854775807:Int)<(n:Int))=false:=decide_eq_false (by omega);have e4:decide ((n:Int)<0)=false:=decide_eq_false (by omega);have e5:IntKind.u64.wrap 1=1:=by kernel_rfl
 have HB:Hid (∀i,inf.bytes*n≤i→n*24≤i):=fun i h=>by rw[iz2]at h;rw[Nat.mul_comm];exact h
 go_enter func191,ntmps191;go_upto_region 6 with(go_at_call 265;go_loud (refine(b2v w n hn).mono ?_;rintro e w' ⟨rfl,hw⟩;rw[hw]))
 go_upto_region 7 with(at_make;go_loud (refine wpList_make_full _ rfl _ _ 96 rfl w.heap.size 98 inf _ 2 underlying96 ii0 iz0 iz1 .i64 .i64 (n:Int) (n:Int) n rfl rfl rfl rfl (by rw[iz2];omega) (by unfold maxLen;omega) hs1 ?_;intro w1 ho1 hg1;dsimp only))
 have hsp:sp.block<w.heap.size:=by
  exact c6r
 have hsrc1:=fun j v h=>hg1.cell (hsrc j v h) (by simp)
 obtain⟨cur,hcur,hcl⟩:=a8Z ho1;have HR1:=A0 hcur;have HG1:=A0 hg1;obtain⟨m0,hm0⟩:∃m0,m0=Nat.min 1 n:=⟨_,rfl⟩
 have HM0:=A0 hm0
 have HS1:Hid (∀j v,(C8 m0 c)[j]? =some v→w1.cell? (sp.add j)=some v):=fun j v h=>by
  exact c5s
 have HL1:Hid (0+(C8 m0 c).length≤cur.length):=by
  exact c6k
 have HO1:Hid (∀v∈C8 m0 c,v.oneCell'=true):=fun v h=>hone v (a7p h)
 have HN1:Hid ((C8 m0 c).length=m0*2):=by show _=_;rw[a0M,hc]
 have hm1:m0≤n:=by rw[hm0];exact Nat.min_le_right _ _
 have HM1:Hid (0<m0∨n=0):=by
  exact c7c
 clear hm0 hcur ho1 hg1 hsrc1;have HCL:=A0 hcl;clear hcl;go_wp2_with (refine a7V rfl (.tmp 31) (.tmp 32) 96 96 rfl 98 2 underlying96 (by kernel_rfl) w.heap.size 0 sp n n 1 q0 rfl rfl cur 98 HR1 (C8 m0 c) m0 HM0.out HN1.out HS1.out HL1.out HO1.out ?_;intro w2 HR2 hg2;dsimp only[goInt])
 have HRP:Hid (RpA w w2 98 w.heap.size n m0 2 c (splice cur 0 (C8 m0 c))):=by
  exact a5q
 clear hg2;go_loopg [8] (n-m0) (fun gk v W=>∃(k:Nat) (L:List Value),v= .int .i64 k∧gk+k=n∧(0<k∨n=0)∧RpA w W 98 w.heap.size n k 2 c L)
 case atStart=>exact⟨m0,_,rfl,by omega,HM1.out,HRP.out⟩
 case round=>
  obtain⟨k,L,rfl,hk,hk0,hR⟩:=hrel;have HK0:=A0 hk0;have HR:=A0 hR;clear hk0 hR;by_cases hlt:k<n
  ·obtain⟨m,hm⟩:∃m,m=Nat.min k (n-k):=⟨_,rfl⟩
   have HM:=A0 hm;have hmk:m≤k:=by rw[hm];exact Nat.min_le_left _ _
   have hmn:k+m≤n:=by have:m≤n-k:=by rw[hm];exact Nat.min_le_right _ _
                      omega
   have hmp:0<m:=by
    rw[hm];rcases HK0.out with h|h
    ·show 0<min k (n-k);omega
    ·omega
   clear hm;obtain⟨k2,hk2⟩:∃k2,k2=k+m:=⟨_,rfl⟩
   have HK2:=A0 hk2;have HMP:Hid (0<m∧k+m≤n∧m≤k):=⟨hmp,hmn,hmk⟩
   have e6:IntKind.i64.wrap ((k:Int)+(m:Int))=(k2:Int):=by rw[IntKind.wrap_i64,hk2];omega
   clear hk2 hmp hmn hmk;have hkn:k≤n:=by omega
   have hkn2:¬k=n:=by omega
   have d1:decide ((k:Int)<(n:Int))=true:=decide_eq_true (by omega)
   have HL:Hid (k*2+(C8 m c).length≤L.length):=by
    exact c7b
   have HN:Hid ((C8 m c).length=m*2):=by show _=_;rw[a0M,hc]
   have HO:Hid (∀v∈C8 m c,v.oneCell'=true):=fun v h=>hone v (a7p h)
   have HS:Hid (∀j v,(C8 m c)[j]? =some v→wr.drew.cell? ((⟨w.heap.size,0,none⟩:Addr).add j)=some v):=fun j v h=>by
    have h2:L[j]? =some v:=by
     have h3:C8 m c=L.take (m*2):=by
      exact c5y
     rw[h3,List.getElem?_take]at h;split at h
     ·exact h
     ·cases h
    exact c5n
   have hkn3:¬n=k:=by omega
   have HKK:Hid (k*2=k*2):=by show _=_;omega
   have HR2':Hid (wr.drew.heap[w.heap.size]? =some (.cells L.toArray 98 (0,0))):=HR.out.row;go_upto_region 9 with fail
   refine wp_region_held_drew (S:=(fun w'=>True)) (by kernel_rfl) ?s11 (fun hHeld=> ?t11)
   case s11=>trivial
   refine A4 0 ?_;refine A4 1 ?_;refine A4 2 ?_;refine A4 3 ?_;refine A4 4 ?_;refine A4 5 ?_;refine A4 6 ?_;refine T6 7 fun K hK=> ?_;refine a8j (.tmp 41) (.tmp 44) 96 96 rfl 98 2 underlying96 (by kernel_rfl) w.heap.size (k*2) ⟨w.heap.size,0,none⟩ (n-k) (n-k) k n rfl rfl L 98 HR2'.out (C8 m c) m HM.out HN.out HS.out (by rw[HKK.out];exact HL.out) HO.out ?_;intro w3 HR3 hg3;dsimp only[goInt];refine hK.out _ _ ?_ (fun hHeld=> ?_)
   case refine_1=>trivial
   try clear hK K
   try simp only[Act.put,lz]
   refine A4 8 ?_;refine A4 9 ?_;refine wpAnyH_done (by kernel_rfl) ?_ _
   have HRN:Hid (RpA w w3 98 w.heap.size n k2 2 c (splice L (k*2) (C8 m c))):=by
    exact a4r
   clear hg3;go_wp2_with fail
   go_roundg (n-k2)
   case rel=>exact c6n
   case measure=>have:=HK2.out;have:=HMP.out;omega
  ·exact a6w
section
variable{P:Program}{ops:Array Oper}{Q:Exit→Act→World→Prop}{md:Region.Mode}{S:World→Prop}
def c3X(P:Program)(ops:Array Oper)(Q:Exit→Act→World→Prop)(S:World→Prop)(I:Nat→Array Bool→Act→World→Prop)(f:Nat)(l:Array Bool)(a:Act)(w:World)(i:Nat):Prop:=
 ∃o,ops[i]? =some o∧∀K':Act→World→Prop,Hid (∀a' w',S w'→I f (l.setIfInBounds i true) a' w'→K' a' w')→if Region.wanted o (yielded ops a.tmps)=true then Oper.wp P o a w K' Q else K' (a.put o.dst undef) w
theorem b6i(I:Nat→Array Bool→Act→World→Prop)
 (h:∀f l a w,I f l a w→wpAnyH P md ops Q S f l a w∨(∃f' rs,f=f'+1∧Region.ready md ops l=rs∧rs≠ []∧∀i∈rs,c3X P ops Q S I f' l a w i)):
 ∀f l a w,I f l a w→wpAnyH P md ops Q S f l a w:=by
 intro f;induction f with
 |zero=>
  intro l a w hI;rcases h 0 l a w hI with h1|⟨f',rs,h1,_⟩
  ·exact h1
  ·omega
 |succ f ih=>
  intro l a w hI;rcases h _ l a w hI with h1|⟨f',rs,h1,h2,h3,h4⟩
  ·exact h1
  ·cases h1;refine⟨fun h5=>absurd (h2.symm.trans h5) h3,fun i hi=> ?_⟩;rw[h2]at hi;obtain⟨o,ho,h5⟩:=h4 i hi;exact wpOp_step ho fun K' hK=>h5 K' (fun a' w' hS hI'=>hK a' w' ⟨hS,ih _ a' w' hI'⟩)
theorem b0q{F:Type}(L:F→Array Bool)(n:F→Nat)(I:F→Act→World→Prop)(dn:F→Bool)(R:F→Nat→Prop)
 (hr:∀c,dn c=false→Region.ready md ops (L c)≠ []∧0<n c∧∀i∈Region.ready md ops (L c),R c i)
 (hd:∀c a w,I c a w→dn c=true→wpAnyH P md ops Q S (n c) (L c) a w)
 (hs:∀c a w,I c a w→dn c=false→∀i,R c i→∃o,ops[i]? =some o∧∀K':Act→World→Prop,Hid (∀c' a' w',S w'→I c' a' w'→n c'+1=n c→L c'=(L c).setIfInBounds i true→K' a' w')→if Region.wanted o (yielded ops a.tmps)=true then Oper.wp P o a w K' Q else K' (a.put o.dst undef) w):
 ∀c a w,I c a w→∀f l,f=n c→l=L c→wpAnyH P md ops Q S f l a w:=by
 intro c a w hI f l hf hl;refine b6i (fun f l a w=>∃c,f=n c∧l=L c∧I c a w) ?_ _ _ _ _ ⟨c,hf,hl,hI⟩;clear hf hl hI;rintro f l a w ⟨c,rfl,rfl,hI⟩;by_cases h:dn c=true
 ·exact .inl (hd c a w hI h)
 ·have h:=Bool.eq_false_iff.2 h;obtain⟨h1,h2,h3⟩:=hr c h;refine .inr ⟨n c-1,_,by omega,rfl,h1,fun i hi=> ?_⟩;obtain⟨o,ho,h4⟩:=hs c a w hI h i (h3 i hi);exact⟨o,ho,fun K' hK=>h4 K' fun c' a' w' hS hI' hn hl=>hK a' w' hS ⟨c',by omega,hl.symm,hI'⟩⟩
end
theorem a6B{P:Program}(w:World){o:Oper}{a:Act}{K:Act→World→Prop}{Q:Exit→Act→World→Prop}
 (l c:Operand) (t:TypeId) (hop:o.op=Op.makeSlice t l c)
 (base:Nat) (e:TypeId) (i:TypeInfo) (z:Value) (size:Nat) (h1:P.underlying t=some (.slice e)) (h2:P.info? e=some i) (h3:i.zero=some z) (h4:i.size=size)
 (kl kc:IntKind) (n:Nat) (hl:a.eval l= .int kl (n:Int)) (hc:a.eval c= .int kc (n:Int)) (b2:i.bytes*n≤281474976710656) (b3:n≤maxLen) (b4:base≤w.heap.size)
 (hK:∀w',w'.ownsRow base e size (.slice (some ⟨w.heap.size,0,none⟩) n n) n (madeCells z.cells (n*size)).toList→w.grownBy w' none→K (a.put o.dst (.slice (some ⟨w.heap.size,0,none⟩) n n)) w'):
 o.wp P a w K Q:=by
 obtain⟨w',hrun,r1,r2⟩:=run_make_full (P:=P) w base t e i z size h1 h2 h3 h4 kl kc n b2 b3 b4;unfold Oper.wp;simp[execOp,hop,hl,hc,hrun,Result.andThen];exact hK w' r1 r2
def a1I(W:World)(base:Nat)(L:List Cl)(m:Me)(cs:Array Value)(a:Nat):Prop:=
 ∃ta tk ua uk,cs[a*3]? =some (.slice ta (F6 L m (A6 m a)).length tk)∧cs[a*3+1]? =some (.slice ua (C6 L (A6 m a)).length uk)∧cs[a*3+2]? =some (.bool (U2 (A6 m a)))∧
  W.ownsRow base 98 2 (.slice ta (F6 L m (A6 m a)).length tk) (F6 L m (A6 m a)).length ((F6 L m (A6 m a)).flatMap C9)∧
  W.ownsRow base 98 2 (.slice ua (C6 L (A6 m a)).length uk) (C6 L (A6 m a)).length ((C6 L (A6 m a)).flatMap C9)
structure i8(w W:World)(base b0 bw eg hg sg wg:Nat)(g:Nat→Nat)(L:List Cl)(m:Me)(pa:Option Addr)(pk:Nat)(ca:Option Addr)(ck:Nat)(ha:Option Addr)(hk je j:Nat):Prop where
 gb:w.grownBy W none
 meth:A3 W b0 (mV m pa pk ca ck ha hk) 102
 walk:A3 W bw (WkV m pa pk ca ck ha hk eg hg sg wg m.code.length none 0 0).toArray 308
 hts:A3 W hg (List.replicate m.code.length (Value.int .i64 (-1))).toArray 3
 wrong:A3 W wg (List.replicate m.code.length (Value.bool false)).toArray 4
 eff:∃cs:List Value,A3 W eg cs.toArray 315∧cs.length=m.code.length*3∧∀a,a<je→a1I W base L m cs.toArray a
 seen:∃cs:List Value,A3 W sg cs.toArray 264∧cs.length=m.code.length∧∀a,a<j→cs[a]? =some (.slice (some ⟨g a,0,none⟩) (m.stack+1) (m.stack+1))
 rows:∀a,a<j→A3 W (g a) (List.replicate (m.stack+1) (Value.bool false)).toArray 4
 d1:∀a,a<j→base≤g a∧g a≠wg
 d2:∀a c,a<j→c<j→g a=g c→a=c
 b0lt:b0<base∧w.heap.size≤base
 low:base≤bw∧base≤eg∧base≤hg∧base≤sg∧base≤wg
theorem b6A(n:Nat)(v:Value):C8 n [v]=List.replicate n v:=by
 induction n with
 |zero=>rfl
 |succ n ih=>rw[a9p,ih,a9o,←List.replicate_succ']
theorem b1q(n:Nat):(madeCells (Value.bool false).cells (n*1)).toList=List.replicate n (Value.bool false):=by
 exact c6y
variable {W W' w w':World}
variable {cs:Array Value}
variable {e t:TypeId}
theorem A3.grow{g:Nat}(h:A3 w g cs t)(hg:w.grownBy w' none):A3 w' g cs t:=by
 unfold A3;rw[hg.block g h.lt (by simp)];exact h
variable {a b0 base base0 bw ck eg gn hg hk j k lim n pk sg sz wg:Nat}
variable {v:Value}
variable {xs:List Value}
theorem a6R{g:Nat}(h:w.ownsRow base e sz v n xs)(hb:A3 w g cs t)(ht:t≠e):v.ownBlock=none∨v.ownBlock≠some g:=by
 rcases h.2 with⟨rfl,_⟩|⟨g',cap,cur,rfl,_,hg,_⟩
 ·exact .inl rfl
 ·refine .inr fun e=> ?_
  injection e with e
  have e2:g'=g:=e;subst e2;have hb2:w.heap[g']? =some (.cells cs t (0,0)):=hb;rw[hg]at hb2;injection hb2 with hb2
  injection hb2 with _ h2
  exact ht h2.symm
variable {L:List Cl}
variable {m:Me}
theorem a1I.keep(h:a1I W base L m cs a)(hg:W.grownBy W' none):a1I W' base L m cs a:=by
 obtain⟨ta,tk,ua,uk,h1,h2,h3,h4,h5⟩:=h;exact⟨ta,tk,ua,uk,h1,h2,h3,h4.kept hg (by cases hv:(Value.slice ta (F6 L m (A6 m a)).length tk).ownBlock<;>simp),h5.kept hg (by cases hv:(Value.slice ua (C6 L (A6 m a)).length uk).ownBlock<;>simp)⟩
theorem j4{g:Nat}(h:w.ownsRow base e sz v n xs)(hg:w.grownBy w' (some g))(hb:A3 w g cs t)(ht:t≠e):w'.ownsRow base e sz v n xs:=
 h.kept hg (by
  rcases a6R h hb ht with h1|h1
  ·exact .inl h1
  ·exact .inr h1)
variable {g:Nat→Nat}
variable {ca ha pa:Option Addr}
theorem i8.keep{je:Nat}(h:i8 w W base b0 bw eg hg sg wg g L m pa pk ca ck ha hk je j)(hgr:W.grownBy W' none):i8 w W' base b0 bw eg hg sg wg g L m pa pk ca ck ha hk je j:=by
 obtain⟨cs,e1,e2,e3⟩:=h.eff;obtain⟨ds,s1,s2,s3⟩:=h.seen;exact⟨K7 h.gb hgr,A3.grow h.meth hgr,A3.grow h.walk hgr,A3.grow h.hts hgr,A3.grow h.wrong hgr,⟨cs,A3.grow e1 hgr,e2,fun a ha=>(e3 a ha).keep hgr⟩,⟨ds,A3.grow s1 hgr,s2,s3⟩,fun a ha=>A3.grow (h.rows a ha) hgr,h.d1,h.d2,h.b0lt,h.low⟩
theorem i8.effset(h:i8 w W base b0 bw eg hg sg wg g L m pa pk ca ck ha hk j j)(hj:j<m.code.length)
 {ta ua:Option Addr} {tk uk:Nat} (ht:W.ownsRow base 98 2 (.slice ta (F6 L m (A6 m j)).length tk) (F6 L m (A6 m j)).length ((F6 L m (A6 m j)).flatMap C9))
 (hu:W.ownsRow base 98 2 (.slice ua (C6 L (A6 m j)).length uk) (C6 L (A6 m j)).length ((C6 L (A6 m j)).flatMap C9)):
 i8 w (((W.setCell ⟨eg,j*3,none⟩ (.slice ta (F6 L m (A6 m j)).length tk)).setCell ⟨eg,j*3+1,none⟩ (.slice ua (C6 L (A6 m j)).length uk)).setCell ⟨eg,j*3+2,none⟩ (.bool (U2 (A6 m j)))) base b0 bw eg hg sg wg g L m pa pk ca ck ha hk (j+1) j:=by
 obtain⟨cs,e1,e2,e3⟩:=h.eff;obtain⟨ds,s1,s2,s3⟩:=h.seen;have hb:=((e1.set (j*3) (.slice ta (F6 L m (A6 m j)).length tk)).set (j*3+1) (.slice ua (C6 L (A6 m j)).length uk)).set (j*3+2) (.bool (U2 (A6 m j)))
 have hgr:W.grownBy (((W.setCell ⟨eg,j*3,none⟩ (.slice ta (F6 L m (A6 m j)).length tk)).setCell ⟨eg,j*3+1,none⟩ (.slice ua (C6 L (A6 m j)).length uk)).setCell ⟨eg,j*3+2,none⟩ (.bool (U2 (A6 m j)))) (some eg):=
  A1 (A1 (A9 _ ⟨eg,j*3,none⟩ _) (A9 _ ⟨eg,j*3+1,none⟩ _)) (A9 _ ⟨eg,j*3+2,none⟩ _)
 generalize (((W.setCell ⟨eg,j*3,none⟩ (.slice ta (F6 L m (A6 m j)).length tk)).setCell ⟨eg,j*3+1,none⟩ (.slice ua (C6 L (A6 m j)).length uk)).setCell ⟨eg,j*3+2,none⟩ (.bool (U2 (A6 m j))))=W' at hb hgr⊢;have kp:∀{k:Nat} {c:Array Value} {t:TypeId},A3 W k c t→t≠315→A3 W' k c t:=fun hk ht'=>A3.keep hk hgr (fun e=>K6 hk e1 ht' (Option.some.inj e))
 refine⟨D5 h.gb hgr (fun k e=> .inl (by cases e;exact Nat.le_trans h.b0lt.2 h.low.2.1)),kp h.meth (by decide),kp h.walk (by decide),kp h.hts (by decide),kp h.wrong (by decide),⟨((cs.set (j*3) (.slice ta (F6 L m (A6 m j)).length tk)).set (j*3+1) (.slice ua (C6 L (A6 m j)).length uk)).set (j*3+2) (.bool (U2 (A6 m j))),?_,by simp[e2],fun a ha'=> ?_⟩,⟨ds,kp s1 (by decide),s2,s3⟩,fun a ha'=>kp (h.rows a ha') (by decide),h.d1,h.d2,h.b0lt,h.low⟩
 ·simpa using hb
 ·have hl:j*3+2<cs.length:=by rw[e2];omega
  by_cases e:a=j
  ·subst e;refine⟨ta,tk,ua,uk,?_,?_,?_,j4 ht hgr e1 (by decide),j4 hu hgr e1 (by decide)⟩
   ·simp[List.getElem?_set];omega
   ·simp[List.getElem?_set];omega
   ·simp[List.getElem?_set];omega
  ·obtain⟨ta',tk',ua',uk',h1,h2,h3,h4,h5⟩:=e3 a (by omega);refine⟨ta',tk',ua',uk',?_,?_,?_,j4 h4 hgr e1 (by decide),j4 h5 hgr e1 (by decide)⟩
   ·rw[←h1];exact c5d
   ·rw[←h2];exact c5d
   ·rw[←h3];exact c5d
theorem i8.seenset(h:i8 w W base b0 bw eg hg sg wg g L m pa pk ca ck ha hk (j+1) j)(hj:j<m.code.length)
 (hn:A3 W gn (List.replicate (m.stack+1) (Value.bool false)).toArray 4) (hbn:base≤gn) (hwn:gn≠wg) (hd:∀a,a<j→g a≠gn):
 i8 w (W.setCell ⟨sg,j,none⟩ (.slice (some ⟨gn,0,none⟩) (m.stack+1) (m.stack+1))) base b0 bw eg hg sg wg (fun a=>if a=j then gn else g a) L m pa pk ca ck ha hk (j+1) (j+1):=by
 obtain⟨cs,e1,e2,e3⟩:=h.eff;obtain⟨ds,s1,s2,s3⟩:=h.seen;have hb:=s1.set j (.slice (some ⟨gn,0,none⟩) (m.stack+1) (m.stack+1));have hgr:W.grownBy (W.setCell ⟨sg,j,none⟩ (.slice (some ⟨gn,0,none⟩) (m.stack+1) (m.stack+1))) (some sg):=A9 _ ⟨sg,j,none⟩ _;generalize W.setCell ⟨sg,j,none⟩ (.slice (some ⟨gn,0,none⟩) (m.stack+1) (m.stack+1))=W' at hb hgr⊢;have kp:∀{k:Nat} {c:Array Value} {t:TypeId},A3 W k c t→t≠264→A3 W' k c t:=fun hk ht'=>A3.keep hk hgr (fun e=>K6 hk s1 ht' (Option.some.inj e))
 refine⟨D5 h.gb hgr (fun k e=> .inl (by cases e;exact Nat.le_trans h.b0lt.2 h.low.2.2.2.1)),kp h.meth (by decide),kp h.walk (by decide),kp h.hts (by decide),kp h.wrong (by decide),⟨cs,kp e1 (by decide),e2,fun a ha'=> ?_⟩,⟨ds.set j (.slice (some ⟨gn,0,none⟩) (m.stack+1) (m.stack+1)),by simpa using hb,by simp[s2],fun a ha'=> ?_⟩,fun a ha'=> ?_,fun a ha'=> ?_,fun a c ha' hc' he=> ?_,h.b0lt,h.low⟩
 ·obtain⟨ta',tk',ua',uk',h1,h2,h3,h4,h5⟩:=e3 a ha';exact⟨ta',tk',ua',uk',h1,h2,h3,j4 h4 hgr s1 (by decide),j4 h5 hgr s1 (by decide)⟩
 ·by_cases e:a=j
  ·subst e;simp[s2,hj]
  ·rw[List.getElem?_set,if_neg (fun e'=>e e'.symm)];simpa[e]using s3 a (by omega)
 ·try dsimp only
  by_cases e:a=j
  ·rw[if_pos e];exact kp hn (by decide)
  ·rw[if_neg e];exact kp (h.rows a (by omega)) (by decide)
 ·try dsimp only
  by_cases e:a=j
  ·rw[if_pos e];exact⟨hbn,hwn⟩
  ·rw[if_neg e];exact h.d1 a (by omega)
 ·try dsimp only at he
  by_cases e:a=j
  ·by_cases e':c=j
   ·rw[e,e']
   ·rw[if_pos e,if_neg e']at he;exact absurd he.symm (hd c (by omega))
  ·by_cases e':c=j
   ·rw[if_neg e,if_pos e']at he;exact absurd he (hd a (by omega))
   ·rw[if_neg e,if_neg e']at he;exact h.d2 a c (by omega) (by omega) he
theorem i8.done(h:i8 w W base b0 bw eg hg sg wg g L m pa pk ca ck ha hk m.code.length m.code.length):
 L4 W base bw eg hg sg wg g m pa pk ca ck ha hk m.code.length m.stack (Y8 m) none 0:=by
 obtain⟨ds,s1,s2,s3⟩:=h.seen
 have hds:ds=(List.range m.code.length).map fun a=>Value.slice (some ⟨g a,0,none⟩) (m.stack+1) (m.stack+1):=by
  apply List.ext_getElem?;intro a;by_cases ha':a<m.code.length
  ·rw[s3 a ha'];simp[ha']
  ·rw[List.getElem?_eq_none (by omega),List.getElem?_eq_none (by simp;omega)]
 refine⟨h.walk,?_,by rw[←hds];exact s1,fun a ha'=> ?_,?_,⟨rfl, .inl ⟨rfl,rfl⟩⟩,fun a ha'=>(h.d1 a ha').2,fun a c ha' hc'=>h.d2 a c ha' hc',⟨h.low.1,h.low.2.2.1,h.low.2.2.2.1,h.low.2.2.2.2,fun a ha'=>(h.d1 a ha').1⟩⟩
 ·simpa[Y8]using h.hts
 ·have:=h.rows a ha';simpa[Y8,List.getD_eq_getElem?_getD,List.getElem?_replicate,ha']using this
 ·simpa[Y8]using h.wrong
theorem b3d{a:Option Addr}{m l:Nat}:(Value.slice a n k).ownBlock=(Value.slice a m l).ownBlock:=by cases a<;>rfl
theorem a4Y(l:List Wd):(l.flatMap H9).length=l.length*2:=by
 induction l with
 |nil=>rfl
 |cons x l ih=>rw[List.flatMap_cons,List.length_append,ih,List.length_cons];simp only[H9,List.length_cons,List.length_nil];omega
theorem c1z(l:List Wd)(k:Nat)(hk:k<l.length):(l.flatMap H9)[k*2]? =some (.int .i64 (l[k].tag:Int))∧(l.flatMap H9)[k*2+1]? =some (.int .i64 l[k].v):=by
 induction l generalizing k with
 |nil=>simp at hk
 |cons x l ih=>
  cases k with
  |zero=>exact⟨rfl,rfl⟩
  |succ k=>
   have:=ih k (by simpa using hk);rw[List.flatMap_cons,Nat.succ_mul];simp only[List.getElem_cons_succ];rw[show k*2+2+1=k*2+1+2 by omega];exact this
theorem b2Z{a:Option Addr}{l:List Wd}(h:w.ownsRow base 145 2 (.slice a n k) n (l.flatMap H9))(hj:j<l.length):
 ∃q,a=some ⟨q,0,none⟩∧w.cell? ⟨q,j*2,none⟩=some (.int .i64 (l[j].tag:Int))∧w.cell? ⟨q,j*2+1,none⟩=some (.int .i64 l[j].v):=by
 have hn:n=l.length:=by have:=h.1;rw[a4Y]at this;omega
 obtain⟨q,qc,hq,-,hqs⟩:=h.form (by omega);injection hq with hq1 _ _
 subst hq1;obtain⟨f0,f1⟩:=c1z l j hj;have h0:=h.cells (g:=q) rfl (j*2) _ f0;have h1:=h.cells (g:=q) rfl (j*2+1) _ f1;refine⟨q,rfl,?_,?_⟩
 ·rcases Nat.eq_zero_or_pos (j*2)with e2|e2<;>simpa[Addr.add_lit]using h0
 ·simpa[Addr.add_lit]using h1
theorem c0L(w:World)(lim base:Nat)(x:D9)(f:Fm)(h:Hid (M1 w lim base x f))(hs:0<f.stack.length):
 Calls prog 303 #[.pointer (some ⟨x.fp,0,none⟩)] w fun e w'=>e= .returned (.agg #[.int .i64 ((V3 f 0).tag:Int), .int .i64 (V3 f 0).v])∧w.grownBy w' none:=by
 obtain⟨sa,sk,hsv⟩:=F0 h.out.st;have hst:=h.out.st;rw[hsv]at hst;obtain⟨n,hn⟩:∃n,n=f.stack.length:=⟨_,rfl⟩
 obtain⟨q,rfl,q0,q1⟩:=b2Z hst (j:=f.stack.length-1) (by omega)
 have htop:V3 f 0=f.stack[f.stack.length-1]:=by
  unfold V3;rw[Nat.sub_zero,List.getD_eq_getElem?_getD,List.getElem?_eq_getElem (by omega)];rfl
 rw[←htop]at q0 q1;have c10:w.cell? ⟨x.fp,10,none⟩=some (.slice (some ⟨q,0,none⟩) f.stack.length sk):=by rw[←hsv];exact h.out.blk.cell 10 _ rfl
 have hcap:=a3X hst;have hnst:=h.out.nst;rw[←hn]at hs q0 q1 c10 hcap hnst;obtain⟨j,hj⟩:∃j,n=j+1:=⟨n-1,by omega⟩
 subst hj;rw[Nat.add_sub_cancel]at q0 q1;obtain⟨fp,hfp⟩:∃fp,fp=x.fp:=⟨_,rfl⟩
 rw[←hfp]at c10⊢;have hlt:=World.block_lt_of_cell? w _ c10;have hlq:=World.block_lt_of_cell? w _ q0;dsimp only at hlt hlq;generalize V3 f 0=u at q0 q1⊢;have hjw:IntKind.i64.wrap (j:Int)=j:=IntWalk.i64_in _ (by omega);have hj0:(0:Int)≤j∧(j:Int)<(j:Int)+1:=by omega
 have hj2:(j:Int)<(j:Int)+1:=by omega
 clear hst hsv hn htop hs h hfp;go_enter func303,ntmps303;go_upto_region 1 with fail
 have hb2:=A3.new w #[.int .i64 0, .int .i64 0] 145;have hg2:=A2 w (.cells #[.int .i64 0, .int .i64 0] 145) none
 have HC:∀w',(w.alloc (.cells #[.int .i64 0, .int .i64 0] 145)).grownBy w' (some w.heap.size)→w'.cell? ⟨fp,10,none⟩=some (.slice (some ⟨q,0,none⟩) (j+1) sk)∧w'.cell? ⟨q,j*2,none⟩=some (.int .i64 (u.tag:Int))∧w'.cell? ⟨q,j*2+1,none⟩=some (.int .i64 u.v):=fun w' hw=>by
  have hg3:=D5 hg2 hw (fun k e=>by cases e;exact .inl (Nat.le_refl _));exact⟨hg3.cell c10 A5,hg3.cell q0 A5,hg3.cell q1 A5⟩
 generalize w.alloc (.cells #[.int .i64 0, .int .i64 0] 145)=W1 at hb2 hg2 HC⊢;refine wp_region_held_drew (S:=fun w'=>W1.grownBy w' (some w.heap.size)) (by kernel_rfl) (B6 _ _) (fun hHeld=> ?_);refine A4 0 ?_;refine A4 1 ?_;refine A4 2 ?_;refine A4 3 ?_;refine A4 4 ?_;refine A4 5 ?_;refine A4 6 ?_;refine A4 7 ?_;refine A4 8 ?_;refine A4 9 ?_;refine A4 10 ?_;refine A4 11 (v:= .agg #[.int .i64 (u.tag:Int), .int .i64 u.v]) ?_;have hb3:=hb2.keep (B6 W1 none) A5;have hg3:=A1 hg2 (B6 W1 none);generalize W1.drew=W2 at hb3 hg3 hHeld⊢;obtain⟨z0,z1⟩:=hb3.q2;obtain⟨f0,f1⟩:=hb3.z2;refine T6 12 fun K' hK=> ?_
 go_simp
 have hgs:W2.grownBy ((W2.setCell ⟨w.heap.size,0,none⟩ (.int .i64 (u.tag:Int))).setCell ⟨w.heap.size,1,none⟩ (.int .i64 u.v)) (some w.heap.size):=A1 (A9 _ ⟨w.heap.size,0,none⟩ _) (A9 _ ⟨w.heap.size,1,none⟩ _);have hb4:=(hb3.set 0 (.int .i64 (u.tag:Int))).set 1 (.int .i64 u.v);generalize ((W2.setCell ⟨w.heap.size,0,none⟩ (.int .i64 (u.tag:Int))).setCell ⟨w.heap.size,1,none⟩ (.int .i64 u.v))=W3 at hgs hb4⊢;have hg4:=D5 hg3 hgs (fun k e=>by cases e;exact .inl (Nat.le_refl _));refine hK.out _ _ (A1 hHeld hgs) (fun _=> ?_);refine wpAnyH_done (by kernel_rfl) ?_ _;obtain⟨r0,r1⟩:=hb4.q2;go_wp2_with fail
 exact bodyPost_ret (v:= .agg #[.int .i64 (u.tag:Int), .int .i64 u.v]) (by simp[results,results303,go_sem,r0,r1]) rfl ⟨rfl,hg4⟩
theorem c0M(l:List Wd)(n:Nat):(l.flatMap H9).take (n*2)=(l.take n).flatMap H9:=by
 induction l generalizing n with
 |nil=>simp
 |cons x l ih=>
  cases n with
  |zero=>simp
  |succ n=>
   rw[List.flatMap_cons,List.take_succ_cons,List.flatMap_cons,←ih n,Nat.succ_mul];simp[H9,List.take_append]
variable {x:D9}
variable {f:Fm}
theorem M1.keep(h:M1 W lim base x f)(hg:W.grownBy W' none):M1 W' lim base x f:=
 ⟨h.blk.keep hg A5,h.low,h.st.kept hg (by cases x.sv.ownBlock<;>simp),h.lo.kept hg (by cases x.lv.ownBlock<;>simp),h.ne,h.nst,h.nat,h.code.keep hg,h.hand.keep hg⟩
theorem M1.lt(h:M1 W lim base x f):∀k∈x.ids,k<W.heap.size:=fun k hk=>by
 simp only[D9.ids,List.mem_cons,List.mem_append,E2]at hk;rcases hk with h1|h1|h1
 ·rw[h1];exact h.blk.lt
 ·exact(h.st.lt k h1).2
 ·exact(h.lo.lt k h1).2
theorem E8.late{W1 W2:World}{S S1:List Nat}{g:Nat}(h:E8 W W1 S S1)(hg:W1.grownBy W2 (some g))(hn:W.heap.size≤g):E8 W W2 S S1:=
 ⟨hg.os.trans h.os,hg.tape.trans h.tape,hg.output.trans h.output,Nat.le_trans h.size hg.size,fun k hk hs=>(hg.block k (Nat.lt_of_lt_of_le hk h.size) (by intro e;cases e;omega)).trans (h.low k hk hs),h.own⟩
theorem M1.late{g:Nat}(h:M1 W lim base x f)(hg:W.grownBy W' (some g))(hx:g∉x.ids)(hl:lim≤g)(hlw:lim≤W.heap.size):M1 W' lim base x f:=
 h.other (E8.one (S:=[g]) (S':=[]) hg (by simp) (fun k hk=>by cases hk)) (fun k hk=>by simp only[List.mem_singleton];exact fun e=>hx (e▸hk)) (fun k hk=>by rw[List.mem_singleton.1 hk];exact hl) hlw
theorem M1.stk(h:M1 W lim base x f){r:Option Nat}{g:World}(hg1:W.grownBy g r)(hr:∀k,r=some k→x.sv.ownBlock=some k)(hlb:lim≤base)(hbw:base≤W.heap.size){st:List Wd}(ho:g.ownsRow base 145 2 v st.length (st.flatMap H9))
 (hv:∀k,v.ownBlock=some k→x.sv.ownBlock=some k∨W.heap.size≤k) (hn:st.length≤1000) (hw:W'=g.setCell ⟨x.fp,10,none⟩ v):M1 W' lim base {x with sv:=v} {f with stack:=st}∧E8 W W' x.ids {x with sv:=v}.ids:=by
 have hne:∀k,r=some k→x.fp≠k:=fun k e hk=>by
  obtain⟨g',cap,cur,e1,-,e3,-⟩:=h.st.2.resolve_left (fun e4=>by have:=hr k e;rw[e4.1]at this;cases this);have e5:=hr k e;rw[e1]at e5;obtain rfl:=Option.some.inj e5;have:=h.blk;unfold A3 at this;rw[hk]at this;rw[this]at e3;injection e3 with e3;injection e3 with _ e6 _;exact absurd e6 (by decide)
 have hb:=h.blk.keep hg1 (fun e=>by cases r with|none=>cases e|some k=>exact hne k rfl (Option.some.inj e));have hs:=A9 g ⟨x.fp,10,none⟩ v;rw[←hw]at hs;have hb2:A3 W' x.fp (a1Y {x with sv:=v} {f with stack:=st}) 212:=by rw[hw];exact hb.set 10 v
 have hlo:=h.lo.kept hg1 (by
  cases hl:x.lv.ownBlock with
  |none=>exact .inl rfl
  |some m=>exact .inr (fun e=>h.ne m (hr m e.symm) hl))
 have hrd:∀{enc:In→List Value} {a:Option Addr} {xs:List In},B8 W lim 4 enc a xs→B8 W' lim 4 enc a xs:=fun hr2 j hj=>by
  obtain⟨p,h1,h2,h3⟩:=hr2 j hj;exact a4p
 have hvl:∀k,v.ownBlock=some k→x.lv.ownBlock≠some k:=fun k hk hl=>by
  rcases hv k hk with h1|h1
  ·exact h.ne k h1 hl
  ·have:=(h.lo.lt k hl).2;omega
 refine⟨⟨hb2,h.low,j4 ho hs hb (by decide),j4 hlo hs hb (by decide),hvl,hn,h.nat,hrd h.code,?_⟩,⟨hs.os.trans hg1.os,hs.tape.trans hg1.tape,hs.output.trans hg1.output,Nat.le_trans hg1.size hs.size,fun k hk hn=> ?_,fun k hk=> ?_⟩⟩
 ·intro j hj;obtain⟨p,h1,h2,h3⟩:=h.hand j hj;exact a4p
 ·have n1:k≠x.fp:=fun e=>hn (by simp[D9.ids,e])
  have n2:some k≠r:=fun e=>hn (by simp[D9.ids,E2,hr k e.symm])
  exact(hs.block k (Nat.lt_of_lt_of_le hk hg1.size) (fun e=>n1 (Option.some.inj e))).trans (hg1.block k hk n2)
 ·simp only[D9.ids,List.mem_cons,List.mem_append,E2]at hk⊢;rcases hk with h1|h1|h1
  ·exact .inl (.inl h1)
  ·exact(hv k h1).imp (fun h2=> .inr (.inl h2)) id
  ·exact .inl (.inr (.inr h1))
theorem c0Y(w:World)(lim base:Nat)(x:D9)(f:Fm)(h:Hid (M1 w lim base x f))(hlb:lim≤base)(hbw:base≤w.heap.size)(hs:0<f.stack.length):
 Calls prog 236 #[.pointer (some ⟨x.fp,0,none⟩)] w fun e w'=>e= .returned (.agg #[.int .i64 ((V3 f 0).tag:Int), .int .i64 (V3 f 0).v])∧∃v,M1 w' lim base {x with sv:=v} (L8 f 1)∧E8 w w' x.ids {x with sv:=v}.ids:=by
 have HT:Hid (∀W,w.grownBy W none→Calls prog 303 #[.pointer (some ⟨x.fp,0,none⟩)] W fun e w'=>e= .returned (.agg #[.int .i64 ((V3 f 0).tag:Int), .int .i64 (V3 f 0).v])∧W.grownBy w' none):=
  fun W hW=>c0L W lim base x f (h.out.keep hW) hs
 obtain⟨sa,sk,hsv⟩:=F0 h.out.st;have hst:=h.out.st;rw[hsv]at hst;obtain⟨j,hj⟩:∃j,f.stack.length=j+1:=⟨f.stack.length-1,by omega⟩
 rw[hj]at hst;have HSH:=A0 (a6Q hst)
 have hcap:j≤sk:=by
  rcases hst.2 with⟨e1,-⟩|⟨q',cap,cur,e1,-,-,h5,-⟩
  ·cases e1
  ·injection e1 with _ _ e3;omega
 have hkl:sk≤maxLen:=by
  rcases hst.2 with⟨e1,-⟩|⟨q',cap,cur,e1,-,-,h5,h6,-⟩
  ·cases e1
  ·injection e1 with _ _ e3;omega
 unfold maxLen at hkl;have c10:w.cell? ⟨x.fp,10,none⟩=some (.slice sa (j+1) sk):=by rw[←hj,←hsv];exact h.out.blk.cell 10 _ rfl
 have hnst:=h.out.nst;rw[hj]at hnst;obtain⟨fp,hfp⟩:∃fp,fp=x.fp:=⟨_,rfl⟩
 have HFP:=A0 hfp;have f10:=h.out.blk.frozen 10;rw[←hfp]at c10 HT f10⊢;have hlt:=World.block_lt_of_cell? w _ c10;dsimp only at hlt;obtain⟨u,hu⟩:∃u,u=V3 f 0:=⟨_,rfl⟩
 have HU:=A0 hu;rw[←hu]at HT⊢;have HJ:Hid (f.stack.length=j+1∧x.sv= .slice sa (j+1) sk):=⟨hj,by rw[hsv,hj]⟩
 have hjw:IntKind.i64.wrap (j:Int)=j:=IntWalk.i64_in _ (by omega);clear hst hsv hj hfp hu hs;go_enter func236,ntmps236;go_upto_region 2 with(go_at_call 303;refine(HT.out _ (A2 w _ none)).mono ?_;rintro e w1 ⟨rfl,hg1⟩)
 have hga:=A2 w1 (.cells #[.int .i64 (u.tag:Int), .int .i64 u.v] 145) none;have hgw:=A1 (A1 (A2 w (.cells #[.int .i64 0, .int .i64 0] 145) none) hg1) hga;have hb3:=A3.new w1 #[.int .i64 (u.tag:Int), .int .i64 u.v] 145;have hb2:=((A3.new w #[.int .i64 0, .int .i64 0] 145).keep hg1 A5).keep hga A5;have hw1:w.heap.size+1≤w1.heap.size:=by have:=hg1.size;simp at this;omega
 generalize w1.alloc (.cells #[.int .i64 (u.tag:Int), .int .i64 u.v] 145)=W1 at hgw hb2 hb3⊢;clear hga hg1;generalize w1.heap.size=B3 at hb3 hw1⊢;have d10:=hgw.cell c10 A5;have e10:W1.frozen? ⟨fp,10,none⟩=false:=by rw[HFP.out];exact(h.out.blk.keep hgw A5).frozen 10
 have hj1:(0:Int)≤j∧(j:Int)≤sk:=by omega
 have hj2:(j:Int)≤sk:=by omega
 clear c10 f10;go_region
 have hl:(f.stack.take j).length=j:=by rw[List.length_take,HJ.out.1];omega
 have ho:W1.ownsRow base 145 2 (.slice sa j sk) (f.stack.take j).length ((f.stack.take j).flatMap H9):=by
  rw[hl,←c0M];exact HSH.out.kept hgw (by cases (Value.slice sa j sk).ownBlock<;>simp)
 obtain⟨hF,hO⟩:=h.out.stk hgw (fun k e=>by cases e) hlb hbw ho (fun k e=> .inl (by rw[HJ.out.2];exact b3d.trans e)) (by rw[hl];omega) rfl;rw[←HFP.out]at hF hO;have hpf:L8 f 1={f with stack:=f.stack.take j}:=by unfold L8;rw[HJ.out.1,Nat.add_sub_cancel]
 have hn1:fp≠w.heap.size:=by omega
 have hn2:fp≠B3:=by omega
 have hn3:w.heap.size≠B3:=by omega
 have hb3':=(hb3.keep (A9 W1 ⟨fp,10,none⟩ (.slice sa j sk)) (fun e=>hn2 (Option.some.inj e).symm)).keep (B6 _ none) A5;have hb2':=(hb2.keep (A9 W1 ⟨fp,10,none⟩ (.slice sa j sk)) (fun e=>hn1 (Option.some.inj e).symm)).keep (B6 _ none) A5;have hF2:=hF.keep (B6 _ none);have hO2:=hO.trans (E8.grown (B6 _ none) _);have hgs2:=hb2'.lt;generalize (W1.setCell ⟨fp,10,none⟩ (.slice sa j sk)).drew=W2 at hb2' hb3' hF2 hO2 hgs2⊢;obtain⟨z0,z1⟩:=hb3'.q2;obtain⟨y0,y1⟩:=hb2'.q2;obtain⟨g0,g1⟩:=hb2'.z2;clear d10 e10 hF hO ho HSH;go_wp2_with fail
 have hb4:=(hb2'.set 0 (.int .i64 (u.tag:Int))).set 1 (.int .i64 u.v);obtain⟨r0,r1⟩:=hb4.q2;have hgs:=A1 (A9 W2 ⟨w.heap.size,0,none⟩ (.int .i64 (u.tag:Int))) (A9 _ ⟨w.heap.size,1,none⟩ (.int .i64 u.v));dsimp only at hgs;refine bodyPost_ret (v:= .agg #[.int .i64 (u.tag:Int), .int .i64 u.v]) (by simp[results,results236,go_sem,r0,r1]) rfl ⟨rfl, .slice sa j sk,?_,hO2.late hgs (Nat.le_refl _)⟩;rw[hpf];refine hF2.late hgs ?_ (by omega) (by omega);intro hm;have h9:=h.out.lt
 have:w.heap.size∈x.ids:=by
  simp only[D9.ids,List.mem_cons,List.mem_append,E2]at hm⊢;rcases hm with h1|h1|h1
  ·exact .inl (h1.trans HFP.out)
  ·exact .inr (.inl (by rw[HJ.out.2];exact b3d.trans h1))
  ·exact .inr (.inr h1)
 exact absurd (h9 _ this) (Nat.lt_irrefl _)
theorem i8.effset2{i:In}(h:i8 w W base b0 bw eg hg sg wg g L m pa pk ca ck ha hk j j)(hj:j<m.code.length)(hi:i=A6 m j)
 {ta ua:Option Addr} {tk uk:Nat} (ht:W.ownsRow base 98 2 (.slice ta (F6 L m i).length tk) (F6 L m i).length ((F6 L m i).flatMap C9))
 (hu:W.ownsRow base 98 2 (.slice ua (C6 L i).length uk) (C6 L i).length ((C6 L i).flatMap C9)):
 i8 w (((W.setCell ⟨eg,j*3,none⟩ (.slice ta (F6 L m i).length tk)).setCell ⟨eg,j*3+1,none⟩ (.slice ua (C6 L i).length uk)).setCell ⟨eg,j*3+2,none⟩ (.bool (U2 i))) base b0 bw eg hg sg wg g L m pa pk ca ck ha hk (j+1) j:=by
 subst hi;exact h.effset hj ht hu
theorem i8.seenset2{st1:Nat}(h:i8 w W base b0 bw eg hg sg wg g L m pa pk ca ck ha hk (j+1) j)(hj:j<m.code.length)(hs:st1=m.stack+1)
 (hn:A3 W gn (List.replicate st1 (Value.bool false)).toArray 4) (hbn:base≤gn) (hwn:gn≠wg) (hd:∀a,a<j→g a≠gn):
 i8 w (W.setCell ⟨sg,j,none⟩ (.slice (some ⟨gn,0,none⟩) st1 st1)) base b0 bw eg hg sg wg (fun a=>if a=j then gn else g a) L m pa pk ca ck ha hk (j+1) (j+1):=by
 subst hs;exact h.seenset hj hn hbn hwn hd
theorem b3e(h:w.ownsRow base 98 sz v n xs)(hf:Fr base0 w w'):w'.ownsRow base 98 sz v n xs:=by
 refine⟨h.1,?_⟩;rcases h.2 with h1|⟨g,cap,cur,hv,hb,hg,h2⟩
 ·exact .inl h1
 ·exact .inr ⟨g,cap,cur,hv,hb,hf.blk g cur (0,0) hg,h2⟩
theorem a1I.fr(h:a1I W base L m cs a)(hf:Fr base0 W W'):a1I W' base L m cs a:=by
 obtain⟨ta,tk,ua,uk,h1,h2,h3,h4,h5⟩:=h;exact⟨ta,tk,ua,uk,h1,h2,h3,b3e h4 hf,b3e h5 hf⟩
theorem c3u(h:w.grownBy W none)(hf:Fr base W W')(hb:w.heap.size≤base):w.grownBy W' none:=
 ⟨hf.os.trans h.os,hf.tape.trans h.tape,hf.output.trans h.output,Nat.le_trans h.size hf.size,fun k hk hne=>(hf.low k (Nat.lt_of_lt_of_le hk hb)).trans (h.block k hk hne)⟩
def c1P(w w':World)(L:List Cl)(m:Me)(pa:Option Addr)(pk:Nat)(ca:Option Addr)(ck:Nat)(ha:Option Addr)(hk:Nat)(e:Ending):Prop:=
 ∃(base b eg hg sg wg:Nat) (g:Nat→Nat) (s:Wk) (wa:Option Addr) (wk:Nat),e= .returned (.pointer (some ⟨b,0,none⟩))∧w.heap.size≤base∧base≤w'.heap.size∧L4 w' base b eg hg sg wg g m pa pk ca ck ha hk m.code.length m.stack s wa wk∧U3 L m s∧
  (∀a k,sq s.seen a k=true↔Cf.F9 L m a k)∧(∀a,wq s.wrong a=true↔a1k L m a)∧(∃cs:Array Value,A3 w' eg cs 315∧∀a,a<m.code.length→a1I w' base L m cs a)∧w.grownBy w' none
def SlM(c:Bool)(W:World)(base:Nat)(e:TypeId)(sz n:Nat)(xs:List Value)(v:Value):Prop:=
 (c=false∧v=undef)∨(c=true∧∃g,v= .slice (some ⟨g,0,none⟩) n n∧W.ownsRow base e sz v n xs)
theorem SlM.keep{c:Bool}(h:SlM c W base e sz n xs v)(hg:W.grownBy W' none):SlM c W' base e sz n xs v:=by
 rcases h with h|⟨h1,g,h2,h3⟩
 ·exact .inl h
 ·exact .inr ⟨h1,g,h2,h3.kept hg (by cases hv:(v:Value).ownBlock<;>simp)⟩
def SlR(c:Nat)(W:World)(base n:Nat)(v15 v17:Value):Prop:=
 (c=0∧v15=undef∧v17=undef)∨(c=1∧v17=undef∧∃g,v15= .slice (some ⟨g,0,none⟩) 1 1∧W.cell? ⟨g,0,none⟩=some (.int .i64 (-1)))∨
 (c=2∧∃g,v17= .slice (some ⟨g,0,none⟩) n n∧W.ownsRow base 3 1 v17 n (C8 n [.int .i64 (-1)]))
theorem SlR.keep{c:Nat}{v15 v17:Value}(h:SlR c W base n v15 v17)(hg:W.grownBy W' none):SlR c W' base n v15 v17:=by
 rcases h with h|⟨h1,h2,g,h3,h4⟩|⟨h1,g,h2,h3⟩
 ·exact .inl h
 ·exact .inr (.inl ⟨h1,h2,g,h3,hg.cell h4 (by simp)⟩)
 ·exact .inr (.inr ⟨h1,g,h2,h3.kept hg (by cases hv:(v17:Value).ownBlock<;>simp)⟩)
theorem a3Y{g:Nat}(h:w.ownsRow base e sz (.slice (some ⟨g,0,none⟩) n n) n xs):A3 w g xs.toArray e∧base≤g:=by
 rcases h.2 with⟨hv,_⟩|⟨g',cap,cur,hv,hb,hg,_,_,hs,ht⟩
 ·cases hv
 ·cases hv;refine⟨?_,hb⟩;have:cur.toList=xs:=by rw[←ht,List.take_of_length_le (by simp[hs])]
  rw[←this];simpa[A3]using hg
def w2F(b b0 n:Nat)(ca:Option Addr)(ck:Nat)(mv v14 v15 v17 v19 v21:Value):Act:={tmps:= #[.pointer (some ⟨b,0,none⟩),mv,undef, .pointer (some ⟨b0,0,none⟩), .pointer none, .int .i64 n,undef,undef,undef, .pointer (some ⟨b0,6,none⟩), .slice ca n ck, .int .i64 n,mv, .int .i64 n,v14,v15, .int .i64 n,v17, .int .i64 n,v19, .int .i64 n,v21,undef,undef,undef,undef,undef,undef,undef,undef,undef,undef,undef,undef,undef,undef,undef,undef,undef,undef,undef,undef,undef,undef,undef,undef,undef,undef,undef,undef,undef,undef,undef,undef,undef,undef],defers:=[]}
abbrev FgW:=Bool×Bool×Bool×Fin 3
def w2L(c:FgW):Array Bool:= #[true,true,c.1,decide (1≤c.2.2.2.val),true,decide (2≤c.2.2.2.val),true,c.2.1,true,c.2.2.1,false,false,false]
def W2I(W1:World)(base b b0 n:Nat)(ca:Option Addr)(ck:Nat)(mv:Value)(zE zS zO:List Value)(c:FgW)(a:Act)(W:World):Prop:=
 ∃v14 v15 v17 v19 v21:Value,a=w2F b b0 n ca ck mv v14 v15 v17 v19 v21∧
  W1.grownBy W none∧SlM c.1 W base 315 3 n zE v14∧SlR c.2.2.2.val W base n v15 v17∧SlM c.2.1 W base 264 1 n zS v19∧SlM c.2.2.1 W base 4 1 n zO v21
theorem c2D:(prog.info? 315).map (fun i=>(i.zero,i.size,i.bytes))=some (some (.agg #[.slice none 0 0, .slice none 0 0, .bool false]),3,56):=by kernel_rfl
theorem c2B:(prog.info? 264).map (fun i=>(i.zero,i.size,i.bytes))=some (some (.slice none 0 0),1,24):=by kernel_rfl
theorem c2C:(prog.info? 4).map (fun i=>(i.zero,i.size,i.bytes))=some (some (.bool false),1,1):=by kernel_rfl
theorem b6q(w:World)(lim b:Nat)(L:List Cl)(m:Me)(pa ca ha:Option Addr)(pk ck hk:Nat)(hn:m.code.length≤65535)(p:Addr)(cap m1 m2 m3:Nat)(q:Nat→Qs)(h:Hid (Lk w lim b L p cap m1 m2 m3 q))(hl:lim≤w.heap.size)(hRc:Hid (B8 w lim 4 T3 ca m.code))(hRh:Hid (B8 w lim 4 T4 ha m.handlers))(hco:R0 L m)(hin:∀i∈m.code,a1D L i)(hst:m.stack≤255)(hhl:m.handlers.length≤0):
 Calls prog 128 #[.pointer (some ⟨b,0,none⟩), .agg (mV m pa pk ca ck ha hk)] w fun e w'=>c1P w w' L m pa pk ca ck ha hk e:=by
 have hio:=A0 (fun i hi=>(hin i hi).ok);have HFI:Hid (R0 L m∧(∀i∈m.code,a1D L i)∧m.code.length≤65535∧m.stack≤255∧m.handlers.length≤0):=⟨hco,hin,hn,hst,hhl⟩
 clear hco hin hhl;go_enter func128,ntmps128;go_upto_region 2 with fail
 have hbk:A3 (w.alloc (.cells (mV m pa pk ca ck ha hk) 102)) w.heap.size (mV m pa pk ca ck ha hk) 102:=heap_alloc_new w _;have hgw:w.grownBy (w.alloc (.cells (mV m pa pk ca ck ha hk) 102)) none:=A2 w _ none;have hsz:=hbk.lt;generalize w.alloc (.cells (mV m pa pk ca ck ha hk) 102)=W1 at hbk hgw hsz⊢;obtain⟨inE,iE0,iE1,iE2,iE3⟩:=info_parts c2D;obtain⟨inS,iS0,iS1,iS2,iS3⟩:=info_parts c2B;obtain⟨inO,iO0,iO1,iO2,iO3⟩:=info_parts c2C;have HBK:Hid (A3 W1.drew w.heap.size (mV m pa pk ca ck ha hk) 102):=hbk;clear hbk;refine wp_region_held_drew (S:=(fun w'=>W1.drew.grownBy w' none)) (by kernel_rfl) (I8 _ _) (fun hHeld=> ?_);refine tkT 0 (v:= .agg (mV m pa pk ca ck ha hk)) (hv:= .inl ⟨by rfl,?h0⟩) (k:= ?r0)
 case h0=>
  intro w5 hSw;have h0:=hSw.cell (HBK.out.cell 0 _ rfl) (by simp);have h1:=hSw.cell (HBK.out.cell 1 _ rfl) (by simp);have h2:=hSw.cell (HBK.out.cell 2 _ rfl) (by simp);have h3:=hSw.cell (HBK.out.cell 3 _ rfl) (by simp);have h4:=hSw.cell (HBK.out.cell 4 _ rfl) (by simp);have h5:=hSw.cell (HBK.out.cell 5 _ rfl) (by simp);have h6:=hSw.cell (HBK.out.cell 6 _ rfl) (by simp);have h7:=hSw.cell (HBK.out.cell 7 _ rfl) (by simp);go_simp
  try rfl
 try simp only[Act.put,lz]
 refine A4 1 ?_;refine A4 4 ?_;refine A4 6 ?_;refine A4 8 ?_;have hs1:W1.drew.heap.size≤W1.drew.heap.size:=Nat.le_refl _;refine b0q w2L (fun c=>3+(!c.1).toNat+(!c.2.1).toNat+(!c.2.2.1).toNat+(2-c.2.2.2.val)) (W2I W1.drew W1.heap.size b w.heap.size m.code.length ca ck (.agg (mV m pa pk ca ck ha hk)) (madeCells (Value.agg #[.slice none 0 0, .slice none 0 0, .bool false]).cells (m.code.length*3)).toList (madeCells (Value.slice none 0 0).cells (m.code.length*1)).toList (madeCells (Value.bool false).cells (m.code.length*1)).toList) (fun c=>c.1&&c.2.1&&c.2.2.1&&decide (c.2.2.2.val=2)) (fun c i=>(i=2∧c.1=false)∨(i=3∧c.2.2.2.val=0)∨(i=5∧c.2.2.2.val=1)∨(i=7∧c.2.1=false)∨(i=9∧c.2.2.1=false)) ?hr ?hd ?hs (false,false,false,0) _ _ ⟨undef,undef,undef,undef,undef,rfl,hHeld, .inl ⟨rfl,rfl⟩, .inl ⟨rfl,rfl,rfl⟩, .inl ⟨rfl,rfl⟩, .inl ⟨rfl,rfl⟩⟩ _ _ rfl rfl
 case hr=>rintro⟨a,b,c,d⟩;revert a b c d;decide+kernel
 case hs=>
  rintro⟨c2,c7,c9,c⟩ a W ⟨v14,v15,v17,v19,v21,rfl,hgb,f14,f17,f19,f21⟩-i hi;have HBS:W1.heap.size≤W.heap.size:=hgb.size;have HK7:=A0 hn;dsimp only at hi f14 f17 f19 f21;rcases hi with⟨rfl,rfl⟩|⟨rfl,hc⟩|⟨rfl,hc⟩|⟨rfl,rfl⟩|⟨rfl,rfl⟩
  ·refine⟨_,rfl,fun K' hK=>(if_pos (by rfl)).mpr ?_⟩;refine a6B _ (.tmp 13) (.tmp 13) 305 rfl W1.heap.size 315 inE _ _ underlying305 iE0 iE1 rfl .i64 .i64 m.code.length rfl rfl (by rw[iE3];have:=HK7.out;omega) (by have:=HK7.out;unfold maxLen;omega) HBS fun w' ho hg=> ?_
   rw[iE2]at ho;exact hK.out (true,c7,c9,c) _ _ (K7 hgb hg) ⟨_,_,_,_,_,rfl,K7 hgb hg, .inr ⟨rfl,_,rfl,ho⟩,f17.keep hg,f19.keep hg,f21.keep hg⟩ (by simp<;>omega) rfl
  ·rcases f17 with⟨_,rfl,rfl⟩|⟨h0,_⟩|⟨h0,_⟩<;>try omega
   obtain rfl:c=0:=Fin.ext hc;refine⟨_,rfl,fun K' hK=>(if_pos (by rfl)).mpr ?_⟩;go_simp
   have hg:W.grownBy (W.alloc (.cells #[.int .i64 (-1)] 3)) none:=A2 W _ none;exact hK.out (c2,c7,c9,1) _ _ (K7 hgb hg) ⟨_,_,_,_,_,rfl,K7 hgb hg,f14.keep hg, .inr (.inl ⟨rfl,rfl,_,rfl,S6 W _ _ 0 _ rfl⟩),f19.keep hg,f21.keep hg⟩ (by simp<;>omega) rfl
  ·rcases f17 with⟨h0,_⟩|⟨_,rfl,g3,rfl,hc3⟩|⟨h0,_⟩<;>try omega
   obtain rfl:c=1:=Fin.ext hc
   have hrep:=c0T W ⟨g3,0,none⟩ m.code.length 1 [.int .i64 (-1)] rfl (fun j v hj=>by
    cases j with
    |zero=>cases hj;exact hc3
    |succ j=>cases hj) (by simp[Value.oneCell']) (by have:=HK7.out;omega)
   refine⟨_,rfl,fun K' hK=>(if_pos (by rfl)).mpr ?_⟩;go_simp
   go_wp2_with (go_at_call 196;refine hrep.mono ?_;rintro e w' ⟨g,rfl,ho,hg⟩;dsimp only)
   exact hK.out (c2,c7,c9,2) _ _ (K7 hgb hg) ⟨_,_,_,_,_,rfl,K7 hgb hg,f14.keep hg, .inr (.inr ⟨rfl,g,rfl,P3 ho HBS⟩),f19.keep hg,f21.keep hg⟩ (by simp<;>omega) rfl
  ·refine⟨_,rfl,fun K' hK=>(if_pos (by rfl)).mpr ?_⟩;refine a6B _ (.tmp 18) (.tmp 18) 250 rfl W1.heap.size 264 inS _ _ underlying250 iS0 iS1 rfl .i64 .i64 m.code.length rfl rfl (by rw[iS3];have:=HK7.out;omega) (by have:=HK7.out;unfold maxLen;omega) HBS fun w' ho hg=> ?_
   rw[iS2]at ho;exact hK.out (c2,true,c9,c) _ _ (K7 hgb hg) ⟨_,_,_,_,_,rfl,K7 hgb hg,f14.keep hg,f17.keep hg, .inr ⟨rfl,_,rfl,ho⟩,f21.keep hg⟩ (by simp<;>omega) rfl
  ·refine⟨_,rfl,fun K' hK=>(if_pos (by rfl)).mpr ?_⟩;refine a6B _ (.tmp 20) (.tmp 20) 264 rfl W1.heap.size 4 inO _ _ underlying264 iO0 iO1 rfl .i64 .i64 m.code.length rfl rfl (by rw[iO3];have:=HK7.out;omega) (by have:=HK7.out;unfold maxLen;omega) HBS fun w' ho hg=> ?_
   rw[iO2]at ho;exact hK.out (c2,c7,true,c) _ _ (K7 hgb hg) ⟨_,_,_,_,_,rfl,K7 hgb hg,f14.keep hg,f17.keep hg,f19.keep hg, .inr ⟨rfl,_,rfl,ho⟩⟩ (by simp<;>omega) rfl
 case hd=>
  rintro⟨c2,c7,c9,c⟩ a W ⟨v14,v15,v17,v19,v21,rfl,hgb,f14,f17,f19,f21⟩ hdn;have HGB:=A0 hgb;have HBS:W1.heap.size≤W.heap.size:=hgb.size;have HK7:=A0 hn;simp only[Bool.and_eq_true,decide_eq_true_eq]at hdn;obtain⟨⟨⟨rfl,rfl⟩,rfl⟩,hc⟩:=hdn;obtain rfl:c=2:=Fin.ext hc;dsimp only at f14 f17 f19 f21;rcases f14 with⟨h0,_⟩|⟨_,g14,rfl,ho14⟩
  ·cases h0
  rcases f17 with⟨h0,_⟩|⟨h0,_⟩|⟨_,g17,rfl,ho17⟩
  ·cases h0
  ·cases h0
  rcases f19 with⟨h0,_⟩|⟨_,g19,rfl,ho19⟩
  ·cases h0
  rcases f21 with⟨h0,_⟩|⟨_,g21,rfl,ho21⟩
  ·cases h0
  have HO14:Hid (A3 W g14 _ 315∧W1.heap.size≤g14):=a3Y ho14;have HO17:Hid (A3 W g17 _ 3∧W1.heap.size≤g17):=a3Y ho17;have HO19:Hid (A3 W g19 _ 264∧W1.heap.size≤g19):=a3Y ho19;have HO21:Hid (A3 W g21 _ 4∧W1.heap.size≤g21):=a3Y ho21;clear ho14 ho17 ho19 ho21 hgb hc hHeld;unfold w2L w2F;dsimp only;show wpAnyH _ _ _ _ _ 3 _ _ _;have hgb:=HGB.out;refine A4 10 ?_;refine T6 11 fun K hK=> ?_;go_simp
  refine hK.out _ _ ?_ (fun hHeld=> ?_)
  case refine_1=>exact K7 hgb (A2 _ _ _)
  try clear hK K
  try simp only[Act.put,lz]
  refine A4 12 ?_;refine wpAnyH_done (by kernel_rfl) ?_ _;have HM0:=A0 (A3.grow HBK.out hgb);obtain⟨WB,hWB⟩:∃WB,WB=W.alloc (.cells (WkV m pa pk ca ck ha hk g14 g17 g19 g21 m.code.length none 0 0).toArray 308):=⟨_,rfl⟩
  obtain⟨bw,hbw⟩:∃bw,bw=W.heap.size:=⟨_,rfl⟩
  have hg2:W.grownBy WB none:=by rw[hWB];exact A2 _ _ _
  have HW:Hid (i8 w WB W1.heap.size w.heap.size bw g14 g17 g19 g21 (fun _=>0) L m pa pk ca ck ha hk 0 0):=by
   refine⟨K7 (K7 hgw (B6 _ _)) (K7 hgb hg2),A3.grow HM0.out hg2,by rw[hWB,hbw];exact heap_alloc_new W _,?_,?_,⟨_,A3.grow HO14.out.1 hg2,?_,fun a h=>absurd h (Nat.not_lt_zero _)⟩,⟨_,A3.grow HO19.out.1 hg2,?_,fun a h=>absurd h (Nat.not_lt_zero _)⟩,fun a h=>absurd h (Nat.not_lt_zero _),fun a h=>absurd h (Nat.not_lt_zero _),fun a c h=>absurd h (Nat.not_lt_zero _),⟨hsz,Nat.le_of_lt hsz⟩,⟨by rw[hbw];exact HBS,HO14.out.2,HO17.out.2,HO19.out.2,HO21.out.2⟩⟩
   ·have:=A3.grow HO17.out.1 hg2;have e:C8 m.code.length [Value.int .i64 (-1)]=List.replicate m.code.length (Value.int .i64 (-1)):=b6A _ _;rw[e]at this;exact this
   ·have:=A3.grow HO21.out.1 hg2;have e:(madeCells (Value.bool false).cells (m.code.length*1)).toList=List.replicate m.code.length (Value.bool false):=b1q _;rw[e]at this;exact this
   ·simp[madeCells,Value.cells]
   ·simp[madeCells,Value.cells]
  rw[←hbw];have hWB2:W.alloc (.cells #[.string m.name, .slice pa m.params.length pk, .int .i64 m.ret.kind, .string m.ret.name, .int .i64 m.stack, .int .i64 m.locals, .slice ca m.code.length ck, .slice ha m.handlers.length hk, .slice (some ⟨g14,0,none⟩) m.code.length m.code.length, .slice (some ⟨g17,0,none⟩) m.code.length m.code.length, .slice (some ⟨g19,0,none⟩) m.code.length m.code.length, .slice (some ⟨g21,0,none⟩) m.code.length m.code.length, .slice none 0 0] 308)=WB:=hWB.symm;rw[hWB2];clear hWB hWB2 hbw hg2 HM0 HO14 HO17 HO19 HO21 HGB hgb HBS;have c6:=HW.out.meth.c6;go_wp2_with fail
  go_loopw [27] (fun c W=>∃(j:Nat) (g:Nat→Nat),c= .int .i64 j∧j≤m.code.length∧i8 w W W1.heap.size w.heap.size bw g14 g17 g19 g21 g L m pa pk ca ck ha hk j j) (fun c _=>m.code.length-(intOf c).toNat)
  case atStart=>exact⟨0,_,rfl,Nat.zero_le _,HW.out⟩
  case round=>
   obtain⟨j,g,rfl,hj,hI⟩:=hrel;have HI:=A0 hI;clear hI c6;by_cases hlt:j<m.code.length
   ·have HB2:=A0 (Nat.le_trans HI.out.low.1 (Nat.le_of_lt HI.out.walk.lt));obtain⟨pd,hpd,hpl,hcd⟩:=(B8.keep hRc.out HI.out.gb) j hlt;obtain⟨i,hi⟩:∃i,i=m.code[j]:=⟨_,rfl⟩
    rw[←hi]at hcd;have him:i∈m.code:=by rw[hi];exact List.getElem_mem hlt
    have hic:i=A6 m j:=by rw[hi];unfold A6;simp[hlt]
    subst hpd;have y0:wr.cell? (pd.add (j*4))=some (.int .i64 i.op):=hcd 0 _ rfl;have y1:wr.cell? ⟨(pd.add (j*4)).block,(pd.add (j*4)).off+1,none⟩=some (.int .i64 i.a):=by rw[C0 pd (j*4) 0];exact hcd 1 _ rfl
    have y2:wr.cell? ⟨(pd.add (j*4)).block,(pd.add (j*4)).off+2,none⟩=some (.string i.cls):=by rw[C0 pd (j*4) 1];exact hcd 2 _ rfl
    have y3:wr.cell? ⟨(pd.add (j*4)).block,(pd.add (j*4)).off+3,none⟩=some (.string i.mem):=by rw[C0 pd (j*4) 2];exact hcd 3 _ rfl
    have HIC:Hid (i=A6 m j∧a4n L i):=⟨hic,hio.out i him⟩
    have HPL:=A0 (Nat.lt_of_lt_of_le hpl hl);clear hcd hi him hic hpl;have hjI:(j:Int)<(m.code.length:Int):=by omega
    go_upto_region 6 with fail
    have hbi:A3 (wr.alloc (.cells #[.int .i64 i.op, .int .i64 i.a, .string i.cls, .string i.mem] 120)) wr.heap.size #[.int .i64 i.op, .int .i64 i.a, .string i.cls, .string i.mem] 120:=heap_alloc_new wr _;have hga:wr.grownBy (wr.alloc (.cells #[.int .i64 i.op, .int .i64 i.a, .string i.cls, .string i.mem] 120)) none:=A2 wr _ none;have HI2:=A0 (HI.out.keep (A1 hga (B6 _ _)));obtain⟨bi,hbi0⟩:∃bi,bi=wr.heap.size:=⟨_,rfl⟩
    have HBI0:=A0 hbi0;rw[←hbi0]at hbi;generalize wr.alloc (.cells #[.int .i64 i.op, .int .i64 i.a, .string i.cls, .string i.mem] 120)=W2 at hbi hga HI2⊢;have HGW:=A0 (K7 HI.out.gb hga);rw[←hbi0];clear hbi0 y0 y1 y2 y3;have HBI:Hid (A3 W2.drew bi #[.int .i64 i.op, .int .i64 i.a, .string i.cls, .string i.mem] 120):=hbi;clear hbi
    have HE:Hid (∀W,W2.grownBy W none→Calls prog 197 #[.pointer (some ⟨b,0,none⟩), .agg (mV m pa pk (some pd) ck ha hk), .agg #[.int .i64 i.op, .int .i64 i.a, .string i.cls, .string i.mem]] W fun e w'=>W.grownBy w' none∧∃v,e= .returned v∧a6s w' W.heap.size L m i v):=fun W hW=>by
     exact a7Y W lim b L p cap m1 m2 m3 q (h.out.keep (K7 HGW.out hW) hl) (Nat.le_trans hl (K7 HGW.out hW).size) m pa (some pd) ha pk ck hk i HIC.out.2
    refine wp_region_held_drew (S:=(fun w'=>A3 w' bw (WkV m pa pk (some pd) ck ha hk g14 g17 g19 g21 m.code.length none 0 0).toArray 308∧A3 w' w.heap.size (mV m pa pk (some pd) ck ha hk) 102∧A3 w' bi #[.int .i64 i.op, .int .i64 i.a, .string i.cls, .string i.mem] 120)) (by kernel_rfl) ⟨HI2.out.walk,HI2.out.meth,HBI.out⟩ (fun hHeld=> ?_);refine A4 0 ?_;refine A4 1 ?_;refine A4 2 ?_;refine tkT 3 (v:= .slice (some ⟨g14,0,none⟩) m.code.length m.code.length) (hv:= .inl ⟨by rfl,?h4⟩) (k:= ?r4)
    case h4=>
     intro w5 hSw;have q0:=hSw.1.cell 8 (.slice (some ⟨g14,0,none⟩) m.code.length m.code.length) rfl;exact a6v
    try simp only[Act.put,lz]
    refine A4 4 ?_;refine A4 5 ?_;refine tkT 6 (v:= .agg (mV m pa pk (some pd) ck ha hk)) (hv:= .inl ⟨by rfl,?h7⟩) (k:= ?r7)
    case h7=>
     intro w5 hSw;obtain⟨q0,q1,q2,q3,q4,q5,q6,q7⟩:=hSw.2.1.q8;exact a6v
    try simp only[Act.put,lz]
    refine tkT 7 (v:= .agg #[.int .i64 i.op, .int .i64 i.a, .string i.cls, .string i.mem]) (hv:= .inl ⟨by rfl,?h8⟩) (k:= ?r8)
    case h8=>
     intro w5 hSw;obtain⟨q0,q1,q2,q3⟩:=hSw.2.2.q4;exact a6v
    try simp only[Act.put,lz]
    refine T6 8 fun K hK=> ?_;go_simp
    go_wp2_with (go_at_call 197;refine(HE.out W2.drew (B6 _ _)).mono ?_;rintro e w3 ⟨hg3,v,rfl,hv⟩;dsimp only)
    refine hK.out _ _ ⟨A3.grow hHeld.1 hg3,A3.grow hHeld.2.1 hg3,A3.grow hHeld.2.2 hg3⟩ (fun hHeld3=> ?_);try clear hK K
    obtain⟨ta,tk,ua,uk,rfl,ho1,ho2⟩:=hv;have HI3:=A0 (HI2.out.keep hg3);have HEV:Hid (w3.ownsRow W1.heap.size 98 2 (.slice ta (F6 L m i).length tk) (F6 L m i).length ((F6 L m i).flatMap C9)∧w3.ownsRow W1.heap.size 98 2 (.slice ua (C6 L i).length uk) (C6 L i).length ((C6 L i).flatMap C9)):=⟨P3 ho1 (Nat.le_trans HB2.out hga.size),P3 ho2 (Nat.le_trans HB2.out hga.size)⟩
    clear ho1 ho2;obtain⟨cs,hcs,hcsl,hca⟩:=HI3.out.eff;have hj3:j*3+3≤cs.length:=by rw[hcsl];omega
    obtain⟨u0,x0⟩:∃u,w3.cell? ⟨g14,j*3,none⟩=some u:=⟨_,V9 hcs (j*3) (cs[j*3]'(by omega)) (List.getElem?_eq_getElem (by omega))⟩
    obtain⟨u1,x1⟩:∃u,w3.cell? ⟨g14,j*3+1,none⟩=some u:=⟨_,V9 hcs (j*3+1) (cs[j*3+1]'(by omega)) (List.getElem?_eq_getElem (by omega))⟩
    obtain⟨u2,x2⟩:∃u,w3.cell? ⟨g14,j*3+2,none⟩=some u:=⟨_,V9 hcs (j*3+2) (cs[j*3+2]'(by omega)) (List.getElem?_eq_getElem (by omega))⟩
    have z0:=hcs.frozen (j*3);have z1:=hcs.frozen (j*3+1);have z2:=hcs.frozen (j*3+2);have HCS:Hid (A3 w3 g14 cs.toArray 315∧cs.length=m.code.length*3∧∀a,a<j→a1I w3 W1.heap.size L m cs.toArray a):=⟨hcs,hcsl,hca⟩
    clear hcs hcsl hca hj3;try simp only[Act.put,lz]
    refine A4 9 ?_;refine T6 10 fun K hK=> ?_;go_simp
    have HI4:=A0 (HI3.out.effset2 hlt HIC.out.1 HEV.out.1 HEV.out.2);have hg4:w3.grownBy (((w3.setCell ⟨g14,j*3,none⟩ (.slice ta (F6 L m i).length tk)).setCell ⟨g14,j*3+1,none⟩ (.slice ua (C6 L i).length uk)).setCell ⟨g14,j*3+2,none⟩ (.bool (U2 i))) (some g14):=A1 (A1 (A9 _ ⟨g14,j*3,none⟩ _) (A9 _ ⟨g14,j*3+1,none⟩ _)) (A9 _ ⟨g14,j*3+2,none⟩ _);refine hK.out _ _ ⟨HI4.out.walk,HI4.out.meth,A3.keep hHeld3.2.2 hg4 (fun e=>K6 hHeld3.2.2 HCS.out.1 (by decide) (Option.some.inj e))⟩ (fun hHeld4=> ?_);clear hK K hHeld hHeld3 hHeld4 x0 x1 x2 z0 z1 z2 HCS HEV HI3 hg3 hg4;refine wpAnyH_done (by kernel_rfl) ?_ _;generalize (((w3.setCell ⟨g14,j*3,none⟩ (.slice ta (F6 L m i).length tk)).setCell ⟨g14,j*3+1,none⟩ (.slice ua (C6 L i).length uk)).setCell ⟨g14,j*3+2,none⟩ (.bool (U2 i)))=W4 at HI4⊢;go_upto_region 7 with fail
    obtain⟨st1,hst1⟩:∃st1,st1=m.stack+1:=⟨_,rfl⟩
    have e7:IntKind.i64.wrap ((m.stack:Int)+1)=(st1:Int):=by rw[IntKind.wrap_i64,hst1];omega
    have HST:Hid (st1=m.stack+1∧st1≤256):=⟨hst1,by omega⟩
    clear hst1;have HI5:=A0 (HI4.out.keep (B6 _ _));clear HI4;refine wp_region_held_drew (S:=(fun w'=>A3 w' bw (WkV m pa pk (some pd) ck ha hk g14 g17 g19 g21 m.code.length none 0 0).toArray 308∧A3 w' w.heap.size (mV m pa pk (some pd) ck ha hk) 102)) (by kernel_rfl) ⟨HI5.out.walk,HI5.out.meth⟩ (fun hHeld=> ?_);refine A4 0 ?_;refine A4 1 ?_;refine A4 2 ?_;refine tkT 3 (v:= .slice (some ⟨g19,0,none⟩) m.code.length m.code.length) (hv:= .inl ⟨by rfl,?h13⟩) (k:= ?r13)
    case h13=>
     intro w5 hSw;have q0:=hSw.1.cell 10 (.slice (some ⟨g19,0,none⟩) m.code.length m.code.length) rfl;exact a6v
    try simp only[Act.put,lz]
    refine A4 4 ?_;refine A4 5 ?_;refine tkT 6 (v:= .int .i64 m.stack) (hv:= .inl ⟨by rfl,?h16⟩) (k:= ?r16)
    case h16=>
     intro w5 hSw;have q0:=hSw.2.cell 4 (.int .i64 m.stack) rfl;exact a6v
    try simp only[Act.put,lz]
    refine A4 7 ?_;refine T6 8 fun K hK=> ?_;refine(if_pos (by rfl)).mpr ?_;refine a6B _ (.tmp 49) (.tmp 49) 264 rfl W4.drew.heap.size 4 inO _ 1 underlying264 iO0 iO1 iO2 .i64 .i64 st1 rfl rfl (by rw[iO3];have:=HST.out.2;omega) (by have:=HST.out.2;unfold maxLen;omega) (Nat.le_refl _) ?_;intro w5 ho5 hg5;have hb5:=(a3Y ho5).1;have HN5:Hid (A3 w5 W4.drew.heap.size (List.replicate st1 (Value.bool false)).toArray 4):=by rw[b1q]at hb5;exact hb5
    clear ho5 hb5;refine hK.out _ _ ⟨A3.grow hHeld.1 hg5,A3.grow hHeld.2 hg5⟩ (fun hHeld5=> ?_);clear hK K;have HI6:=A0 (HI5.out.keep hg5);obtain⟨gn,hgn⟩:∃gn,gn=W4.drew.heap.size:=⟨_,rfl⟩
    have HGN:Hid (W1.heap.size≤gn∧gn≠g21∧∀a,a<j→g a≠gn):=by
     refine⟨?_,?_,fun a ha=> ?_⟩
     ·rw[hgn];exact Nat.le_trans HI5.out.low.1 (Nat.le_of_lt HI5.out.walk.lt)
     ·rw[hgn];exact Nat.ne_of_gt HI5.out.wrong.lt
     ·rw[hgn];exact Nat.ne_of_lt (HI5.out.rows a ha).lt
    rw[←hgn]at HN5;rw[←hgn];clear hgn;obtain⟨ds,hds,hdl,-⟩:=HI6.out.seen;obtain⟨u0,x0⟩:∃u,w5.cell? ⟨g19,j,none⟩=some u:=⟨_,V9 hds j (ds[j]'(by omega)) (List.getElem?_eq_getElem (by omega))⟩
    have z0:=hds.frozen j;clear hds hdl HI5 hHeld hg5;try simp only[Act.put,lz]
    refine A4 9 ?_;refine T6 10 fun K hK=> ?_;go_simp
    have HI7:=A0 (HI6.out.seenset2 hlt HST.out.1 HN5.out HGN.out.1 HGN.out.2.1 HGN.out.2.2);refine hK.out _ _ ⟨HI7.out.walk,HI7.out.meth⟩ (fun hHeld7=> ?_);clear hK K hHeld5 hHeld7 x0 z0 HI6;refine wpAnyH_done (by kernel_rfl) ?_ _;go_wp2_with fail
    go_roundw
    case rel=>exact⟨j+1,_,by first|rfl|go_num,by omega,HI7.out⟩
    case measure=>exact a1g
   ·have hjn:m.code.length=j:=by omega
    subst hjn;have HM:=A0 HI.out.done;obtain⟨cs,ce1,ce2,ce3⟩:=HI.out.eff
    have HE:Hid (a6t wr g14 L m):=⟨cs.toArray,ce1,fun a ha'=>by
     obtain⟨ta,tk,ua,uk,h1,h2,h3,-⟩:=ce3 a ha';exact⟨ta,tk,ua,uk,h1,h2,h3⟩⟩
    have HCE:Hid (A3 wr g14 cs.toArray 315∧∀a,a<m.code.length→a1I wr W1.heap.size L m cs.toArray a):=⟨ce1,ce3⟩
    clear ce1 ce2 ce3;have HBW:=A0 (Nat.le_trans HI.out.low.1 (Nat.le_of_lt HI.out.walk.lt));have HRC:=A0 (B8.keep hRc.out HI.out.gb);have HRH:=A0 (B8.keep hRh.out HI.out.gb);have HRUN:=c0Q wr W1.heap.size bw g14 g17 g19 g21 g L m pa pk ca ck ha hk (Y8 m) rfl 0 HM HE lim (Nat.le_trans hl (Nat.le_of_lt hsz)) HBW.out HRC HRH HFI.out.1 HFI.out.2.1 HFI.out.2.2.1 HFI.out.2.2.2.1 HFI.out.2.2.2.2;go_wp2_with (go_at_call 198;refine HRUN.mono ?_;rintro e w9 ⟨rfl,s9,wa9,wk9,hM9,hS9,hR9,hW9,hF9⟩;dsimp only)
    go_ret;have hsz2:=Nat.le_of_lt hsz;exact⟨W1.heap.size,bw,g14,g17,g19,g21,g,s9,wa9,wk9,rfl,hsz2,Nat.le_trans HBW.out hF9.size,hM9,hS9,hR9,hW9,⟨cs.toArray,hF9.eff _ _ _ HCE.out.1,fun a ha'=>(HCE.out.2 a ha').fr hF9⟩,c3u HI.out.gb hF9 hsz2⟩
def a9S(l:List Bool)(r:Int):Prop:=(r= -1∧∀i,l.getD i false=false)∨∃k:Nat,r=(k:Int)∧k<l.length∧l.getD k false=true∧∀i,i<k→l.getD i false=false
theorem b4B(w:World)(g:Nat)(l:List Bool)(hb:A3 w g (l.map Value.bool).toArray 4)(hl:l.length≤65535):
 Calls prog 251 #[.slice (some ⟨g,0,none⟩) l.length l.length, .bool true] w fun e w'=>(∃r,e= .returned (.int .i64 r)∧a9S l r)∧w'=w:=by
 have HB:=A0 hb;obtain⟨n,hn⟩:∃n,n=l.length:=⟨_,rfl⟩
 have HN:=A0 hn;rw[←hn]at hl⊢;clear hb hn;go_enter func251,ntmps251;go_wp2_with fail
 go_loopw [8] (fun c W=>∃j:Nat,c= .int .i64 j∧j≤n∧W=w∧∀i,i<j→l.getD i false=false) (fun c _=>n-(intOf c).toNat)
 case atStart=>exact⟨0,rfl,Nat.zero_le _,rfl,fun i hi=>absurd hi (Nat.not_lt_zero _)⟩
 case round=>
  obtain⟨j,rfl,hj,rfl,hall⟩:=hrel;have HALL:=A0 hall;clear hall;by_cases hlt:j<n
  ·have hjI:(j:Int)<(n:Int):=by omega
   have hjl:j<l.length:=by rw[←HN.out];exact hlt
   obtain⟨x,hx⟩:∃x,x=l.getD j false:=⟨_,rfl⟩
   have HX:=A0 hx;have c0:wr.cell? ⟨g,j,none⟩=some (.bool x):=V9 HB.out j _ (by rw[hx];simp[hjl]);clear hx;cases x with
   |true=>
    go_wp2_with fail
    refine bodyPost_ret (v:= .int .i64 j) (by simp[results,results251,go_sem]) rfl ⟨⟨_,rfl, .inr ⟨j,rfl,hjl,HX.out.symm,HALL.out⟩⟩,by first|rfl|trivial⟩
   |false=>
    go_wp2_with fail
    go_roundw
    case rel=>exact⟨j+1,by first|rfl|go_num,by omega,by first|rfl|trivial,fun i hi=>by
     by_cases e:i=j
     ·rw[e];exact HX.out.symm
     ·exact HALL.out i (by omega)⟩
    case measure=>exact a1g
  ·have hjn:n=j:=by omega
   subst hjn;go_wp2_with fail
   go_ret
   exact⟨⟨_,rfl, .inl ⟨rfl,fun i=>by
    by_cases hi:i<n
    ·exact HALL.out i hi
    ·rw[List.getD_eq_getElem?_getD,List.getElem?_eq_none (by have:=HN.out;omega)];rfl⟩⟩,by first|rfl|trivial⟩
theorem b4r(w:World)(base b eg hg sg wg:Nat)(g:Nat→Nat)(m:Me)(pa:Option Addr)(pk:Nat)(ca:Option Addr)(ck:Nat)(ha:Option Addr)(hk:Nat)(s:Wk)(wa:Option Addr)(wk:Nat)
 (h:Hid (L4 w base b eg hg sg wg g m pa pk ca ck ha hk m.code.length m.stack s wa wk)) (hl2:s.wrong.length=m.code.length) (hn:m.code.length≤65535):
 Calls prog 165 #[.pointer (some ⟨b,0,none⟩)] w fun e w'=>(∃r,e= .returned (.tuple #[.int .i64 r, .bool (decide (0≤r))])∧a9S s.wrong r)∧w'=w:=by
 have c11:w.cell? ⟨b,11,none⟩=some (.slice (some ⟨wg,0,none⟩) m.code.length m.code.length):=h.out.blk.cell 11 _ rfl;have hI:=b4B w wg s.wrong h.out.wrong (by omega);rw[hl2]at hI;clear hl2;go_enter func165,ntmps165;go_wp2_with (go_at_call 251;refine hI.mono ?_;rintro e w' ⟨⟨r,rfl,hr⟩,rfl⟩;dsimp only)
 go_ret2
 exact⟨⟨r,rfl,hr⟩,rfl⟩
theorem b0Y(h:m.code.length=0∨m.locals<1+m.params.length):l7 L m=some 0:=by unfold l7;rw[if_pos h]
theorem b7j(h:¬(m.code.length=0∨m.locals<1+m.params.length))(hj:j<m.code.length)(hb:a1m L m j=true)(hall:∀i,i<j→a1m L m i=false):l7 L m=some j:=by
 unfold l7;rw[if_neg h,b0h hj hb hall]
theorem b4Y{p:Nat→Bool}(hall:∀i,i<n→p i=false):a0j p n=none:=by
 unfold a0j;rw[List.find?_eq_none];intro x hx;simp[hall x (List.mem_range.1 hx)]
theorem b7i(h:¬(m.code.length=0∨m.locals<1+m.params.length))(hall:∀i,i<m.code.length→a1m L m i=false)(hh:∀i (hi:i<m.handlers.length),a6l L m m.handlers[i]=false):l7 L m=none:=by
 unfold l7;rw[if_neg h,b4Y hall];dsimp only
 have:m.handlers.find? (a6l L m)=none:=by
  rw[List.find?_eq_none];intro x hx;obtain⟨i,hi,rfl⟩:=List.getElem_of_mem hx;simp[hh i hi]
 rw[this];rfl
theorem b4F(w:World)(lim b:Nat)(L:List Cl)(m:Me)(pa ca ha:Option Addr)(pk ck hk:Nat)(hn:m.code.length≤65535)(p:Addr)(cap m1 m2 m3:Nat)(q:Nat→Qs)(h:Hid (Lk w lim b L p cap m1 m2 m3 q))(hl:lim≤w.heap.size)(hRc:Hid (B8 w lim 4 T3 ca m.code))(hRh:Hid (B8 w lim 4 T4 ha m.handlers))(hin:Hid (∀i∈m.code,Op2 i))(hhd:Hid (∀d∈m.handlers,d.cls.size≤maxLen))(hpl:m.params.length≤65535)(hhl:m.handlers.length≤0):
 Calls prog 164 #[.pointer (some ⟨b,0,none⟩), .agg #[.string m.name, .slice pa m.params.length pk, .int .i64 m.ret.kind, .string m.ret.name, .int .i64 m.stack, .int .i64 m.locals, .slice ca m.code.length ck, .slice ha m.handlers.length hk]] w fun e w'=>e= .returned (.tuple #[.int .i64 ((l7 L m).getD 0:Nat), .bool (l7 L m).isSome])∧w.grownBy w' none:=by
 obtain⟨F,hF⟩:∃F,F=l7 L m:=⟨_,rfl⟩
 have HF:=A0 hF;have HNH:=A0 hhl;rw[←hF];clear hF;have HGA:Hid (w.grownBy (w.alloc (.cells #[.string m.name, .slice pa m.params.length pk, .int .i64 m.ret.kind, .string m.ret.name, .int .i64 m.stack, .int .i64 m.locals, .slice ca m.code.length ck, .slice ha m.handlers.length hk] 102)) none):=A2 _ _ _;by_cases h0:m.code.length=0
 ·have HZ:=A0 (HF.out.trans (b0Y (.inl h0)));rw[HZ.out];rw[h0]at HGA⊢;clear hn h0;go_enter func164,ntmps164;go_wp2_with fail
  go_ret2
  exact⟨rfl,HGA.out⟩
 have hz:((m.code.length:Int)==0)=false:=by rw[beq_eq_false_iff_ne];omega
 by_cases h1:m.locals<1+m.params.length
 ·have HZ:=A0 (HF.out.trans (b0Y (.inr h1)));have h1I:(m.locals:Int)<1+(m.params.length:Int):=by omega
  rw[HZ.out];go_enter func164,ntmps164;go_wp2_with fail
  go_ret2
  exact⟨rfl,HGA.out⟩
 have h1I:¬(m.locals:Int)<1+(m.params.length:Int):=by omega
 have HNZ:Hid (¬(m.code.length=0∨m.locals<1+m.params.length)):=by rintro(e|e);exact h0 e;exact h1 e
 clear h0 h1;go_enter func164,ntmps164;go_wp2_with fail
 obtain⟨W1,hW1⟩:∃W1,W1=w.alloc (.cells #[.string m.name, .slice pa m.params.length pk, .int .i64 m.ret.kind, .string m.ret.name, .int .i64 m.stack, .int .i64 m.locals, .slice ca m.code.length ck, .slice ha m.handlers.length hk] 102):=⟨_,rfl⟩
 have HG1:Hid (w.grownBy W1 none):=by rw[hW1];exact HGA.out
 have HB1:Hid (A3 W1 w.heap.size #[.string m.name, .slice pa m.params.length pk, .int .i64 m.ret.kind, .string m.ret.name, .int .i64 m.stack, .int .i64 m.locals, .slice ca m.code.length ck, .slice ha m.handlers.length hk] 102):=by rw[hW1];exact A3.new w _ _
 rw[←hW1];clear hW1 HGA h1I hz;go_loopw [28] (fun c W=>∃j:Nat,c= .int .i64 j∧j≤m.code.length∧W1.grownBy W none∧∀i,i<j→a1m L m i=false) (fun c _=>m.code.length-(intOf c).toNat)
 case atStart=>exact⟨0,rfl,Nat.zero_le _,I8 _ _,fun i hi=>absurd hi (Nat.not_lt_zero _)⟩
 case round=>
  obtain⟨j,rfl,hj,hgr,hall⟩:=hrel;have HGW:=A0 (A1 HG1.out hgr);have HG1W:=A0 hgr;have HBW:=A0 (HB1.out.keep hgr A5);have HALL:=A0 hall;clear hgr hall;by_cases hlt:j<m.code.length
  ·obtain⟨pd,hpd,hpl,hcd⟩:=(B8.keep hRc.out HGW.out) j hlt;obtain⟨i,hi⟩:∃i,i=m.code[j]:=⟨_,rfl⟩
   rw[←hi]at hcd;have him:=hin.out i (by rw[hi];exact List.getElem_mem hlt);have HIC:Hid (i=A6 m j):=by unfold Hid;rw[hi];unfold A6;simp[hlt]
   subst hpd;have y0:wr.cell? (pd.add (j*4))=some (.int .i64 i.op):=hcd 0 _ rfl;have y1:wr.cell? ⟨(pd.add (j*4)).block,(pd.add (j*4)).off+1,none⟩=some (.int .i64 i.a):=by rw[C0 pd (j*4) 0];exact hcd 1 _ rfl
   have y2:wr.cell? ⟨(pd.add (j*4)).block,(pd.add (j*4)).off+2,none⟩=some (.string i.cls):=by rw[C0 pd (j*4) 1];exact hcd 2 _ rfl
   have y3:wr.cell? ⟨(pd.add (j*4)).block,(pd.add (j*4)).off+3,none⟩=some (.string i.mem):=by rw[C0 pd (j*4) 2];exact hcd 3 _ rfl
   have HIT:=A0 (fun W hW=>b0y W lim b L p cap m1 m2 m3 q (h.out.keep hW hl) (Nat.le_trans hl hW.size) m pa (some pd) ha pk ck hk i him);have HIE:=A0 (fun W=>b8l W i.op);have HCB:Hid (a1m L m j=(!R4 L m i||(decide (j+1=m.code.length)&& !a1X i.op))):=by unfold Hid a1m;rw[←HIC.out]
   have hjI:(j:Int)<(m.code.length:Int):=by omega
   have hwl:=HBW.out.lt;obtain⟨k0,k1,k2,k3,k4,k5,k6,k7⟩:=(HBW.out).q8;clear hcd hi him hpl;obtain⟨nd,hnd⟩:∃nd,nd=R4 L m i:=⟨_,rfl⟩
   obtain⟨ie,hie⟩:∃ie,ie=a1X i.op:=⟨_,rfl⟩
   rw[←hnd]at HIT HCB;rw[←hie]at HIE HCB;clear hnd hie;have HRET:=A0 (fun hb=>HF.out.trans (b7j HNZ.out hlt hb HALL.out));cases nd with
   |false=>
    have HFJ:=A0 (HRET.out (by rw[HCB.out];rfl));exact a2q
   |true=>
    by_cases hjn:j+1=m.code.length
    ·have hjnI:((j:Int)==(m.code.length:Int)-1)=true:=by rw[beq_iff_eq];omega
     have HJN:=A0 hjn;clear hjn;cases ie with
     |false=>
      have HFJ:=A0 (HRET.out (by rw[HCB.out];simp[HJN.out]));exact a2q
     |true=>
      have HCF:Hid (a1m L m j=false):=by unfold Hid;rw[HCB.out];simp
      go_wp2_with (first|(go_at_call 229;go_loud (refine(HIT.out _ (A1 HGW.out (A2 _ _ none))).mono ?_;rintro e w1 ⟨rfl,hg1⟩;obtain⟨hc1,hf1⟩:=a5i hg1;have hz1:wr.heap.size<w1.heap.size:=by(have:=hg1.size;simp only[World.size_alloc]at this;omega)))|(go_at_call 250;go_loud (refine(HIE.out _).mono ?_;rintro e w9 ⟨rfl,rfl⟩)))
      go_roundw
      case rel=>exact c5v
      case measure=>exact a1g
    ·have hjnI:((j:Int)==(m.code.length:Int)-1)=false:=by rw[beq_eq_false_iff_ne];omega
     have HCF:Hid (a1m L m j=false):=by unfold Hid;rw[HCB.out];simp[hjn]
     clear hjn;go_wp2_with (first|(go_at_call 229;go_loud (refine(HIT.out _ (A1 HGW.out (A2 _ _ none))).mono ?_;rintro e w1 ⟨rfl,hg1⟩;obtain⟨hc1,hf1⟩:=a5i hg1;have hz1:wr.heap.size<w1.heap.size:=by(have:=hg1.size;simp only[World.size_alloc]at this;omega)))|(go_at_call 250;go_loud (refine(HIE.out _).mono ?_;rintro e w9 ⟨rfl,rfl⟩)))
     go_roundw
     case rel=>exact c5v
     case measure=>exact a1g
  ·have hjn:j=m.code.length:=by omega
   have HALL2:Hid (∀i,i<m.code.length→a1m L m i=false):=by rw[←hjn];exact HALL.out
   have k7:=(HBW.out).c7;clear HALL;subst hjn;go_wp2_with fail
   clear k7;have HGW1:=A0 HGW.out;generalize wr=wq at HGW1 HGW HBW HG1W⊢;go_loopw [55] (fun c W=>∃j:Nat,c= .int .i64 j∧j≤m.handlers.length∧wq.grownBy W none∧∀r (hr:r<m.handlers.length),r<j→a6l L m m.handlers[r]=false) (fun c _=>m.handlers.length-(intOf c).toNat)
   case atStart=>exact⟨0,rfl,Nat.zero_le _,I8 _ _,fun i hi h=>absurd h (Nat.not_lt_zero _)⟩
   case round=>
    obtain⟨j0,rfl,hj0,hgr2,hall2⟩:=hrel;have HGW2:=A0 (A1 HGW1.out hgr2);have HGQ:=A0 hgr2;have HALL:=A0 hall2;clear hgr2 hall2;by_cases hlt:j0<m.handlers.length
    ·exact absurd hlt (by have:=HNH.out;omega)
    ·have hjn:j0=m.handlers.length:=by omega
     have HFN:=A0 (HF.out.trans (b7i HNZ.out HALL2.out (fun r hr=>HALL.out r hr (by omega))));clear HALL;subst hjn;go_wp2_with fail
     exact bodyPost_ret (v:= .tuple #[.int .i64 0, .bool false]) (by simp[results,results164,go_sem]) rfl ⟨by rw[HFN.out];rfl,HGW2.out⟩
def a1G(o:Option Ty):List Value:=match o with|none=> [.int .i64 (-1), .string ⟨#[]⟩]|some t=>C9 t
def slK(o:Option Ty):Int:=match o with|none=> -1|some t=>t.kind
def slN(o:Option Ty):ByteArray:=match o with|none=>⟨#[]⟩|some t=>t.name
theorem a5K(o:Option Ty):a1G o=[.int .i64 (slK o), .string (slN o)]:=by cases o<;>rfl
def a1a(g:Nat→Nat)(ts:S7)(a:Nat):Value:=if(ts.getD a []).length=0 then .slice none 0 0 else .slice (some ⟨g a,0,none⟩) (ts.getD a []).length (ts.getD a []).length
structure G5(w:World)(base t bw b tg:Nat)(g:Nat→Nat)(n:Nat)(s:Ps)(ra:Option Addr)(rk:Nat):Prop where
 blk:A3 w t #[.pointer (some ⟨bw,0,none⟩), .pointer (some ⟨b,0,none⟩), .slice (some ⟨tg,0,none⟩) n n, .slice ra s.ris.length rk] 311
 types:A3 w tg ((List.range n).map (a1a g s.ts)).toArray 96
 rows:∀a,a<n→(s.ts.getD a []).length≠0→A3 w (g a) ((s.ts.getD a []).flatMap a1G).toArray 98
 ris:w.ownsRow base 366 2 (.slice ra s.ris.length rk) s.ris.length (s.ris.flatMap O8)
 d2:∀a c,a<n→c<n→(s.ts.getD a []).length≠0→(s.ts.getD c []).length≠0→g a=g c→a=c
 low:base≤t∧base≤tg∧∀a,a<n→base≤g a∧g a<w.heap.size
abbrev TFx(t:Nat)(g:Nat→Nat)(n:Nat)(ra ra':Option Addr)(w w':World):Prop:=Fx t t t g n ra ra' w w'
theorem b9g(l:List (Option Ty))(j:Nat)(o:Option Ty)(hj:j<l.length):(((l.flatMap a1G).toArray.setIfInBounds (j*2) (.int .i64 (slK o))).setIfInBounds (j*2+1) (.string (slN o)))=((l.set j o).flatMap a1G).toArray:=by
 induction l generalizing j with
 |nil=>simp at hj
 |cons x l ih=>
  obtain⟨v,w,hx⟩:∃v w,a1G x=[v,w]:=⟨_,_,a5K x⟩
  cases j with
  |zero=>simp[List.flatMap_cons,hx,a5K o]
  |succ j=>
   have:=ih j (by simpa using hj);have e1:(j+1)*2=j*2+2:=by omega
   have e2:(j+1)*2+1=j*2+1+2:=by omega
   rw[e1];simp only[List.flatMap_cons,hx,List.setIfInBounds_toArray,List.set_cons_succ,List.cons_append,List.nil_append]at this⊢;have:=congrArg Array.toList this;simp only[List.setIfInBounds_toArray]at this;rw[←this]
theorem b2c(l:List (Option Ty))(j:Nat)(o:Option Ty)(h:l[j]? =some o):(l.flatMap a1G)[j*2]? =some (.int .i64 (slK o))∧(l.flatMap a1G)[j*2+1]? =some (.string (slN o)):=by
 induction l generalizing j with
 |nil=>simp at h
 |cons x l ih=>
  cases j with
  |zero=>
   simp at h;subst h;simp[List.flatMap_cons,a5K x]
  |succ j=>
   obtain⟨h1,h2⟩:=ih j (by simpa using h);have e1:(j+1)*2=j*2+2:=by omega
   rw[e1];refine⟨?_,?_⟩
   ·rw[List.flatMap_cons,a5K x];simpa using h1
   ·rw[List.flatMap_cons,a5K x];simpa using h2
structure Lc(k t:Nat)(g:Nat→Nat)(n:Nat)(ra:Option Addr):Prop where
 a:k≠t
 b:∀a,a<n→k≠g a
 c:∀p,ra=some p→k≠p.block
theorem Lc.fx{t:Nat}{ra ra':Option Addr}(h:Lc k t g n ra)(hf:TFx t g n ra ra' w w')(hk:k<w.heap.size):Lc k t g n ra':=
 ⟨h.a,h.b,fun p e=>by
  rcases hf.own p e with⟨q,e1,e2⟩|e2
  ·rw[←e2];exact h.c q e1
  ·omega⟩
section
variable{w:World}{base t bw b tg:Nat}{g:Nat→Nat}{n:Nat}{s:Ps}{ra:Option Addr}{rk:Nat}
theorem G5.keep{w':World}(h:G5 w base t bw b tg g n s ra rk)(hg:w.grownBy w' none):G5 w' base t bw b tg g n s ra rk:=
 ⟨A3.grow h.blk hg,A3.grow h.types hg,fun a ha hne=>A3.grow (h.rows a ha hne) hg,h.ris.kept hg (by cases hv:(Value.slice ra s.ris.length rk).ownBlock<;>simp),h.d2,⟨h.low.1,h.low.2.1,fun a ha=>⟨(h.low.2.2 a ha).1,Nat.lt_of_lt_of_le (h.low.2.2 a ha).2 hg.size⟩⟩⟩
theorem G5.rblock(h:G5 w base t bw b tg g n s ra rk){p:Addr}(hp:ra=some p):base≤p.block∧p.block<w.heap.size:=by
 rcases h.ris.2 with⟨hv,_⟩|⟨q,cap,cur,hv,hq,hg,-⟩
 ·injection hv with h1 _ _;rw[h1]at hp;cases hp
 ·injection hv with h1 _ _
  rw[h1]at hp;cases hp;exact⟨hq,a6V hg⟩
theorem G5.lc(h:G5 w base t bw b tg g n s ra rk){k:Nat}(hk:w.heap.size≤k):Lc k t g n ra:=
 ⟨by have:=h.blk.lt;omega,fun a ha=>by have:=(h.low.2.2 a ha).2;omega,fun p e=>by have:=(h.rblock e).2;omega⟩
theorem G5.lcLow(h:G5 w base t bw b tg g n s ra rk){k:Nat}(hk:k<base):Lc k t g n ra:=
 ⟨by have:=h.low.1;omega,fun a ha=>by have:=(h.low.2.2 a ha).1;omega,fun p e=>by have:=(h.rblock e).1;omega⟩
theorem G5.below(h:G5 w base t bw b tg g n s ra rk){w':World}{ra':Option Addr}(hf:TFx t g n ra ra' w w')(hb:base≤w.heap.size):Below base w w':=
 ⟨hf.os,hf.tape,hf.output,hf.size,fun k hk=>by
  have hl:=h.lcLow hk;exact hf.block k (Nat.lt_of_lt_of_le hk hb) hl.a hl.a hl.a hl.b hl.c⟩
theorem a7e(ts:S7)(a j:Nat)(t:Ty)(c:Nat):((U5 ts a j t).getD c []).length=(ts.getD c []).length:=by
 by_cases ha:a<ts.length
 ·rw[a4G _ _ _ _ _ ha];by_cases e:a=c
  ·subst e;rw[if_pos rfl];simp
  ·rw[if_neg e]
 ·unfold U5;rw[List.set_eq_of_length_le (Nat.le_of_not_lt ha)]
theorem b9h(g:Nat→Nat)(ts:S7)(a j:Nat)(t:Ty):a1a g (U5 ts a j t)=a1a g ts:=by
 funext c
 unfold a1a;rw[a7e]
theorem G5.set(h:G5 w base t bw b tg g n s ra rk){a j:Nat}{o:Option Ty}(hq:tq s.ts a j=some o)(ha:a<n)(hb:base≤w.heap.size)(u:Ty):
 G5 ((w.setCell ⟨g a,j*2,none⟩ (.int .i64 u.kind)).setCell ⟨g a,j*2+1,none⟩ (.string u.name)) base t bw b tg g n {s with ts:=U5 s.ts a j u} ra rk∧TFx t g n ra ra w ((w.setCell ⟨g a,j*2,none⟩ (.int .i64 u.kind)).setCell ⟨g a,j*2+1,none⟩ (.string u.name)):=by
 obtain⟨q1,q2⟩:=a2c hq;have hne:(s.ts.getD a []).length≠0:=by omega
 have hr:=h.rows a ha hne;have hs:w.grownBy ((w.setCell ⟨g a,j*2,none⟩ (.int .i64 u.kind)).setCell ⟨g a,j*2+1,none⟩ (.string u.name)) (some (g a)):=A1 (A9 _ ⟨g a,j*2,none⟩ _) (A9 _ ⟨g a,j*2+1,none⟩ _);have hB:=(hr.set (j*2) (.int .i64 u.kind)).set (j*2+1) (.string u.name);have e:=b9g (s.ts.getD a []) j (some u) q2;simp only[slK,slN]at e;rw[e]at hB;refine⟨⟨h.blk.keep hs (fun e=>K6 h.blk hr (by decide) (Option.some.inj e)),?_,fun c hc hcn=> ?_,h.ris.kept hs (.inr (I4 h.ris hr (by decide))),fun c d hc hd=> ?_,⟨h.low.1,h.low.2.1,fun c hc=>⟨(h.low.2.2 c hc).1,Nat.lt_of_lt_of_le (h.low.2.2 c hc).2 hs.size⟩⟩⟩,Fx.at hs (.inr (.inr (.inr ⟨a,ha,rfl⟩)))⟩
 ·dsimp only;rw[b9h];exact h.types.keep hs (fun e=>K6 h.types hr (by decide) (Option.some.inj e))
 ·dsimp only at hcn⊢;rw[a7e]at hcn;rw[a4G _ _ _ _ _ q1];by_cases e:a=c
  ·subst e;rw[if_pos rfl];exact hB
  ·rw[if_neg e];exact(h.rows c hc hcn).keep hs (fun e2=>e (h.d2 c a hc ha hcn hne (Option.some.inj e2)).symm)
 ·dsimp only;rw[a7e,a7e];exact h.d2 c d hc hd
theorem G5.push{w7:World}{a7:Option Addr}{k7:Nat}(h:G5 w base t bw b tg g n s ra rk){p:Nat×Nat}(hb:base≤w.heap.size)
 (hown:w7.ownsRow base 366 2 (.slice a7 (s.ris.length+1) k7) (s.ris.length+1) (s.ris.flatMap O8++O8 p)) (hgA:w.grownBy w7 (Value.slice ra s.ris.length rk).ownBlock) (hat:∀p,a7=some p→(∃q,ra=some q∧q.block=p.block)∨w.heap.size≤p.block):
 G5 (w7.setCell ⟨t,3,none⟩ (.slice a7 (s.ris.length+1) k7)) base t bw b tg g n {s with ris:=s.ris++ [p]} a7 k7∧TFx t g n ra a7 w (w7.setCell ⟨t,3,none⟩ (.slice a7 (s.ris.length+1) k7)):=by
 have hb7:A3 w7 t _ _:=h.blk.keep hgA (fun e=>I4 h.ris h.blk (by decide) e.symm);have k2:=h.types.keep hgA (fun e=>I4 h.ris h.types (by decide) e.symm);have k4:=fun c (hc:c<n) (hcn:(s.ts.getD c []).length≠0)=>(h.rows c hc hcn).keep hgA (fun e=>I4 h.ris (h.rows c hc hcn) (by decide) e.symm)
 have hs:=A9 w7 ⟨t,3,none⟩ (.slice a7 (s.ris.length+1) k7)
 have hF1:TFx t g n ra a7 w w7:=⟨hgA.os,hgA.tape,hgA.output,hgA.size,fun k hk _ _ _ _ n5=>hgA.block k hk (by
  intro e;cases ra with
  |none=>simp[Value.ownBlock]at e
  |some q=>simp only[Value.ownBlock,Option.some.injEq]at e;exact n5 q rfl e),hat⟩
 refine⟨⟨?_,k2.keep hs (fun e=>K6 k2 hb7 (by decide) (Option.some.inj e)),fun c hc hcn=>(k4 c hc hcn).keep hs (fun e=>K6 (k4 c hc hcn) hb7 (by decide) (Option.some.inj e)),?_,h.d2,⟨h.low.1,h.low.2.1,fun c hc=>⟨(h.low.2.2 c hc).1,Nat.lt_of_lt_of_le (h.low.2.2 c hc).2 (Nat.le_trans hgA.size hs.size)⟩⟩⟩,hF1.trans (Fx.at hs (.inl rfl))⟩
 ·have:=hb7.set 3 (.slice a7 (s.ris.length+1) k7);exact c7d
 ·exact c5b
theorem b9f(xs:List (Nat×Nat))(p:Nat×Nat):((xs++ [p]).flatMap O8).take (xs.length*2)=xs.flatMap O8:=by
 have hl:(xs.flatMap O8).length=xs.length*2:=by
  induction xs with
  |nil=>rfl
  |cons x l ih=>exact b4a
 rw[List.flatMap_append,←hl,List.take_left'];rfl
theorem G5.pop{xs:List (Nat×Nat)}{p:Nat×Nat}(h:G5 w base t bw b tg g n s ra rk)(hw:s.ris=xs++ [p])(hb:base≤w.heap.size):
 G5 (w.setCell ⟨t,3,none⟩ (.slice ra xs.length rk)) base t bw b tg g n (x9 s) ra rk∧TFx t g n ra ra w (w.setCell ⟨t,3,none⟩ (.slice ra xs.length rk)):=by
 have hs:=A9 w ⟨t,3,none⟩ (.slice ra xs.length rk);have hwp:(x9 s).ris=xs:=by unfold x9;dsimp only;rw[hw];simp
 refine⟨⟨?_,h.types.keep hs (fun e=>K6 h.types h.blk (by decide) (Option.some.inj e)),fun c hc hcn=>(h.rows c hc hcn).keep hs (fun e=>K6 (h.rows c hc hcn) h.blk (by decide) (Option.some.inj e)),?_,h.d2,⟨h.low.1,h.low.2.1,fun c hc=>⟨(h.low.2.2 c hc).1,Nat.lt_of_lt_of_le (h.low.2.2 c hc).2 hs.size⟩⟩⟩,Fx.at hs (.inl rfl)⟩
 ·have:=h.blk.set 3 (.slice ra xs.length rk);rw[hwp];exact this
 ·have h1:=h.ris;rw[hw]at h1;simp only[List.length_append,List.length_cons,List.length_nil,Nat.zero_add]at h1;have h2:=a6Q h1;rw[b9f]at h2;rw[hwp];exact h2.kept hs (.inr (I4 h2 h.blk (by decide)))
end
theorem a9v:(prog.info? 366).map (fun i=>(i.zero,i.size,i.bytes))=some (some (.agg #[.int .i64 0, .int .i64 0]),2,16):=by kernel_rfl
theorem a7r:(prog.info? 145).map (fun i=>(i.zero,i.size,i.bytes))=some (some (.agg #[.int .i64 0, .int .i64 0]),2,16):=by kernel_rfl
theorem b9o(w:World)(lim base:Nat)(x:D9)(f:Fm)(h:Hid (M1 w lim base x f))(hlb:lim≤base)(hbw:base≤w.heap.size)(hs:f.stack.length<1000)(u:Wd):
 Calls prog 302 #[.pointer (some ⟨x.fp,0,none⟩), .agg #[.int .i64 (u.tag:Int), .int .i64 u.v]] w fun e w'=>e= .returned (.tuple #[])∧∃v,M1 w' lim base {x with sv:=v} (V1 f u)∧E8 w w' x.ids {x with sv:=v}.ids:=by
 obtain⟨sa,sk,hsv⟩:=F0 h.out.st;obtain⟨n,hn⟩:∃n,n=f.stack.length:=⟨_,rfl⟩
 rw[←hn]at hsv hs;obtain⟨fp,hfp⟩:∃fp,fp=x.fp:=⟨_,rfl⟩
 have HJ:Hid (f.stack.length=n∧x.sv= .slice sa n sk∧fp=x.fp):=⟨hn.symm,hsv,hfp⟩
 rw[←hfp];clear hn hsv hfp;obtain⟨inf,hi0,hz0,hz1,hz2⟩:=info_parts a7r;go_enter func302,ntmps302;go_upto_region 1 with fail
 have hgw:=A2 w (.cells #[.int .i64 (u.tag:Int), .int .i64 u.v] 145) none;have hb1:=A3.new w #[.int .i64 (u.tag:Int), .int .i64 u.v] 145;generalize w.alloc (.cells #[.int .i64 (u.tag:Int), .int .i64 u.v] 145)=W1 at hgw hb1⊢;have HF1:=A0 (h.out.keep hgw);have c10:W1.cell? ⟨fp,10,none⟩=some (.slice sa n sk):=by rw[HJ.out.2.2,←HJ.out.2.1];exact HF1.out.blk.cell 10 _ rfl
 have e10:W1.frozen? ⟨fp,10,none⟩=false:=by rw[HJ.out.2.2];exact HF1.out.blk.frozen 10
 obtain⟨b0,b1⟩:=hb1.q2
 have HO1:Hid (W1.ownsRow base 145 2 (.slice sa n sk) n (f.stack.flatMap H9)):=by
  have:=HF1.out.st;rw[HJ.out.1,HJ.out.2.1]at this;exact this
 have HB1:Hid (A3 W1 fp (a1Y x f) 212):=by rw[HJ.out.2.2];exact HF1.out.blk
 have hbW:=Nat.le_trans hbw hgw.size;have hne:=I4 HO1.out HB1.out (by decide);have hwl:=HB1.out.lt;have c0a:∀o,(W1.drew.alloc o).cell? ⟨fp,10,none⟩=some (.slice sa n sk):=fun o=>(A1 (B6 _ _) (A2 _ _ none)).cell c10 (by simp)
 have z0a:=fun o=>((A2 W1.drew o none).frozen_far ⟨fp,10,none⟩ hwl (by simp)).trans e10
 go_region_law (refine step_append_lies _ rfl _ _ 134 rfl base 145 inf _ 2 16 underlying134 hi0 hz0 hz1 hz2 rfl (by decide) _ n (f.stack.flatMap H9) rfl ((World.ownsRow.drew HO1.out).alloc _) ⟨W1.heap.size,0,none⟩ 1 1 [.int .i64 (u.tag:Int), .int .i64 u.v] rfl rfl (S6 W1.drew _ _) (by simp[Value.oneCell']) (by omega) (by unfold maxLen;omega) (by omega) (by simp;omega) _ rfl ?_
                intro g cap w4 hown4 hgrow4 hat hlt4;have c4:=(hgrow4.cell_far ⟨fp,10,none⟩ (by simp;omega) (fun e=>hne e.symm)).trans (c0a _);have f4:=(hgrow4.frozen_far ⟨fp,10,none⟩ (by simp;omega) (fun e=>hne e.symm)).trans (z0a _);have hgr:W1.grownBy w4 (Value.slice sa n sk).ownBlock:=A1 (A1 (B6 _ _) (A2 _ _ _)) hgrow4)
 all_goals
  have hl:(f.stack++ [u]).length=n+1:=by rw[List.length_append,HJ.out.1];rfl
  have ho:w4.ownsRow base 145 2 (.slice (some ⟨g,0,none⟩) (n+1) cap) (f.stack++ [u]).length ((f.stack++ [u]).flatMap H9):=by
   rw[hl,List.flatMap_append];simpa[H9]using hown4
  have hat2:(Value.slice sa n sk).ownBlock=some g∨W1.heap.size≤g:=by
   rcases hat with h1|h1
   ·exact .inl h1
   ·exact .inr (by rw[h1];simp)
  clear hat hown4 hgrow4
  obtain⟨hF,hO⟩:=HF1.out.stk (r:=(Value.slice sa n sk).ownBlock) hgr (fun k e=>by rw[HJ.out.2.1];exact e) hlb hbW ho (fun k e=>by
   have e:g=k:=Option.some.inj e;subst e;rw[HJ.out.2.1];exact hat2) (by rw[hl];omega) rfl
  rw[←HJ.out.2.2]at hF hO;go_end0;exact⟨rfl,_,hF,(E8.grown hgw _).trans hO⟩
theorem c1D(l:List Wd)(n:Nat):(l.flatMap H9).drop (n*2)=(l.drop n).flatMap H9:=by
 induction l generalizing n with
 |nil=>simp
 |cons x l ih=>
  cases n with
  |zero=>simp
  |succ n=>
   rw[List.flatMap_cons,List.drop_succ_cons,←ih n,Nat.succ_mul];simp[H9,List.drop_append]
variable {W:World}
variable {base cb lim st:Nat}
variable {x:D9}
variable {f:Fm}
theorem M1.at'(h:M1 W lim base x f)(hlb:lim≤base){a:Nat}(ha:a≤70000):M1 (W.setCell ⟨x.fp,9,none⟩ (.int .i64 (a:Int))) lim base x (atF f a)∧E8 W (W.setCell ⟨x.fp,9,none⟩ (.int .i64 (a:Int))) x.ids x.ids:=by
 have hs:=A9 W ⟨x.fp,9,none⟩ (.int .i64 (a:Int));have hlow:=h.low
 have hrd:∀{α:Type} {enc:α→List Value} {p:Option Addr} {xs:List α},B8 W lim 4 enc p xs→B8 (W.setCell ⟨x.fp,9,none⟩ (.int .i64 (a:Int))) lim 4 enc p xs:=fun hr j hj=>by
  obtain⟨p,h1,h2,h3⟩:=hr j hj;refine⟨p,h1,h2,fun k u hu=>hs.cell (h3 k u hu) ?_⟩;rw[U9];intro e;have:=Option.some.inj e;dsimp only at this;omega
 exact⟨⟨h.blk.set 9 _,h.low,j4 h.st hs h.blk (by decide),j4 h.lo hs h.blk (by decide),h.ne,h.nst,ha,hrd h.code,hrd h.hand⟩,E8.one hs (by simp[D9.ids]) (fun k hk=> .inl hk)⟩
structure D8 where
 b:Nat
 hv:Value
 fv:Value
 ov:Value
 wv:List Value
 fr:List D9
def D8.ids(y:D8):List Nat:=y.b::(C2 y.hv++(C2 y.fv++(C2 y.ov++(y.wv.flatMap C2++y.fr.flatMap D9.ids))))
def a2K(p:Tg×Value):List Value:=[.int .i64 (p.1.kind:Int), .string p.1.cls,p.2]
def a1s(x:D9):List Value:=[.pointer (some ⟨x.fp,0,none⟩)]
def j5(n:Int):List Value:=[.int .i64 n]
def a3n(cb:Nat)(fast:Bool)(y:D8)(s:Ms)(st:Nat):Array Value:= #[.bool fast, .pointer (some ⟨cb,0,none⟩),y.hv, .int .i64 (s.room:Int),y.fv, .int .i64 (s.oc.kind:Int), .int .i64 s.oc.value, .string s.oc.cls,y.ov, .int .i64 (st:Int)]
structure I6(W:World)(lim base cb:Nat)(fast:Bool)(y:D8)(s:Ms)(st:Nat):Prop where
 blk:A3 W y.b (a3n cb fast y s st) 209
 low:base≤y.b
 wl:y.wv.length=s.tg.length
 fl:y.fr.length=s.fr.length
 th:W.ownsRow base 139 3 y.hv s.tg.length ((s.tg.zip y.wv).flatMap a2K)
 wd:∀(j:Nat) t v,s.tg[j]? =some t→y.wv[j]? =some v→W.ownsRow base 145 2 v t.words.length (t.words.flatMap H9)
 frs:W.ownsRow base 210 1 y.fv s.fr.length (y.fr.reverse.flatMap a1s)
 fm:∀(j:Nat) x f,y.fr[j]? =some x→s.fr[j]? =some f→M1 W lim base x f
 out:W.ownsRow base 3 1 y.ov s.oc.out.length (s.oc.out.flatMap j5)
 nd:y.ids.Nodup
theorem a3O(v:Value):(C2 v).Nodup:=by unfold C2;cases v.ownBlock<;>simp
theorem M1.nodup(h:M1 W lim base x f):x.ids.Nodup:=by
 unfold D9.ids;rw[List.nodup_cons,List.nodup_append];refine⟨fun hm=> ?_,a3O _,a3O _,fun a ha b hb e=> ?_⟩
 ·rw[List.mem_append,E2,E2]at hm;rcases hm with hm|hm
  ·rcases a6R h.st h.blk (by decide)with h1|h1
   ·rw[h1]at hm;cases hm
   ·exact h1 hm
  ·rcases a6R h.lo h.blk (by decide)with h1|h1
   ·rw[h1]at hm;cases hm
   ·exact h1 hm
 ·rw[E2]at ha hb;rw[←e]at hb;exact h.ne a ha hb
variable {fast:Bool}
variable {y:D8}
variable {s:Ms}
theorem I6.lt(h:I6 W lim base cb fast y s st):∀k∈y.ids,k<W.heap.size:=fun k hk=>by
 unfold D8.ids at hk;rw[List.mem_cons]at hk;rcases hk with rfl|hk
 ·exact h.blk.lt
 rw[List.mem_append]at hk;rcases hk with hk|hk
 ·exact(h.th.lt k (E2.1 hk)).2
 rw[List.mem_append]at hk;rcases hk with hk|hk
 ·exact(h.frs.lt k (E2.1 hk)).2
 rw[List.mem_append]at hk;rcases hk with hk|hk
 ·exact(h.out.lt k (E2.1 hk)).2
 rw[List.mem_append]at hk;rcases hk with hk|hk
 ·obtain⟨v,hv,hk⟩:=List.mem_flatMap.1 hk;obtain⟨j,hj,hje⟩:=List.getElem_of_mem hv;have hj2:j<s.tg.length:=by rw[←h.wl];exact hj
  exact((h.wd j s.tg[j] v (List.getElem?_eq_getElem hj2) (by rw[List.getElem?_eq_getElem hj,hje])).lt k (E2.1 hk)).2
 ·obtain⟨x,hx,hk⟩:=List.mem_flatMap.1 hk;obtain⟨j,hj,hje⟩:=List.getElem_of_mem hx;have hj2:j<s.fr.length:=by rw[←h.fl];exact hj
  exact(h.fm j x s.fr[j] (by rw[List.getElem?_eq_getElem hj,hje]) (List.getElem?_eq_getElem hj2)).lt k hk
def D8.pre(y:D8):List Nat:=y.b::(C2 y.hv++(C2 y.fv++(C2 y.ov++y.wv.flatMap C2)))
theorem D8.split(y:D8):y.ids=y.pre++y.fr.flatMap D9.ids:=by simp[D8.ids,D8.pre]
variable {P Q:List Nat}
theorem c2m{R Q':List Nat}(h:(P++(Q++R)).Nodup){n:Nat}(hP:∀k∈P,k<n)(hR:∀k∈R,k<n)(hQ:Q'.Nodup)(hs:∀k∈Q',k∈Q∨n≤k):(P++(Q'++R)).Nodup:=by
 rw[List.nodup_append,List.nodup_append]at h⊢;obtain⟨h1,⟨h2,h3,h4⟩,h5⟩:=h;refine⟨h1,⟨hQ,h3,fun a ha b hb e=> ?_⟩,fun a ha b hb e=> ?_⟩
 ·rcases hs a ha with h6|h6
  ·exact h4 a h6 b hb e
  ·have:=hR b hb;omega
 ·rcases List.mem_append.1 hb with hb|hb
  ·rcases hs b hb with h6|h6
   ·exact h5 a ha b (List.mem_append.2 (.inl h6)) e
   ·have:=hP a ha;omega
  ·exact h5 a ha b (List.mem_append.2 (.inr hb)) e
theorem b6I{R:List Nat}(h:(P++(Q++R)).Nodup):(∀k∈P,k∉Q)∧∀k∈R,k∉Q:=by
 rw[List.nodup_append,List.nodup_append]at h;exact⟨fun k hk hq=>h.2.2 k hk k (List.mem_append.2 (.inl hq)) rfl,fun k hk hq=>h.2.1.2.2 k hq k hk rfl⟩
theorem I6.top{W':World}(h:I6 W lim base cb fast y s st){x':D9}{xs:List D9}{f':Fm}{fs:List Fm}(hy:y.fr=x::xs)(hs:s.fr=f::fs)
 (hF:M1 W' lim base x' f') (hO:E8 W W' x.ids x'.ids) (hfp:x'.fp=x.fp) (hlb:lim≤base) (hbw:base≤W.heap.size):I6 W' lim base cb fast {y with fr:=x'::xs} {s with fr:=f'::fs} st∧E8 W W' y.ids {y with fr:=x'::xs:D8}.ids:=by
 have hnd:=h.nd;rw[y.split,hy,List.flatMap_cons]at hnd;obtain⟨hP,hR⟩:=b6I hnd;have hlt:=h.lt;rw[y.split,hy,List.flatMap_cons]at hlt;have hb:y.b∉x.ids:=hP _ (by simp[D8.pre]);have hhv:∀g,y.hv.ownBlock=some g→g∉x.ids:=fun g hg=>hP _ (by simp[D8.pre,E2,hg])
 have hfv:∀g,y.fv.ownBlock=some g→g∉x.ids:=fun g hg=>hP _ (by simp[D8.pre,E2,hg])
 have hov:∀g,y.ov.ownBlock=some g→g∉x.ids:=fun g hg=>hP _ (by simp[D8.pre,E2,hg])
 have hx0:=h.fm 0 x f (by rw[hy];rfl) (by rw[hs];rfl)
 have hxl:∀k∈x.ids,lim≤k:=fun k hk=>by
  simp only[D9.ids,List.mem_cons,List.mem_append,E2]at hk;rcases hk with h1|h1|h1
  ·have:=hx0.low;omega
  ·have:=(hx0.st.lt k h1).1;omega
  ·have:=(hx0.lo.lt k h1).1;omega
 have hids:∀k∈({y with fr:=x'::xs}:D8).ids,k∈y.ids∨W.heap.size≤k:=fun k hk=>by
  rw[D8.split]at hk;rw[y.split,hy];rw[List.flatMap_cons]at hk⊢;simp only[List.mem_append]at hk⊢;rcases hk with hk|hk|hk
  ·exact .inl (.inl hk)
  ·exact(hO.own k hk).imp (fun h2=> .inr (.inl h2)) id
  ·exact .inl (.inr (.inr hk))
 refine⟨⟨hO.blk h.blk hb,h.low,h.wl,by have:=h.fl;rw[hy,hs]at this;exact this,hO.own' h.th hhv,fun j t v ht hv=>hO.own' (h.wd j t v ht hv) (fun g hg=>hP _ ?_),?_,?_,hO.own' h.out hov,?_⟩,⟨hO.os,hO.tape,hO.output,hO.size,fun k hk hn=>hO.low k hk (fun hm=>hn (by rw[y.split,hy,List.flatMap_cons];simp[hm])),hids⟩⟩
 ·have:v∈y.wv:=List.mem_of_getElem? hv;simp only[D8.pre,List.mem_cons,List.mem_append,List.mem_flatMap];exact .inr (.inr (.inr (.inr ⟨v,this,E2.2 hg⟩)))
 ·have e:=hO.own' h.frs hfv;rw[hy,hs]at e;simp only[List.reverse_cons,List.flatMap_append,List.flatMap_cons,List.flatMap_nil,a1s,hfp]at e⊢;exact e
 ·intro j z g hz hg;cases j with
  |zero=>
   obtain rfl:=Option.some.inj hz;obtain rfl:=Option.some.inj hg;exact hF
  |succ j=>
   have hz:xs[j]? =some z:=hz;have hg:fs[j]? =some g:=hg;have h1:=h.fm (j+1) z g (by rw[hy];exact hz) (by rw[hs];exact hg);exact h1.other hO (fun k hk=>hR k (List.mem_flatMap.2 ⟨z,List.mem_of_getElem? hz,hk⟩)) hxl (by omega)
 ·rw[D8.split];rw[List.flatMap_cons];exact c2m (P:=y.pre) hnd (fun k hk=>hlt k (List.mem_append.2 (.inl hk))) (fun k hk=>hlt k (List.mem_append.2 (.inr (List.mem_append.2 (.inr hk))))) hF.nodup hO.own
end Kx
end
end Go.Proofs.YtdhophglnhcjbaaGreatDoor
