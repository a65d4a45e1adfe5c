/- P15: a part of the proof that the last text tells. -/
import Derived.Test.YtdhophglnhcjbaaGreatDoorP14
import Derived.Deep.LoopGhost
import Derived.WalkMore
import Derived.Lib.Mul64
import Derived.Laws.Bits64b
import Derived.Shelf.Bits.Mul64
import Derived.Test.YtdhophglnhcjbaaGreatDoorP00
import Derived.Laws.CopyOwn
import Derived.Deep.RegionHeld
import Derived.OwnWalk
set_option linter.all false
namespace Go.Proofs.YtdhophglnhcjbaaGreatDoor
open Go.RowKit Go.Shelf Cf
namespace Kx
def a4Z(w:World)(eg:Nat)(L:List Cl)(m:Me):Prop:=∃cs:Array Value,A3 w eg cs 315∧∀a,a<m.code.length→∃ta tk ua uk,cs[a*3]? =some (.slice ta (G5 L m (A8 m a)) tk)∧cs[a*3+1]? =some (.slice ua (P1 L (A8 m a)) uk)∧cs[a*3+2]? =some (.bool (V7 (A8 m a)))
variable {w w':World}
variable {base sz:Nat}
variable {m:Me}
theorem a4Z.fr{eg:Nat}{L:List Cl}(h:a4Z w eg L m)(hf:Fr base w w'):a4Z w' eg L m:=by
 obtain⟨cs,h1,h2⟩:=h;exact⟨cs,hf.eff eg cs (0,0) h1,h2⟩
theorem C0.low{α:Type}{lim:Nat}{enc:α→List Value}{a:Option Addr}{xs:List α}(h:C0 w lim sz enc a xs)(hf:Fr base w w')(hl:lim≤base):C0 w' lim sz enc a xs:=by
 intro j hj;obtain⟨p,h1,h2,h3⟩:=h j hj;exact⟨p,h1,h2,fun k u hu=>(World.cell?_of_block (hf.low _ (by rw[a1l];omega))).trans (h3 k u hu)⟩
structure l8(w0 wr:World)(base b eg hg sg wg:Nat)(g:Nat→Nat)(L:List Cl)(m:Me)(pa:Option Addr)(pk:Nat)(ca:Option Addr)(ck:Nat)(ha:Option Addr)(hk:Nat)(s:Wk)(wa:Option Addr)(wk:Nat)(cur:Option (Nat×Nat))(K:Nat):Prop where
 mem:L3 wr base b eg hg sg wg g m pa pk ca ck ha hk m.code.length m.stack s wa wk
 snd:U4 L m s
 gone:j5 L m s cur
 zero:sq s.seen 0 0=true
 mu:a0G s≤K
 fr:Fr base w0 wr
theorem a4A{a:Nat}(h:a<m.code.length):A8 m a∈m.code:=by unfold A8;simp[h]
theorem a7l(i:In)(a:Nat):(G6 i a).length≤2:=by
 unfold G6;by_cases c:i.op=20∨i.op=30
 ·rw[if_pos c];exact Nat.zero_le _
 rw[if_neg c];clear c;by_cases c:i.op=12
 ·rw[if_pos c];exact Nat.le_succ _
 rw[if_neg c];clear c;by_cases c:13≤i.op∧i.op≤15
 ·rw[if_pos c];exact Nat.le_refl _
 rw[if_neg c];exact Nat.le_succ _
theorem a2x(l:List (Nat×Nat)):(l.flatMap P5).length=l.length*2:=by
 induction l with
 |nil=>rfl
 |cons x l ih=>rw[List.flatMap_cons,List.length_append,ih,List.length_cons];simp only[P5,List.length_cons,List.length_nil];omega
theorem b0O{e g n k:Nat}{cs:List Value}(h:w.ownsRow base e sz (.slice (some ⟨g,0,none⟩) n k) n cs):n≤k:=by
 rcases h.2 with⟨h1,_⟩|⟨g',cap,cur,hv,_,_,hc,_⟩
 ·cases h1
 ·injection hv with _ _ h3;omega
def RnR(w0:World)(base b eg hg sg wg:Nat)(g:Nat→Nat)(L:List Cl)(m:Me)(pa:Option Addr)(pk:Nat)(ca:Option Addr)(ck:Nat)(ha:Option Addr)(hk:Nat)(p:Nat×Nat)(K B3 j:Nat)(W:World):Prop:=∃s wa wk,l8 w0 W base b eg hg sg wg g L m pa pk ca ck ha hk s wa wk (some p) K∧A3 W B3 #[.int .i64 p.1, .int .i64 p.2] 372∧(∀i,i<j→∀(hi:i<m.handlers.length),O8 m.handlers[i] p.1=true→(m.stack≠0→sq s.seen m.handlers[i].at_ 1=true)∧(m.stack=0→wq s.wrong p.1=true))∧∀q',wa=some q'→B3≠q'.block
def Rn3(w0:World)(base b eg hg sg wg:Nat)(g:Nat→Nat)(L:List Cl)(m:Me)(pa:Option Addr)(pk:Nat)(ca:Option Addr)(ck:Nat)(ha:Option Addr)(hk:Nat)(p:Nat×Nat)(K bn B5:Nat)(a5:Option Addr)(k5:Nat)(gl:List Nat)(j:Nat)(W:World):Prop:=∃s wa wk,l8 w0 W base b eg hg sg wg g L m pa pk ca ck ha hk s wa wk (some p) K∧(∀d∈m.handlers,O8 d p.1=true→(m.stack≠0→sq s.seen d.at_ 1=true)∧(m.stack=0→wq s.wrong p.1=true))∧(∀i,i<j→sq s.seen (gl.getD i 0) bn=true)∧(∀q' r,wa=some q'→a5=some r→r.block≠q'.block)∧W.ownsRow B5 3 1 (.slice a5 gl.length k5) gl.length (gl.flatMap Z8)∧hg<B5∧B5≤W.heap.size
def a6i(b B3:Nat)(t:Nat→Value):Act:={tmps:= #[.pointer (some ⟨b,0,none⟩),undef,t 2, .pointer (some ⟨B3,0,none⟩),undef,t 5,t 6,t 7,undef,t 9, .pointer (some ⟨b,0,none⟩), .tuple #[],t 12,t 13,t 14,t 15,t 16,t 17,t 18,t 19,t 20,t 21,t 22,t 23,t 24,t 25,t 26,t 27,t 28,t 29,t 30,t 31,t 32,t 33,t 34,t 35,t 36,t 37,t 38,t 39,t 40,t 41,t 42,t 43,t 44,t 45,t 46,t 47,t 48,t 49,t 50,t 51,t 52,t 53,t 54,t 55,t 56,t 57,t 58,t 59,t 60,t 61,t 62,t 63,t 64,t 65,t 66,t 67,t 68,t 69,t 70,t 71,t 72,t 73,t 74,t 75,t 76,t 77,t 78,t 79,t 80,t 81,t 82,t 83,t 84,t 85,t 86,t 87,t 88,t 89,t 90,t 91,t 92,t 93,t 94,t 95,t 96,t 97,t 98,t 99,t 100,t 101,t 102,t 103,t 104,t 105,t 106,t 107,t 108,t 109,t 110,t 111,t 112,t 113,t 114,t 115,t 116,t 117,t 118,t 119,t 120,t 121,t 122,t 123,t 124],defers:=[]}
def RnJ(b B3:Nat)(R:World→Prop)(a:Act)(w:World):Prop:=R w∧∃t:Nat→Value,a=a6i b B3 t
theorem a1R{P:Program}{c:Code}{a:Act}{i:Nat}{J K:Act→World→Prop}{Q:Exit→Act→World→Prop}(hJ:∀a w,J a w→K a w)
 (h:c.wp P (Exit.inBlock i (Exit.then J (fun _ _ _=>False))) a w):c.wp P (Exit.inBlock i (Exit.then K Q)) a w:=by
 refine Code.wp_mono ?_ h;intro e a w he
 have key:∀e a w,Exit.then J (fun _ _ _=>False) e a w→Exit.then K Q e a w:=by
  intro e a w he;cases e<;>first|exact hJ _ _ he|exact he.elim
 revert he;cases e<;>simp only[Exit.inBlock]<;>intro he
 all_goals first
  |exact key _ _ _ he
  |(split at he<;>split<;>first|exact key _ _ _ he|contradiction)
theorem a7B(s:Wk):s.work.length≤a0G s:=by unfold a0G;omega
section
variable{w0 wr w':World}{base b eg hg sg wg:Nat}{g:Nat→Nat}{L:List Cl}{m:Me}{pa:Option Addr}{pk:Nat}{ca:Option Addr}{ck:Nat}{ha:Option Addr}{hk:Nat}{s:Wk}{wa:Option Addr}{wk:Nat}{cur:Option (Nat×Nat)}{K:Nat}
theorem l8.keep(h:l8 w0 wr base b eg hg sg wg g L m pa pk ca ck ha hk s wa wk cur K)(hgr:wr.grownBy w' none)(hb:base≤wr.heap.size):l8 w0 w' base b eg hg sg wg g L m pa pk ca ck ha hk s wa wk cur K:=
 ⟨h.mem.keep hgr,h.snd,h.gone,h.zero,h.mu,h.fr.trans (Fr.grown hgr hb)⟩
theorem l8.bad(h:l8 w0 wr base b eg hg sg wg g L m pa pk ca ck ha hk s wa wk cur K){a:Nat}(ha':a<m.code.length)(hb:a0e L m a)(hbw:base≤wr.heap.size):l8 w0 (wr.setCell ⟨wg,a,none⟩ (.bool true)) base b eg hg sg wg g L m pa pk ca ck ha hk (a1u s a) wa wk cur K:=
 ⟨(h.mem.bad a).1,b5g h.snd ha' hb,h.gone.up (a9R h.snd ha') rfl rfl,h.zero,h.mu,h.fr.trans (h.mem.fr (h.mem.bad a).2 hbw)⟩
end
theorem l8.rch{w0 wr w':World}{base b eg hg sg wg:Nat}{g:Nat→Nat}{L:List Cl}{m:Me}{pa:Option Addr}{pk:Nat}{ca:Option Addr}{ck:Nat}{ha:Option Addr}{hk:Nat}{s:Wk}{wa wa':Option Addr}{wk wk':Nat}{cur:Option (Nat×Nat)}{K:Nat}
 (h:l8 w0 wr base b eg hg sg wg g L m pa pk ca ck ha hk s wa wk cur K) (hbw:base≤wr.heap.size) {a k:Nat} (hr:Cf.G3 L m a k) (ha':a<m.code.length) (hk':k≤m.stack) (hM:L3 w' base b eg hg sg wg g m pa pk ca ck ha hk m.code.length m.stack (T7 s a k) wa' wk') (hx:Fx b hg wg g m.code.length wa wa' wr w'):
 l8 w0 w' base b eg hg sg wg g L m pa pk ca ck ha hk (T7 s a k) wa' wk' cur K:=
 ⟨hM,a8G h.snd ha' hk' hr,a8x h.snd ha' hk' h.gone,(a5k h.snd ha' hk').seen _ _ h.zero,Nat.le_trans (a8T h.snd ha' hk') h.mu,h.fr.trans (h.mem.fr hx hbw)⟩
set_option maxRecDepth 100000 in
set_option maxHeartbeats 40000000 in
theorem b7Z(w:World)(base b eg hg sg wg:Nat)(g:Nat→Nat)(L:List Cl)(m:Me)(pa:Option Addr)(pk:Nat)(ca:Option Addr)(ck:Nat)(ha:Option Addr)(hk:Nat)(s0:Wk)(hs0:s0=X8 m)(wk:Nat)
 (h:Hid (L3 w base b eg hg sg wg g m pa pk ca ck ha hk m.code.length m.stack s0 none wk)) (hE:Hid (a4Z w eg L m)) (lim:Nat) (hlim:lim≤base) (hbw:base≤w.heap.size) (hRc:Hid (C0 w lim 4 L8 ca m.code)) (hRh:Hid (C0 w lim 4 M6 ha m.handlers)) (hco:T2 L m) (hin:∀i∈m.code,a1s L i) (hn:m.code.length≤65535) (hst:m.stack≤255) (hhl:m.handlers.length≤65535):
 Calls Tryz.prog 198 #[.pointer (some ⟨b,0,none⟩)] w fun e w'=>e= .returned (.tuple #[])∧∃s wa wk,L3 w' base b eg hg sg wg g m pa pk ca ck ha hk m.code.length m.stack s wa wk∧U4 L m s∧(∀a k,sq s.seen a k=true↔Cf.G3 L m a k)∧(∀a,wq s.wrong a=true↔a0e L m a)∧Fr base w w':=by
 have hi:=fun i h=>(hin i h).okin
 have HRCH:Hid (∀W s wa wk,L3 W base b eg hg sg wg g m pa pk ca ck ha hk m.code.length m.stack s wa wk→U4 L m s→s.work.length≤200000000→base≤W.heap.size→∀a k,a<m.code.length→k≤m.stack→Calls Tryz.prog 274 #[.pointer (some ⟨b,0,none⟩), .int .i64 a, .int .i64 k] W fun e w'=>e= .returned (.tuple #[])∧∃wa' wk',L3 w' base b eg hg sg wg g m pa pk ca ck ha hk m.code.length m.stack (T7 s a k) wa' wk'∧Fx b hg wg g m.code.length wa wa' W w'):=
  fun W s wa wk h1 h2 h3 h4 a k h5 h6=>b5w W base b eg hg sg wg g m pa pk ca ck ha hk m.code.length m.stack s wa wk h1 hn (by omega) h2.len1 h2.row h2.len3 h2.len2 h3 a k h5 h6 h4
 have hmu0:a0G s0≤100000000:=by
  rw[hs0];unfold a0G a4O X8;have:((List.replicate m.code.length (List.replicate (m.stack+1) false)).map fun r=>r.countP (fun x=> !x)).sum=m.code.length*(m.stack+1):=by simp[List.countP_replicate]
  rw[this];have h2:m.code.length*(m.stack+1)≤65535*256:=Nat.mul_le_mul hn (by omega);simp only[List.length_nil];omega
 have hI0:=(a1J L m).1;have hSN:=b7U L m;have hGN:=b6A L m;rw[←hs0]at hSN hGN;have HSN:Hid (U4 L m s0∧j5 L m s0 none∧a0G s0≤100000000∧T2 L m∧(∀i∈m.code,a1s L i)∧(∀i∈m.code,T5 i)):=⟨hSN,hGN,hmu0,hco,hin,hi⟩
 have hRC0:=HRCH.out w s0 none wk h.out hSN (by rw[hs0];simp[X8]) hbw 0 0 hco.some_ (Nat.zero_le _);have HRC0:Hid (Calls Tryz.prog 274 #[.pointer (some ⟨b,0,none⟩), .int .i64 0, .int .i64 0] w fun e w'=>e= .returned (.tuple #[])∧∃wa' wk',L3 w' base b eg hg sg wg g m pa pk ca ck ha hk m.code.length m.stack (T7 s0 0 0) wa' wk'∧Fx b hg wg g m.code.length none wa' w w'):=hRC0;clear hSN hGN hmu0 hco hin hi hRC0 hs0;go_enter Tryz.func198,Tryz.ntmps198;go_step3
 go_wp2_with (go_at_call 274;refine HRC0.out.mono ?_)
 rintro e w1 ⟨rfl,wa1,wk1,hM1,hX1⟩
 have hI:l8 w w1 base b eg hg sg wg g L m pa pk ca ck ha hk (T7 s0 0 0) wa1 wk1 none 100000000:=by
  have h0:=HSN.out.2.2.2.1.some_;refine⟨hM1,a8G HSN.out.1 h0 (Nat.zero_le _) hI0,a8x HSN.out.1 h0 (Nat.zero_le _) HSN.out.2.1,a6s HSN.out.1 h0 (Nat.zero_le _),Nat.le_trans (a8T HSN.out.1 h0 (Nat.zero_le _)) HSN.out.2.2.1,h.out.fr hX1 hbw⟩
 have HI:=A0 hI;clear hI hM1 hX1;go_wp2_with fail
 go_step3
 go_wp2_with fail
 go_loopg [] 100000000 (fun K wr=>∃s wa wk,l8 w wr base b eg hg sg wg g L m pa pk ca ck ha hk s wa wk none K∧K≤100000000)
 case atStart=>exact⟨_,_,_,HI.out,Nat.le_refl _⟩
 case round=>
  obtain⟨K1,hK1⟩:∃K1,K1=gk:=⟨_,rfl⟩
  subst hK1;obtain⟨s,wa,wk2,hI,hK⟩:=hrel;have HI2:=A0 hI;have hbr:=Nat.le_trans hbw hI.fr.size;by_cases hw:s.work=[]
  ·have c12:wr.cell? ⟨b,12,none⟩=some (.slice wa 0 wk2):=by have:=hI.mem.blk.cell 12 _ rfl;rw[hw]at this;exact this
   have HEND:=b8M hI.snd hI.gone hI.zero hw;have HEN:=A0 HEND;clear HEND hI hw;go_wp2_with fail
   rw[Exit.noGoto_normal];go_end0;exact⟨rfl,s,wa,wk2,HI2.out.mem,HI2.out.snd,HEN.out.1,HEN.out.2,HI2.out.fr⟩
  ·obtain⟨xs,p,hxp⟩:∃xs p,s.work=xs++ [p]:=⟨_,_,(List.dropLast_concat_getLast hw).symm⟩
   have hpr:=hI.snd.snd _ _ (hI.snd.work p (by rw[hxp];simp));have hpb:=a1O HSN.out.2.2.2.1 HSN.out.2.2.2.2.2 hpr;obtain⟨xl,hxl⟩:∃xl,xl=xs.length:=⟨_,rfl⟩
   have hWL:s.work.length=xl+1:=by rw[hxp,hxl];simp
   have hpop:=hI.mem.pop hxp;have hwork:=hI.mem.work;rw[hWL]at hwork;obtain⟨q,qc,hq,-,hqs⟩:=hwork.form (Nat.succ_pos _);injection hq with hq1 _ hq3
   subst hq1;have hqk:=b0O hwork
   have hkk:wk2≤maxLen:=by
    rcases hwork.2 with⟨e1,-⟩|⟨q',cap,cur,e1,-,-,-,h6,-⟩
    ·cases e1
    ·injection e1 with _ _ e3;omega
   have s0c:wr.cell? ⟨q,xl*2,none⟩=some (.int .i64 p.1):=by
    have:=hwork.cells (g:=q) rfl (xl*2) (.int .i64 p.1) (by
     rw[hxp,List.flatMap_append,List.getElem?_append_right (by rw[a2x,hxl];exact Nat.le_refl _),a2x,hxl,Nat.sub_self];rfl)
    rcases Nat.eq_zero_or_pos (xl*2)with e2|e2<;>simpa[Addr.add_lit]using this
   have s1c:wr.cell? ⟨q,xl*2+1,none⟩=some (.int .i64 p.2):=by
    have:=hwork.cells (g:=q) rfl (xl*2+1) (.int .i64 p.2) (by
     rw[hxp,List.flatMap_append,List.getElem?_append_right (by rw[a2x,hxl];omega),a2x,hxl,Nat.add_sub_cancel_left];rfl)
    simpa[Addr.add_lit]using this
   have c12:wr.cell? ⟨b,12,none⟩=some (.slice (some ⟨q,0,none⟩) (xl+1) wk2):=by have:=hI.mem.blk.cell 12 _ rfl;rw[hWL]at this;exact this
   have f12:=hI.mem.blk.frozen 12;have hbW:=hI.mem.blk.lt;have hmup:=b6z hw
   have hb3:A3 ((wr.setCell ⟨b,12,none⟩ (.slice (some ⟨q,0,none⟩) xl wk2)).alloc (.cells #[.int .i64 p.1, .int .i64 p.2] 372)) wr.heap.size #[.int .i64 p.1, .int .i64 p.2] 372:=by
    have:=A3.new (wr.setCell ⟨b,12,none⟩ (.slice (some ⟨q,0,none⟩) xl wk2)) #[.int .i64 p.1, .int .i64 p.2] 372;rw[show(wr.setCell ⟨b,12,none⟩ (.slice (some ⟨q,0,none⟩) xl wk2)).heap.size=wr.heap.size by simp[World.setCell]]at this;exact this
   have hIP:l8 w ((wr.setCell ⟨b,12,none⟩ (.slice (some ⟨q,0,none⟩) xl wk2)).alloc (.cells #[.int .i64 p.1, .int .i64 p.2] 372)) base b eg hg sg wg g L m pa pk ca ck ha hk (a1t s) (some ⟨q,0,none⟩) wk2 (some p) (K1-1):=by
    rw[hxl];exact⟨hpop.1.keep (A2 _ _ none),b5f hI.snd,b3X hxp hI.gone,hI.zero,by have:=hI.mu;omega,hI.fr.trans ((hI.mem.fr hpop.2 hbr).trans (Fr.grown (A2 _ _ none) (Nat.le_trans hbr hpop.2.size)))⟩
   have hgk:0<K1:=by have:=hI.mu;omega
   have hqne:=hqs;have hxl0:xl≤200000000:=by have h1:=a7B s;have h2:=hI.mu;omega
   have HX:Hid (Cf.G3 L m p.1 p.2∧p.1<m.code.length∧p.2≤m.stack):=⟨hpr,hpb.1,hpb.2⟩
   have HIP:=A0 hIP;have HB3:=A0 hb3;have HQ3:Hid (q<wr.heap.size∧0<K1∧K1≤100000000∧sq s.seen p.1 p.2=true):=⟨hqs,hgk,hK,hI.snd.work p (by rw[hxp];simp)⟩
   clear hI HI2 hpr hpb hpop hwork hxp hxl hWL hIP hb3 hmup hgk hK hw hqs hqne hq3;go_wp2_with fail
   go_step3
   go_upto_region 5 with fail
   generalize (wr.setCell ⟨b,12,none⟩ (.slice (some ⟨q,0,none⟩) xl wk2)).alloc (.cells #[.int .i64 p.1, .int .i64 p.2] 372)=W1 at HIP HB3⊢;clear hbW hbr;generalize wr.heap.size=B3 at HB3 HQ3⊢;have c7:=HIP.out.mem.blk.c7;clear s0c s1c c12 f12;go_wp2_with fail
   go_step3
   go_wp2_with fail
   have HJ0:Hid (RnR w base b eg hg sg wg g L m pa pk ca ck ha hk p (K1-1) B3 0 W1):=⟨_,_,_,HIP.out,HB3.out,fun i hi=>absurd hi (Nat.not_lt_zero i),fun q' e=>by cases e;have:=HQ3.out.1;show B3≠q;omega⟩
   refine a1R (J:=RnJ b B3 (fun W=>RnR w base b eg hg sg wg g L m pa pk ca ck ha hk p (K1-1) B3 m.handlers.length W)) ?_ ?_
   ·rintro a W2 ⟨hR,t,rfl⟩;dsimp only[a6i];obtain⟨s2,wa2,wk3,hI,hb3,hall,hob⟩:=hR;obtain⟨cs,hbe,hcs⟩:=hE.out.fr hI.fr;obtain⟨ta,tk,ua,uk,hE0,hE1,hE2⟩:=hcs p.1 HX.out.2.1;have F5:=hI.keep (B8 W2 none) (Nat.le_trans hbw hI.fr.size);have hbd:=hb3.keep (B8 W2 none) A7;have hbed:=hbe.keep (B8 W2 none) A7;have Q8:=F5.mem.blk.c8;have Q4:=F5.mem.blk.c4;have Q30:=hbd.cell 0 _ rfl;have Q31:=hbd.cell 1 _ rfl;obtain⟨tn,htn⟩:∃tn,tn=G5 L m (A8 m p.1):=⟨_,rfl⟩
    obtain⟨pn,hpn⟩:∃pn,pn=P1 L (A8 m p.1):=⟨_,rfl⟩
    obtain⟨eb,heb⟩:∃eb,eb=V7 (A8 m p.1):=⟨_,rfl⟩
    rw[←htn]at hE0;rw[←hpn]at hE1;rw[←heb]at hE2;have QE0:=hbed.cell _ _ hE0;have QE1:=hbed.cell _ _ hE1;have QE2:=hbed.cell _ _ hE2;have hinf:=HSN.out.2.2.2.2.1 _ (a4A HX.out.2.1);have htl:tn≤1001:=by rw[htn];exact a9V hinf
    have hpl:pn≤2:=by rw[hpn];exact b0M
    have hpe:eb=true→pn=0:=fun e=>by rw[hpn];rw[heb]at e;exact b0C e
    have hp2:=HX.out.2.2;have HI3:=A0 hI;have HB4:=A0 hb3
    have HAL:Hid (∀d∈m.handlers,O8 d p.1=true→(m.stack≠0→sq s2.seen d.at_ 1=true)∧(m.stack=0→wq s2.wrong p.1=true)):=fun d hd=>by
     obtain⟨i,hi,rfl⟩:=List.getElem_of_mem hd;exact hall i hi hi
    have HOB:=A0 hob;have HRM:Hid (Y5 L m p.1 p.2=(decide (tn≤p.2)&&decide (p.2-tn+pn≤m.stack))):=by unfold Hid Y5;rw[htn,hpn]
    have HBE:Hid (a0i L m p.1 p.2=p.2-tn+pn):=by unfold Hid a0i;rw[htn,hpn]
    have HEB:=A0 heb;have HBH:=A0 (fun W=>a9q W ta ua tn tk pn uk p.2 m.stack eb (by omega) (by omega) (by omega) (by omega));clear hall hob hI hb3 hbe hcs F5 hbd hbed hE0 hE1 hE2 htn hpn heb hinf;have hpI:(p.1:Int)<(m.code.length:Int):=by have:=HX.out.2.1;omega
    by_cases hroom:tn≤p.2∧p.2-tn+pn≤m.stack
    ·have hbv:∃bh:Int,y8 tn pn p.2 m.stack eb= .tuple #[.int .i64 bh, .bool true]∧(eb=false→bh=((p.2-tn+pn:Nat):Int)):=by
      unfold y8;cases eb with
      |true=>exact⟨0,by simp[hroom.1],fun e=>by cases e⟩
      |false=>exact⟨(p.2:Int)-tn+pn,by simp[hroom.1,show(p.2:Int)-tn+pn≤m.stack by omega],fun _=>by omega⟩
     obtain⟨bh,hbh,hbn⟩:=hbv;rw[hbh]at HBH;have HRT:Hid (Y5 L m p.1 p.2=true∧(eb=false→bh=((p.2-tn+pn:Nat):Int))∧p.2-tn+pn≤m.stack):=⟨by rw[HRM.out];simp[hroom],hbn,hroom.2⟩
     clear hbh hbn hroom hpe;go_upto_region 13 with fail
     refine wp_region_held_drew (S:=(fun w'=>w'.cell? ⟨b,8,none⟩=some (.slice (some ⟨eg,0,none⟩) m.code.length m.code.length)∧w'.cell? ⟨b,4,none⟩=some (.int .i64 m.stack)∧w'.cell? ⟨B3,0,none⟩=some (.int .i64 p.1)∧w'.cell? ⟨B3,1,none⟩=some (.int .i64 p.2)∧w'.cell? ⟨eg,p.1*3,none⟩=some (.slice ta tn tk)∧w'.cell? ⟨eg,p.1*3+1,none⟩=some (.slice ua pn uk)∧w'.cell? ⟨eg,p.1*3+2,none⟩=some (.bool eb))) (by kernel_rfl) (⟨Q8,Q4,Q30,Q31,QE0,QE1,QE2⟩) (fun hHeld=> ?_);refine A4 0 ?_;refine A4 1 ?_;refine A4 2 ?_;refine A4 3 ?_;refine A4 4 ?_;refine A4 5 ?_;refine A4 6 ?_;refine A4 7 ?_;refine A4 8 ?_;refine A4 9 ?_;refine A4 10 ?_;refine A4 11 ?_;refine A4 12 ?_;refine A4 13 ?_;refine A4 14 ?_;refine wpAnyH_ready (rs:=[15]) (by kernel_rfl) (by simp) ?_;refine AllReadyH.cons rfl (fun K hK=> ?_) AllReadyH.nil;go_simp
     go_wp2_with (go_at_call 275;refine(HBH.out _).mono ?_;rintro e w3 ⟨rfl,hg3⟩)
     refine hK.out _ _ ?_ (fun hHeld=> ?_)
     case refine_1=>exact⟨hg3.cell Q8 A7,hg3.cell Q4 A7,hg3.cell Q30 A7,hg3.cell Q31 A7,hg3.cell QE0 A7,hg3.cell QE1 A7,hg3.cell QE2 A7⟩
     try clear hK K
     try simp only[Act.put,lz]
     refine A4 16 ?_;refine A4 17 ?_;refine A4 18 ?_;refine A4 19 ?_;refine A4 20 ?_;refine wpAnyH_done (by kernel_rfl) ?_ _;go_upto_region 16 with fail
     have hg23:=A1 (B8 W2 none) hg3;have hI5:=HI3.out.keep hg23 (Nat.le_trans hbw HI3.out.fr.size);have hId:=hI5.keep (B8 w3 none) (Nat.le_trans hbw hI5.fr.size);have hBw:=HB4.out.keep (A1 hg23 (B8 w3 none)) A7;obtain⟨pc,hpc,-,hci⟩:=C0.low hRc.out hId.fr hlim p.1 HX.out.2.1;obtain⟨i,hi⟩:∃i,i=A8 m p.1:=⟨_,rfl⟩
     have hcm:m.code[p.1]'HX.out.2.1=i:=by rw[hi];unfold A8;simp[HX.out.2.1]
     rw[hcm]at hci;subst hpc;have R6:=hId.mem.blk.c6;have R30:=hBw.cell 0 _ rfl;have RI0:w3.drew.cell? (pc.add (p.1*4))=some (.int .i64 i.op):=hci 0 _ rfl;have RI1:w3.drew.cell? ⟨(pc.add (p.1*4)).block,(pc.add (p.1*4)).off+1,none⟩=some (.int .i64 i.a):=by rw[B9 pc (p.1*4) 0];exact hci 1 _ rfl
     have RI2:w3.drew.cell? ⟨(pc.add (p.1*4)).block,(pc.add (p.1*4)).off+2,none⟩=some (.string i.cls):=by rw[B9 pc (p.1*4) 1];exact hci 2 _ rfl
     have RI3:w3.drew.cell? ⟨(pc.add (p.1*4)).block,(pc.add (p.1*4)).off+3,none⟩=some (.string i.mem):=by rw[B9 pc (p.1*4) 2];exact hci 3 _ rfl
     have HI:=A0 hi;have hioa:12≤i.op→i.op≤15→0≤i.a:=fun h1 _=>(HSN.out.2.2.2.2.2 i (by rw[hi];exact a4A HX.out.2.1)).2 (by omega)
     have HNX:=A0 (fun W=>a7g W i p.1 (by have:=HX.out.2.1;omega) hioa);have HI6:=A0 hId;obtain⟨gl,hgl⟩:∃gl,gl=G6 i p.1:=⟨_,rfl⟩
     have HGL:=A0 hgl;rw[←hgl]at HNX;obtain⟨nl,hnl⟩:∃nl,nl=gl.length:=⟨_,rfl⟩
     have HNL:=A0 hnl;have hnl2:nl≤2:=by rw[hnl,hgl];exact a7l _ _
     rw[←hnl]at HNX;clear hci hcm hi hioa hId hI5 hBw hgl hnl Q8 Q4 Q30 Q31 QE0 QE1 QE2;refine wp_region_held_drew (S:=(fun w'=>w'.cell? ⟨b,6,none⟩=some (.slice (some pc) m.code.length ck)∧w'.cell? ⟨B3,0,none⟩=some (.int .i64 p.1)∧w'.cell? (pc.add (p.1*4))=some (.int .i64 i.op)∧w'.cell? ⟨(pc.add (p.1*4)).block,(pc.add (p.1*4)).off+1,none⟩=some (.int .i64 i.a)∧w'.cell? ⟨(pc.add (p.1*4)).block,(pc.add (p.1*4)).off+2,none⟩=some (.string i.cls)∧w'.cell? ⟨(pc.add (p.1*4)).block,(pc.add (p.1*4)).off+3,none⟩=some (.string i.mem))) (by kernel_rfl) (⟨R6,R30,RI0,RI1,RI2,RI3⟩) (fun hHeld=> ?_);refine A4 0 ?_;refine A4 1 ?_;refine A4 2 ?_;refine A4 3 ?_;refine A4 4 ?_;refine A4 5 ?_;refine A4 6 ?_;refine A4 7 ?_;refine A4 8 ?_;refine A4 9 ?_;refine A4 10 ?_;refine A4 13 ?_;refine wpAnyH_ready (rs:=[11]) (by kernel_rfl) (by simp) ?_;refine AllReadyH.cons rfl (fun K hK=> ?_) AllReadyH.nil;go_simp
     go_wp2_with (go_at_call 268;refine(HNX.out _).mono ?_;rintro e w5 ⟨hg5,v5,rfl,ho5⟩;obtain⟨a5,k5,rfl⟩:=F1 ho5)
     refine hK.out _ _ ?_ (fun hHeld=> ?_)
     case refine_1=>exact⟨hg5.cell R6 A7,hg5.cell R30 A7,hg5.cell RI0 A7,hg5.cell RI1 A7,hg5.cell RI2 A7,hg5.cell RI3 A7⟩
     try clear hK K
     try simp only[Act.put,lz]
     refine A4 12 ?_;refine wpAnyH_done (by kernel_rfl) ?_ _;have hlw:=HI6.out.mem.hts.lt
     have hwaw:∀q',wa2=some q'→q'.block<w3.drew.heap.size:=fun q' e=>by
      have:=HI6.out.mem.work;rw[e]at this;exact(K9 this rfl).2
     have H30:Hid (Rn3 w base b eg hg sg wg g L m pa pk (some pc) ck ha hk p (K1-1) (p.2-tn+pn) w3.drew.heap.size a5 k5 gl 0 w5):=⟨s2,wa2,wk3,HI6.out.keep hg5 (Nat.le_trans hbw HI6.out.fr.size),HAL.out,fun i hi=>absurd hi (Nat.not_lt_zero i),fun q' r e1 e2 e3=>by
      have h1:=hwaw q' e1;have h2:(Value.slice a5 nl k5).ownBlock=some r.block:=by rw[e2];rfl
      have h3:=(K9 ho5 h2).1;omega,by rw[←HNL.out];exact ho5,hlw,hg5.size⟩
     clear hlw hwaw;go_wp2_with fail
     go_loopg [116] nl (fun gq c W=>∃j:Nat,c= .int .i64 j∧j≤nl∧gq+j=nl∧Rn3 w base b eg hg sg wg g L m pa pk (some pc) ck ha hk p (K1-1) (p.2-tn+pn) w3.drew.heap.size a5 k5 gl j W)
     case atStart=>exact⟨0,rfl,Nat.zero_le _,rfl,H30.out⟩
     case round=>
      obtain⟨j,rfl,hj,hgq,hR⟩:=hrel;obtain⟨s3,wa3,wk4,hI3,hal3,hsn3,hob3,hown3,hlt5,hle5⟩:=hR;have HI7:=A0 hI3;have HA7:=A0 hal3;have HS7:=A0 hsn3;have HO7:=A0 hob3;have HW7:Hid (wr.ownsRow w3.drew.heap.size 3 1 (.slice a5 gl.length k5) gl.length (gl.flatMap Z8)∧hg<w3.drew.heap.size∧w3.drew.heap.size≤wr.heap.size):=⟨hown3,hlt5,hle5⟩
      clear hI3 hal3 hsn3 hob3 hown3 hlt5 hle5;by_cases hlt:j<nl
      ·have hjl:j<gl.length:=by rw[←HNL.out];exact hlt
       obtain⟨g5,c5,hg5e,-,hg5l⟩:=HW7.out.1.form (by omega);injection hg5e with hg5e hg5n hg5k
       clear hg5n;subst hg5k
       have hgj:wr.cell? ⟨g5,j,none⟩=some (.int .i64 (gl.getD j 0)):=by
        have:=HW7.out.1.cells (g:=g5) (by rw[hg5e];rfl) j (.int .i64 (gl.getD j 0)) (by
         have h5:=a0z Z8 1 (fun _=>rfl) gl j hjl 0 (by omega);rw[Nat.mul_one,Nat.add_zero]at h5;rw[h5];simp[Z8,hjl])
        rcases Nat.eq_zero_or_pos j with e2|e2
        ·subst e2;simpa[Addr.add_lit]using this
        ·simpa[Addr.add_lit]using this
       subst hg5e;obtain⟨x,hx⟩:∃x,x=gl.getD j 0:=⟨_,rfl⟩
       rw[←hx]at hgj;have hxm:x∈G6 i p.1:=by rw[←HGL.out,hx];simp[hjl]
       rw[HI.out]at hxm;have hxb:=b1c HSN.out.2.2.2.1 HSN.out.2.2.2.2.2 HX.out.2.1 x hxm
       have hebF:eb=false:=by
        rw[HEB.out];cases hee:V7 (A8 m p.1)with
        |false=>rfl
        |true=>
         have h20:(A8 m p.1).op=20∨(A8 m p.1).op=30:=by simpa[V7]using hee
         unfold G6 at hxm;rw[if_pos h20]at hxm;cases hxm
       have hbhn:=HRT.out.2.1 hebF;have hbn:=HRT.out.2.2;have hbw7:=Nat.le_trans hbw HI7.out.fr.size
       have hrx:Cf.G3 L m x (p.2-tn+pn):=by
        rw[←HBE.out];refine(a1J L m).2 p.1 p.2 HX.out.1 (x,a0i L m p.1 p.2) ?_;unfold a0m;rw[if_pos HRT.out.1];exact List.mem_append_right _ (List.mem_map.2 ⟨x,hxm,rfl⟩)
       obtain⟨bn,hbne⟩:∃bn,bn=p.2-tn+pn:=⟨_,rfl⟩
       have HBN:=A0 hbne;rw[←hbne]at hbhn hbn hrx;have hR1:=HRCH.out wr s3 wa3 wk4 HI7.out.mem HI7.out.snd (by have h1:=a7B s3;have h2:=HI7.out.mu;have h3:=HQ3.out.2.2.1;omega) hbw7 x bn hxb hbn;rw[←hbhn]at hR1;have HR1:=A0 hR1;have hup:=a5k HI7.out.snd hxb hbn;have hsx:=a6s HI7.out.snd hxb hbn
       have HGO:Hid (∀w4 wa4 wk4',L3 w4 base b eg hg sg wg g m pa pk (some pc) ck ha hk m.code.length m.stack (T7 s3 x bn) wa4 wk4'→Fx b hg wg g m.code.length wa3 wa4 wr w4→Rn3 w base b eg hg sg wg g L m pa pk (some pc) ck ha hk p (K1-1) (p.2-tn+pn) w3.drew.heap.size (some ⟨g5,0,none⟩) k5 gl (j+1) w4):=fun w4 wa4 wk4' hM4 hX4=>
        ⟨_,wa4,wk4',HI7.out.rch hbw7 hrx hxb hbn hM4 hX4,fun d hd hc=>⟨fun e=>hup.seen _ _ ((HA7.out d hd hc).1 e),fun e=>hup.wrong _ ((HA7.out d hd hc).2 e)⟩,fun i' hi'=>by
         rw[←HBN.out];by_cases e:i'=j
         ·subst e;rw[←hx];exact hsx
         ·have:=HS7.out i' (by omega);rw[←HBN.out]at this;exact hup.seen _ _ this,fun q' r e1 e2=>by
         cases e2;rcases hX4.own q' e1 with⟨q2,e3,e4⟩|e3
         ·rw[←e4];exact HO7.out q2 _ e3 rfl
         ·show g5≠q'.block;omega,by
         have h5:=HI7.out.mem;obtain⟨hl8,h8⟩:=HW7.out.1;refine⟨hl8,?_⟩;rcases h8 with h8|⟨g',cap,cur,e1,e2,e3,e4⟩
         ·exact .inl h8
         ·cases e1;refine .inr ⟨g5,k5,cur,rfl,e2,?_,e4⟩;have hb5:A3 wr g5 cur 3:=e3;rw[hX4.block g5 hg5l (I7 hb5 h5.blk (by decide)) (by have:=HW7.out.2.1;omega) (I7 hb5 h5.wrong (by decide)) (fun a ha'=>I7 hb5 (h5.rows a ha') (by decide)) (fun q' e=>HO7.out q' _ e rfl)];exact e3,HW7.out.2.1,Nat.le_trans HW7.out.2.2 hX4.size⟩
       have hjI:(j:Int)<(nl:Int):=by omega
       clear hx hxm hxb hebF hbhn hbn hbw7 hrx hbne hR1 hup hsx hg5l;go_wp2_with (go_at_call 274;refine HR1.out.mono ?_;rintro e w4 ⟨rfl,wa4,wk4',hM4,hX4⟩)
       have HN:=HGO.out w4 wa4 wk4' hM4 hX4;go_roundg (gk-1)
       case measure=>omega
       case rel=>exact⟨j+1,by go_num,by omega,by omega,HN⟩
      ·have hjn:j=nl:=by omega
       have HFIN:Hid (l8 w wr base b eg hg sg wg g L m pa pk (some pc) ck ha hk s3 wa3 wk4 none (K1-1)):=⟨HI7.out.mem,HI7.out.snd,j5.close (a:=p.1) (h:=p.2) HI7.out.gone ⟨fun x hx=>by
        unfold a0m at hx;rcases List.mem_append.1 hx with hx|hx
        ·split at hx
         ·cases hx
         ·rename_i hs0;obtain⟨d,hd,rfl⟩:=List.mem_map.1 hx;exact(HA7.out d (List.mem_filter.1 hd).1 (List.mem_filter.1 hd).2).1 hs0
        ·rw[if_pos HRT.out.1]at hx;obtain⟨y,hy,rfl⟩:=List.mem_map.1 hx;rw[←HI.out,←HGL.out]at hy;obtain⟨k,hk,rfl⟩:=List.getElem_of_mem hy;have:=HS7.out k (by rw[hjn,HNL.out];exact hk);rw[HBE.out];simpa[hk]using this,(fun e=>by(rw[HRT.out.1]at e;cases e)),fun⟨d,hd,hc⟩ e=>(HA7.out d hd hc).2 e⟩,HI7.out.zero,HI7.out.mu,HI7.out.fr⟩
       subst hjn;go_wp2_with fail
       rw[Exit.noGoto_normal];go_wp2_with fail
       go_roundg (K1-1)
       case measure=>have:=HQ3.out.2.1;omega
       case rel=>exact⟨_,wa3,wk4,HFIN.out,by have:=HQ3.out.2.2.1;omega⟩
    ·have hbv:∃bh,y8 tn pn p.2 m.stack eb= .tuple #[bh, .bool false]:=by
      unfold y8;cases eb with
      |true=>
       have:=hpe rfl;exact⟨_,by simp[show¬tn≤p.2 by omega];rfl⟩
      |false=>exact⟨_,by
       have:(decide (tn≤p.2)&&decide ((p.2:Int)-tn+pn≤m.stack))=false:=by simp;omega
       simp only[this];rfl⟩
     obtain⟨bh,hbh⟩:=hbv;rw[hbh]at HBH;have HRF:Hid (Y5 L m p.1 p.2=false):=by unfold Hid;rw[HRM.out];simp;omega
     clear hbh hroom hpe;go_upto_region 13 with fail
     refine wp_region_held_drew (S:=(fun w'=>w'.cell? ⟨b,8,none⟩=some (.slice (some ⟨eg,0,none⟩) m.code.length m.code.length)∧w'.cell? ⟨b,4,none⟩=some (.int .i64 m.stack)∧w'.cell? ⟨B3,0,none⟩=some (.int .i64 p.1)∧w'.cell? ⟨B3,1,none⟩=some (.int .i64 p.2)∧w'.cell? ⟨eg,p.1*3,none⟩=some (.slice ta tn tk)∧w'.cell? ⟨eg,p.1*3+1,none⟩=some (.slice ua pn uk)∧w'.cell? ⟨eg,p.1*3+2,none⟩=some (.bool eb))) (by kernel_rfl) (⟨Q8,Q4,Q30,Q31,QE0,QE1,QE2⟩) (fun hHeld=> ?_);refine A4 0 ?_;refine A4 1 ?_;refine A4 2 ?_;refine A4 3 ?_;refine A4 4 ?_;refine A4 5 ?_;refine A4 6 ?_;refine A4 7 ?_;refine A4 8 ?_;refine A4 9 ?_;refine A4 10 ?_;refine A4 11 ?_;refine A4 12 ?_;refine A4 13 ?_;refine A4 14 ?_;refine wpAnyH_ready (rs:=[15]) (by kernel_rfl) (by simp) ?_;refine AllReadyH.cons rfl (fun K hK=> ?_) AllReadyH.nil;go_simp
     go_wp2_with (go_at_call 275;refine(HBH.out _).mono ?_;rintro e w3 ⟨rfl,hg3⟩)
     refine hK.out _ _ ?_ (fun hHeld=> ?_)
     case refine_1=>exact⟨hg3.cell Q8 A7,hg3.cell Q4 A7,hg3.cell Q30 A7,hg3.cell Q31 A7,hg3.cell QE0 A7,hg3.cell QE1 A7,hg3.cell QE2 A7⟩
     try clear hK K
     try simp only[Act.put,lz]
     refine A4 16 ?_;refine A4 17 ?_;refine A4 18 ?_;refine A4 19 ?_;refine A4 20 ?_;refine wpAnyH_done (by kernel_rfl) ?_ _;go_upto_region 15 with fail
     have hg23:=A1 (B8 W2 none) hg3;have hI5:=HI3.out.keep hg23 (Nat.le_trans hbw HI3.out.fr.size);have hId:=hI5.keep (B8 w3 none) (Nat.le_trans hbw hI5.fr.size);have hBw:=HB4.out.keep (A1 hg23 (B8 w3 none)) A7;have Q0:=hBw.cell 0 _ rfl;have Q1:w3.drew.cell? ⟨b,11,none⟩=some (.slice (some ⟨wg,0,none⟩) m.code.length m.code.length):=hId.mem.blk.cell 11 _ rfl;have hpc:=HX.out.2.1;have Q2:w3.drew.cell? ⟨wg,p.1,none⟩=some (.bool (s2.wrong.getD p.1 false)):=U9 hId.mem.wrong p.1 _ (by simp[hId.snd.len2,hpc]);have Q3:=hId.mem.wrong.frozen p.1;have nB3:=I7 hBw hId.mem.wrong (by decide);have nb:=I7 hId.mem.blk hId.mem.wrong (by decide);have hbad:=hId.bad HX.out.2.1 (.inl ⟨p.2,HX.out.1,HRF.out⟩) (Nat.le_trans hbw hId.fr.size)
     have hwp:wq (a1u s2 p.1).wrong p.1=true:=by
      unfold a1u;dsimp only;rw[a3V (by rw[hId.snd.len2];exact HX.out.2.1)];simp
     have HRR:Hid (l8 w (w3.drew.setCell ⟨wg,p.1,none⟩ (.bool true)) base b eg hg sg wg g L m pa pk ca ck ha hk (a1u s2 p.1) wa2 wk3 none (K1-1)):=⟨hbad.mem,hbad.snd,j5.close (a:=p.1) (h:=p.2) hbad.gone ⟨fun x hx=>by
      unfold a0m at hx;rcases List.mem_append.1 hx with hx|hx
      ·split at hx
       ·cases hx
       ·rename_i hs0;obtain⟨d,hd,rfl⟩:=List.mem_map.1 hx;exact(HAL.out d (List.mem_filter.1 hd).1 (List.mem_filter.1 hd).2).1 hs0
      ·rw[HRF.out]at hx;simp at hx,fun _=>hwp,fun _ _=>hwp⟩,hbad.zero,hbad.mu,hbad.fr⟩
     clear hbad hI5 hId hBw hwp;refine wp_region_held_drew (S:=(fun w'=>w'.cell? ⟨B3,0,none⟩=some (.int .i64 p.1)∧w'.cell? ⟨b,11,none⟩=some (.slice (some ⟨wg,0,none⟩) m.code.length m.code.length))) (by kernel_rfl) (⟨Q0,Q1⟩) (fun hHeld=> ?_);refine A4 0 ?_;refine A4 1 ?_;refine A4 2 ?_;refine A4 3 ?_;refine A4 4 ?_;refine A4 5 ?_;refine A4 6 ?_;refine wpAnyH_ready (rs:=[7]) (by kernel_rfl) (by simp) ?_;refine AllReadyH.cons rfl (fun K hK=> ?_) AllReadyH.nil;go_simp
     refine hK.out _ _ ?_ (fun hHeld=> ?_)
     case refine_1=>exact⟨(A6 _ ⟨wg,p.1,none⟩ _).cell Q0 (fun e=>nB3 (Option.some.inj e)),(A6 _ ⟨wg,p.1,none⟩ _).cell Q1 (fun e=>nb (Option.some.inj e))⟩
     try clear hK K
     try simp only[Act.put,lz]
     refine wpAnyH_done (by kernel_rfl) ?_ _;go_wp2_with fail
     rw[Exit.noGoto_exit];go_wp2_with fail
     go_roundg (K1-1)
     case measure=>have:=HQ3.out.2.1;omega
     case rel=>exact⟨_,wa2,wk3,HRR.out,by have:=HQ3.out.2.2.1;omega⟩
   ·go_loopw [46] (fun c W=>∃j:Nat,c= .int .i64 j∧j≤m.handlers.length∧RnR w base b eg hg sg wg g L m pa pk ca ck ha hk p (K1-1) B3 j W) (fun c _=>m.handlers.length-(intOf c).toNat)
    case atStart=>exact⟨0,rfl,Nat.zero_le _,HJ0.out⟩
    case round=>
     obtain⟨j,rfl,hj,hR⟩:=hrel;by_cases hlt:j<m.handlers.length
     ·obtain⟨s,wa2,wk3,hI,hb3,hall,hob⟩:=hR;have HOB:=A0 hob;clear hob;have hbr:=Nat.le_trans hbw hI.fr.size;obtain⟨pd,hpd,-,hcd⟩:=C0.low hRh.out hI.fr hlim j hlt;obtain⟨d,hd⟩:∃d,d=m.handlers[j]:=⟨_,rfl⟩
      rw[←hd]at hcd;have hdm:d∈m.handlers:=by rw[hd];exact List.getElem_mem hlt
      have hdo:=HSN.out.2.2.2.1.hds d hdm;subst hpd;have y0:wr.cell? (pd.add (j*4))=some (.int .i64 d.from_):=hcd 0 _ rfl;have y1:wr.cell? ⟨(pd.add (j*4)).block,(pd.add (j*4)).off+1,none⟩=some (.int .i64 d.to):=by rw[B9 pd (j*4) 0];exact hcd 1 _ rfl
      have y2:wr.cell? ⟨(pd.add (j*4)).block,(pd.add (j*4)).off+2,none⟩=some (.int .i64 d.at_):=by rw[B9 pd (j*4) 1];exact hcd 2 _ rfl
      have y3:wr.cell? ⟨(pd.add (j*4)).block,(pd.add (j*4)).off+3,none⟩=some (.string d.cls):=by rw[B9 pd (j*4) 2];exact hcd 3 _ rfl
      have b0:=hb3.cell 0 _ rfl;have hB3l:=hb3.lt;have c4:=hI.mem.blk.c4;have HHI:=A0 hI;have HHB:=A0 hb3;have HHA:=A0 hall;have HD:Hid (d=m.handlers[j]∧d∈m.handlers∧d.at_<m.code.length):=⟨hd,hdm,hdo.2.2.1⟩
      have HCV:=A0 (fun W=>a6L W d p.1);clear hcd hd hdm hdo hI hb3 hall;have hbl:=HHI.out.mem.blk.lt;have hjI:(j:Int)<(m.handlers.length:Int):=by omega
      by_cases hcv:O8 d p.1=true
      ·rw[hcv]at HCV;have HCF:=A0 hcv;clear hcv;by_cases hst0:m.stack=0
       ·have hst0I:((m.stack:Int)==0)=true:=by simp[hst0]
        have HST:=A0 hst0;clear hst0;go_upto_region 10 with(go_at_call 239;refine(HCV.out _).mono ?_;rintro e w3 ⟨rfl,hg3⟩;have hgw3:=A1 (A2 wr (.cells #[.int .i64 d.from_, .int .i64 d.to, .int .i64 d.at_, .string d.cls] 202) none) hg3;have c43:=hgw3.cell c4 A7)
        have hIw:=HHI.out.keep hgw3 (Nat.le_trans hbw HHI.out.fr.size);have hBw:=HHB.out.keep (A1 hgw3 (B8 w3 none)) A7;have Q0:=hBw.cell 0 _ rfl;have hId:=hIw.keep (B8 w3 none) (Nat.le_trans hbw hIw.fr.size);have Q1:w3.drew.cell? ⟨b,11,none⟩=some (.slice (some ⟨wg,0,none⟩) m.code.length m.code.length):=hId.mem.blk.cell 11 _ rfl;have hpc:=HX.out.2.1;have hpI:(p.1:Int)<(m.code.length:Int):=by omega
        have Q2:w3.drew.cell? ⟨wg,p.1,none⟩=some (.bool (s.wrong.getD p.1 false)):=U9 hId.mem.wrong p.1 _ (by simp[hId.snd.len2,hpc]);have Q3:=hId.mem.wrong.frozen p.1;have nB3:=I7 hBw hId.mem.wrong (by decide);have nb:=I7 hId.mem.blk hId.mem.wrong (by decide);have hbad:=hId.bad HX.out.2.1 (.inr (.inl ⟨⟨d,HD.out.2.1,HCF.out⟩,⟨p.2,HX.out.1⟩,HST.out⟩)) (Nat.le_trans hbw hId.fr.size);have hBs:=hBw.keep (A6 w3.drew ⟨wg,p.1,none⟩ (.bool true)) (fun e=>nB3 (Option.some.inj e))
        have HRR:Hid (RnR w base b eg hg sg wg g L m pa pk ca ck (some pd) hk p (K1-1) B3 m.handlers.length (w3.drew.setCell ⟨wg,p.1,none⟩ (.bool true))):=⟨_,wa2,wk3,hbad,hBs,fun i hi hi' hc=>⟨fun e=>absurd HST.out e,fun _=>by
         unfold a1u;dsimp only;rw[a3V (by rw[hId.snd.len2];exact HX.out.2.1)];simp⟩,HOB.out⟩
        clear hbad hBs hIw hId hBw;refine wp_region_held_drew (S:=(fun w'=>w'.cell? ⟨B3,0,none⟩=some (.int .i64 p.1)∧w'.cell? ⟨b,11,none⟩=some (.slice (some ⟨wg,0,none⟩) m.code.length m.code.length))) (by kernel_rfl) (⟨Q0,Q1⟩) (fun hHeld=> ?_);refine A4 0 ?_;refine A4 1 ?_;refine A4 2 ?_;refine A4 3 ?_;refine A4 4 ?_;refine A4 5 ?_;refine A4 6 ?_;refine wpAnyH_ready (rs:=[7]) (by kernel_rfl) (by simp) ?_;refine AllReadyH.cons rfl (fun K hK=> ?_) AllReadyH.nil;go_simp
        refine hK.out _ _ ?_ (fun hHeld=> ?_)
        case refine_1=>exact⟨(A6 _ ⟨wg,p.1,none⟩ _).cell Q0 (fun e=>nB3 (Option.some.inj e)),(A6 _ ⟨wg,p.1,none⟩ _).cell Q1 (fun e=>nb (Option.some.inj e))⟩
        try clear hK K
        try simp only[Act.put,lz]
        refine wpAnyH_done (by kernel_rfl) ?_ _;go_wp2_with fail
        exact⟨HRR.out,a1y (Fr:=a6i b B3) rfl⟩
       ·have hst0I:((m.stack:Int)==0)=false:=by simp[hst0]
        have HST:Hid (m.stack≠0):=hst0;clear hst0;go_upto_region 11 with(go_at_call 239;refine(HCV.out _).mono ?_;rintro e w3 ⟨rfl,hg3⟩;have hgw3:=A1 (A2 wr (.cells #[.int .i64 d.from_, .int .i64 d.to, .int .i64 d.at_, .string d.cls] 202) none) hg3;have c43:=hgw3.cell c4 A7;have y23:=hg3.cell ((A3.new wr #[.int .i64 d.from_, .int .i64 d.to, .int .i64 d.at_, .string d.cls] 202).cell 2 _ rfl) A7)
        have hIw:=HHI.out.keep hgw3 (Nat.le_trans hbw HHI.out.fr.size);have hBw:=HHB.out.keep hgw3 A7;have hbw3:=Nat.le_trans hbw hIw.fr.size
        have hrd:Cf.G3 L m d.at_ 1:=(a1J L m).2 p.1 p.2 HX.out.1 (d.at_,1) (by
         unfold a0m;rw[if_neg HST.out];exact List.mem_append_left _ (List.mem_map.2 ⟨d,List.mem_filter.2 ⟨HD.out.2.1,HCF.out⟩,rfl⟩))
        have h1s:=Nat.one_le_iff_ne_zero.2 HST.out;have HR1:Hid (Calls Tryz.prog 274 #[.pointer (some ⟨b,0,none⟩), .int .i64 d.at_, .int .i64 1] w3 fun e w'=>e= .returned (.tuple #[])∧∃wa' wk',L3 w' base b eg hg sg wg g m pa pk ca ck (some pd) hk m.code.length m.stack (T7 s d.at_ 1) wa' wk'∧Fx b hg wg g m.code.length wa2 wa' w3 w'):=HRCH.out w3 s wa2 wk3 hIw.mem hIw.snd (by have h1:=a7B s;have h2:=hIw.mu;have h3:=HQ3.out.2.2.1;omega) hbw3 d.at_ 1 HD.out.2.2 h1s;have hup:=a5k hIw.snd HD.out.2.2 h1s;have hsn:=a6s hIw.snd HD.out.2.2 h1s
        have HGO:Hid (∀w4 wa4 wk4,L3 w4 base b eg hg sg wg g m pa pk ca ck (some pd) hk m.code.length m.stack (T7 s d.at_ 1) wa4 wk4→Fx b hg wg g m.code.length wa2 wa4 w3 w4→RnR w base b eg hg sg wg g L m pa pk ca ck (some pd) hk p (K1-1) B3 (j+1) w4):=fun w4 wa4 wk4 hM4 hX4=>
         ⟨_,wa4,wk4,hIw.rch hbw3 hrd HD.out.2.2 h1s hM4 hX4,by
          have h5:=hIw.mem;have hne:=hX4.block B3 hBw.lt (I7 hBw h5.blk (by decide)) (I7 hBw h5.hts (by decide)) (I7 hBw h5.wrong (by decide)) (fun a ha'=>I7 hBw (h5.rows a ha') (by decide)) HOB.out
          exact hne.trans hBw,fun i hi hi' hc=>⟨fun _=>by
           by_cases e:i=j
           ·subst e;rw[←HD.out.1];exact hsn
           ·exact hup.seen _ _ ((HHA.out i (by omega) hi' hc).1 HST.out),fun e=>absurd e HST.out⟩,fun q' e'=>by
           rcases hX4.own q' e' with⟨q2,e2,e3⟩|e2
           ·rw[←e3];exact HOB.out q2 e2
           ·have:=hBw.lt;omega⟩
        clear hIw hBw hbw3 hrd h1s hup hsn;go_wp2_with (go_at_call 274;refine HR1.out.mono ?_;rintro e w4 ⟨rfl,wa4,wk4,hM4,hX4⟩)
        have HN:=HGO.out w4 wa4 wk4 hM4 hX4;go_roundw
        case rel=>exact⟨j+1,by go_num,by omega,HN⟩
        case measure=>simp[intOf];omega
      ·have hcv':O8 d p.1=false:=by simpa using hcv
       rw[hcv']at HCV;have HCF:=A0 hcv';clear hcv hcv';go_wp2_with (go_at_call 239;refine(HCV.out _).mono ?_;rintro e w3 ⟨rfl,hg3⟩)
       have hgw3:=A1 (A2 wr (.cells #[.int .i64 d.from_, .int .i64 d.to, .int .i64 d.at_, .string d.cls] 202) none) hg3
       have HN:Hid (RnR w base b eg hg sg wg g L m pa pk ca ck (some pd) hk p (K1-1) B3 (j+1) w3):=⟨s,wa2,wk3,HHI.out.keep hgw3 (Nat.le_trans hbw HHI.out.fr.size),HHB.out.keep hgw3 A7,fun i hi hi' hc=>by
        by_cases e:i=j
        ·subst e;rw[←HD.out.1,HCF.out]at hc;cases hc
        ·exact HHA.out i (by omega) hi' hc,HOB.out⟩
       go_roundw
       case rel=>exact⟨j+1,by go_num,by omega,HN.out⟩
       case measure=>simp[intOf];omega
     ·have hjn:j=m.handlers.length:=by omega
      subst hjn;have HRR:=A0 hR;clear hR;go_wp2_with fail
      exact⟨HRR.out,a1y (Fr:=a6i b B3) rfl⟩
set_option maxRecDepth 100000 in
set_option maxHeartbeats 4000000 in
theorem b5L(w:World)(n:Nat)(hn:n≤4000000000):Calls Tryz.prog 318 #[.int .u64 1, .int .u64 n] w fun e w'=>e= .returned (.tuple #[.int .u64 0, .int .u64 n])∧w'=w:=by
 have h1:bits .and .u64 1 4294967295=1:=by kernel_rfl
 have h2:bits .and .u64 (n:Int) 4294967295=(n:Int):=by
  rw[Mul64.maskN n (by omega)];congr 1;omega
 have h3:(n:Int)/4294967296=0:=by omega
 have h4:=Mul64.wrapN n (by omega);have h5:IntKind.u64.wrap 0=0:=by kernel_rfl
 have h6:bits .and .u64 0 4294967295=0:=by kernel_rfl
 go_enter Tryz.func318,Tryz.ntmps318;go_wp2_with fail
 go_ret2
 exact⟨rfl,rfl⟩
set_option maxRecDepth 100000 in
set_option maxHeartbeats 4000000 in
theorem b0T(w:World)(n:Nat)(hn:n≤4000000000):Calls Tryz.prog 265 #[.int .u64 1, .int .u64 n] w fun e w'=>e= .returned (.tuple #[.int .u64 0, .int .u64 n])∧w'=w:=by
 have c64:=b5L w n hn;go_enter Tryz.func265,Tryz.ntmps265;go_wp2_with (go_at_call 318;refine c64.mono ?_;rintro e w' ⟨rfl,hw⟩;rw[hw])
 go_ret2
 exact⟨rfl,rfl⟩
open Go.RowKit Cf
variable {P:Program}
theorem b3m(w:World)(dT sT ty elem:TypeId)(g o dLen dCap:Nat)(a:Addr)(sLen sCap:Nat)(cur:Array Value)(t:TypeId)(cs:List Value)(sz:Nat)
 (hu:P.underlying dT=some (.slice elem)) (hs:(P.info? elem).map (·.size)=some sz)
 (hg:w.heap[g]? =some (.cells cur t (0,0))) (hn:cs.length=Nat.min sLen dLen*sz)
 (hsrc:∀j v,cs[j]? =some v→w.cell? (a.add j)=some v) (hfit:o+cs.length≤cur.size) (h1:∀v∈cs,v.oneCell'=true):
 (Builtin.copy_ #[dT,sT] ty #[.slice (some ⟨g,o,none⟩) dLen dCap, .slice (some a) sLen sCap]).run P w=
   .ok (goInt (Nat.min sLen dLen)) (w.setRow g (cur.toList.take o++cs++cur.toList.drop (o+cs.length)).toArray):=by
 have hl:=run_loadCells_list (P:=P) w a cs hsrc;have hst:=run_storeCells_at P g o t cs 0 cur w hg (by simpa using hfit) h1;cases hq:P.info? elem with
 |none=>simp[hq]at hs
 |some i=>
  have hi:i.size=sz:=by simpa[hq]using hs
  simp[Builtin.copy_,run_underlying hu,Builtin.lenOf,Builtin.firstCells,sizeOf,typeInfo,hq,hi,←hn,hl,hst]
variable {w:World}
variable {o:Oper}
variable {a:Act}
variable {Q:Exit→Act→World→Prop}
theorem a6F{K:Act→World→Prop}(d s:Operand)(dT sT:TypeId)
 (ho:o.op= .call {callee:= .builtin .copy,args:= #[d,s],argTypes:= #[dT,sT]}) (elem:TypeId) (sz:Nat) (hu:P.underlying dT=some (.slice elem)) (hsz:(P.info? elem).map (·.size)=some sz)
 (g off:Nat) (sp:Addr) (dLen dCap sLen sCap:Nat) (hd:a.eval d= .slice (some ⟨g,off,none⟩) dLen dCap) (hs:a.eval s= .slice (some sp) sLen sCap)
 (cur:List Value) (t:TypeId) (hg:Hid (w.heap[g]? =some (.cells cur.toArray t (0,0)))) (cs:List Value) (m:Nat) (hm:m=Nat.min sLen dLen) (hn:cs.length=m*sz)
 (hsrc:∀j v,cs[j]? =some v→w.cell? (sp.add j)=some v)
 (hfit:off+cs.length≤cur.length) (h1:∀v∈cs,v.oneCell'=true)
 (h:∀w',Hid (w'.heap[g]? =some (.cells (splice cur off cs).toArray t (0,0)))→w.grownBy w' (some g)→K (a.put o.dst (goInt m)) w'):
 o.wp P a w K Q:=by
 subst hm;have hrun:=b3m (P:=P) w dT sT o.type elem g off dLen dCap sp sLen sCap cur.toArray t cs sz hu hsz hg.out hn hsrc (by simpa using hfit) h1;unfold Oper.wp;simp only[execOp,ho,resolve,invoke,builtin,Sem.run_bind,Sem.run_pure,Result.andThen_ok,List.map_toArray,List.map_cons,List.map_nil,hd,hs,hrun];refine h _ (show _=_ by simpa[splice]using setRow_heap w g _ _ t _ hg.out) ⟨rfl,rfl,rfl,by simp[World.setRow],fun k _ hk=>setRow_other w g k _ (fun e=>hk (by rw[e]))⟩
theorem a8l{ops:Array Oper}{rest:List Oper}(hgd:o.guard=none)(d s:Operand)(dT sT:TypeId)
 (ho:o.op= .call {callee:= .builtin .copy,args:= #[d,s],argTypes:= #[dT,sT]}) (elem:TypeId) (sz:Nat) (hu:P.underlying dT=some (.slice elem)) (hsz:(P.info? elem).map (·.size)=some sz)
 (g off:Nat) (sp:Addr) (dLen dCap sLen sCap:Nat) (hd:a.eval d= .slice (some ⟨g,off,none⟩) dLen dCap) (hs:a.eval s= .slice (some sp) sLen sCap)
 (cur:List Value) (t:TypeId) (hg:Hid (w.heap[g]? =some (.cells cur.toArray t (0,0)))) (cs:List Value) (m:Nat) (hm:m=Nat.min sLen dLen) (hn:cs.length=m*sz)
 (hsrc:∀j v,cs[j]? =some v→w.cell? (sp.add j)=some v)
 (hfit:off+cs.length≤cur.length) (h1:∀v∈cs,v.oneCell'=true)
 (h:∀w',Hid (w'.heap[g]? =some (.cells (splice cur off cs).toArray t (0,0)))→w.grownBy w' (some g)→wpList P ops Q rest (a.put o.dst (goInt m)) w'):
 wpList P ops Q (o::rest) a w:=
 wpList_plain hgd fun _ hK=>a6F d s dT sT ho elem sz hu hsz g off sp dLen dCap sLen sCap hd hs cur t hg cs m hm hn hsrc hfit h1 fun w' h2 h3=>hK _ _ (h w' h2 h3)
def D7(n:Nat)(c:List Value):List Value:=(List.replicate n c).flatten
theorem a0g(n:Nat)(c:List Value):(D7 n c).length=n*c.length:=by simp[D7]
theorem a7x(m n:Nat)(c:List Value):D7 (m+n) c=D7 m c++D7 n c:=by
 unfold D7;rw[←List.replicate_append_replicate,List.flatten_append]
theorem a7w(c:List Value):D7 1 c=c:=by simp[D7]
theorem a9Z(c:List Value):D7 0 c=[]:=by simp[D7]
variable {base g m n sz:Nat}
theorem b0a(c:List Value)(h:m≤n):(D7 n c).take (m*c.length)=D7 m c:=by
 obtain⟨d,rfl⟩:∃d,n=m+d:=⟨n-m,by omega⟩
 rw[a7x,List.take_append_of_le_length (by rw[a0g];exact Nat.le_refl _),List.take_of_length_le (by rw[a0g];exact Nat.le_refl _)]
variable {L c xs:List Value}
theorem a5O{v:Value}(h:v∈D7 n c):v∈c:=by
 unfold D7 at h;obtain⟨l,hl,hv⟩:=List.mem_flatten.1 h;rw[List.eq_of_mem_replicate hl]at hv;exact hv
theorem a5m{k:Nat}(h:L.take (k*c.length)=D7 k c)(hl:(k+m)*c.length≤L.length):
 (splice L (k*c.length) (D7 m c)).length=L.length∧(splice L (k*c.length) (D7 m c)).take ((k+m)*c.length)=D7 (k+m) c:=by
 rw[Nat.add_mul]at hl;refine⟨length_splice _ _ _ (by rw[a0g];exact hl),?_⟩;unfold splice;rw[h,←List.append_assoc,←a7x,List.take_append_of_le_length (by rw[a0g];exact Nat.le_refl _),List.take_of_length_le (by rw[a0g];exact Nat.le_refl _)]
theorem b3o{α:Type}(enc:α→List Value)(n:Nat)(x:α):D7 n (enc x)=(List.replicate n x).flatMap enc:=by
 simp[D7,List.flatMap]
theorem b9p:(Tryz.prog.info? 3).map (fun i=>(i.zero,i.size,i.bytes))=some (some (.int .i64 0),1,8):=by kernel_rfl
structure RpA(w W:World)(e:TypeId)(g n k sz:Nat)(c L:List Value):Prop where
 row:W.heap[g]? =some (.cells L.toArray e (0,0))
 len:L.length=n*sz
 done:L.take (k*sz)=D7 k c
 gb:w.grownBy W none
variable {e:TypeId}
theorem b0o(h:w.ownsRow base e sz (.slice (some ⟨g,0,none⟩) n n) n xs):∃cur:List Value,w.heap[g]? =some (.cells cur.toArray e (0,0))∧cur.length=n*sz:=by
 rcases h.2 with⟨hv,_⟩|⟨g',cap,cur,hv,_,hg,_,_,hs,_⟩
 ·cases hv
 ·cases hv;exact⟨cur.toList,by simpa using hg,by simpa using hs⟩
theorem a9Y(hg:w.heap[g]? =some (.cells L.toArray e (0,0)))(hl:L.length=n*sz)(ht:L.take (n*sz)=xs)(hb:base≤g)(hn:n≤maxLen):w.ownsRow base e sz (.slice (some ⟨g,0,none⟩) n n) n xs:=by
 refine⟨?_, .inr ⟨g,n,L.toArray,rfl,hb,hg,Nat.le_refl _,hn,by simpa using hl,by simpa using ht⟩⟩;rw[←ht,List.length_take,hl];omega
set_option maxRecDepth 100000 in
set_option maxHeartbeats 4000000 in
theorem b8a(w:World)(sp:Addr)(n q0:Nat)(c:List Value)(hc:c.length=1)(hsrc:∀j v,c[j]? =some v→w.cell? (sp.add j)=some v)(hone:∀v∈c,v.oneCell'=true)(hn:n≤4000000000):
 Calls Tryz.prog 196 #[.slice (some sp) 1 q0, .int .i64 n] w fun e w'=>∃g,e= .returned (.slice (some ⟨g,0,none⟩) n n)∧w'.ownsRow w.heap.size 3 1 (.slice (some ⟨g,0,none⟩) n n) n (D7 n c)∧w.grownBy w' none:=by
 have hs1:w.heap.size≤w.heap.size:=Nat.le_refl _;obtain⟨inf,ii0,iz0,iz1,iz2⟩:=info_parts b9p;have e1:=Mul64.wrapN n (by omega);have e2:IntKind.i64.wrap (n:Int)=(n:Int):=by rw[IntKind.wrap_i64];omega
 have e3:decide ((9223372036854775807:Int)<(n:Int))=false:=decide_eq_false (by omega);have e4:decide ((n:Int)<0)=false:=decide_eq_false (by omega);have e5:IntKind.u64.wrap 1=1:=by kernel_rfl
 have HB:Hid (∀i,inf.bytes*n≤i→n*8≤i):=fun i h=>by rw[iz2]at h;rw[Nat.mul_comm];exact h
 go_enter Tryz.func196,Tryz.ntmps196;go_upto_region 6 with(go_at_call 265;go_loud (refine(b0T w n hn).mono ?_;rintro e w' ⟨rfl,hw⟩;rw[hw]))
 go_upto_region 7 with(at_make;go_loud (refine wpList_make_full _ rfl _ _ 53 rfl w.heap.size 3 inf _ 1 Tryz.underlying53 ii0 iz0 iz1 .i64 .i64 (n:Int) (n:Int) n rfl rfl rfl rfl (by rw[iz2];omega) (by unfold maxLen;omega) hs1 ?_;intro w1 ho1 hg1;dsimp only))
 have hsp:sp.block<w.heap.size:=by
  cases c with
  |nil=>simp at hc
  |cons v t=>exact World.block_lt_of_cell? w _ (by have:=hsrc 0 v rfl;exact this)
 have hsrc1:=fun j v h=>hg1.cell (hsrc j v h) (by simp)
 obtain⟨cur,hcur,hcl⟩:=b0o ho1;have HR1:=A0 hcur;have HG1:=A0 hg1;obtain⟨m0,hm0⟩:∃m0,m0=Nat.min 1 n:=⟨_,rfl⟩
 have HM0:=A0 hm0
 have HS1:Hid (∀j v,(D7 m0 c)[j]? =some v→w1.cell? (sp.add j)=some v):=fun j v h=>by
  rw[HM0.out]at h;by_cases h0:n=0
  ·subst h0;rw[show Nat.min 1 0=0 from rfl,a9Z]at h;cases h
  ·rw[show Nat.min 1 n=1 by show min 1 n=1;omega,a7w]at h;exact hsrc1 j v h
 have HL1:Hid (0+(D7 m0 c).length≤cur.length):=by
  show 0+(D7 m0 c).length≤cur.length;rw[a0g,hcl,hc,HM0.out,Nat.zero_add];exact Nat.mul_le_mul_right _ (Nat.min_le_right _ _)
 have HO1:Hid (∀v∈D7 m0 c,v.oneCell'=true):=fun v h=>hone v (a5O h)
 have HN1:Hid ((D7 m0 c).length=m0*1):=by show _=_;rw[a0g,hc]
 have hm1:m0≤n:=by rw[hm0];exact Nat.min_le_right _ _
 have HM1:Hid (0<m0∨n=0):=by
  show _∨_;rw[hm0];by_cases h0:n=0
  ·exact .inr h0
  ·exact .inl (by show 0<min 1 n;omega)
 clear hm0 hcur ho1 hg1 hsrc1;have HCL:=A0 hcl;clear hcl;go_wp2_with (refine a8l rfl (.tmp 31) (.tmp 32) 53 53 rfl 3 1 Tryz.underlying53 (by kernel_rfl) w.heap.size 0 sp n n 1 q0 rfl rfl cur 3 HR1 (D7 m0 c) m0 HM0.out HN1.out HS1.out HL1.out HO1.out ?_;intro w2 HR2 hg2;dsimp only[goInt])
 have HRP:Hid (RpA w w2 3 w.heap.size n m0 1 c (splice cur 0 (D7 m0 c))):=by
  have h:=a5m (L:=cur) (k:=0) (m:=m0) (c:=c) (by rw[Nat.zero_mul];simp[D7]) (by rw[Nat.zero_add,hc,HCL.out];exact Nat.mul_le_mul_right _ hm1);rw[Nat.zero_mul,Nat.zero_add,hc]at h;exact⟨HR2.out,h.1.trans HCL.out,h.2,C7 HG1.out hg2 (fun k e=> .inl (by cases e;exact Nat.le_refl _))⟩
 clear hg2;go_loopg [8] (n-m0) (fun gk v W=>∃(k:Nat) (L:List Value),v= .int .i64 k∧gk+k=n∧(0<k∨n=0)∧RpA w W 3 w.heap.size n k 1 c L)
 case atStart=>exact⟨m0,_,rfl,by omega,HM1.out,HRP.out⟩
 case round=>
  obtain⟨k,L,rfl,hk,hk0,hR⟩:=hrel;have HK0:=A0 hk0;have HR:=A0 hR;clear hk0 hR;by_cases hlt:k<n
  ·obtain⟨m,hm⟩:∃m,m=Nat.min k (n-k):=⟨_,rfl⟩
   have HM:=A0 hm;have hmk:m≤k:=by rw[hm];exact Nat.min_le_left _ _
   have hmn:k+m≤n:=by have:m≤n-k:=by rw[hm];exact Nat.min_le_right _ _
                      omega
   have hmp:0<m:=by
    rw[hm];rcases HK0.out with h|h
    ·show 0<min k (n-k);omega
    ·omega
   clear hm;obtain⟨k2,hk2⟩:∃k2,k2=k+m:=⟨_,rfl⟩
   have HK2:=A0 hk2;have HMP:Hid (0<m∧k+m≤n∧m≤k):=⟨hmp,hmn,hmk⟩
   have e6:IntKind.i64.wrap ((k:Int)+(m:Int))=(k2:Int):=by rw[IntKind.wrap_i64,hk2];omega
   clear hk2 hmp hmn hmk;have hkn:k≤n:=by omega
   have hkn2:¬k=n:=by omega
   have d1:decide ((k:Int)<(n:Int))=true:=decide_eq_true (by omega)
   have HL:Hid (k*1+(D7 m c).length≤L.length):=by
    show _≤_;rw[a0g,hc,HR.out.len,←Nat.add_mul];exact Nat.mul_le_mul_right _ HMP.out.2.1
   have HN:Hid ((D7 m c).length=m*1):=by show _=_;rw[a0g,hc]
   have HO:Hid (∀v∈D7 m c,v.oneCell'=true):=fun v h=>hone v (a5O h)
   have HS:Hid (∀j v,(D7 m c)[j]? =some v→wr.drew.cell? ((⟨w.heap.size,0,none⟩:Addr).add j)=some v):=fun j v h=>by
    have h2:L[j]? =some v:=by
     have h3:D7 m c=L.take (m*1):=by
      have h4:=b0a (m:=m) (n:=k) c HMP.out.2.2;rw[←HR.out.done,hc]at h4;rw[←h4,List.take_take,Nat.min_eq_left (Nat.mul_le_mul_right _ HMP.out.2.2)]
     rw[h3,List.getElem?_take]at h;split at h
     ·exact h
     ·cases h
    show wr.cell? _=_;rcases Nat.eq_zero_or_pos j with e|e
    ·subst e;have:=HR.out.row;simp[World.cell?,this,Addr.add_lit,h2]
    ·have:=HR.out.row;simp[World.cell?,this,Addr.add_lit,h2]
   have hkn3:¬n=k:=by omega
   have HKK:Hid (k=k*1):=by show _=_;omega
   have HR2':Hid (wr.drew.heap[w.heap.size]? =some (.cells L.toArray 3 (0,0))):=HR.out.row;go_upto_region 9 with fail
   refine wp_region_held_drew (S:=(fun w'=>True)) (by kernel_rfl) ?s1 (fun hHeld=> ?t1)
   case s1=>trivial
   refine A4 0 ?_;refine A4 1 ?_;refine A4 2 ?_;refine A4 3 ?_;refine A4 4 ?_;refine A4 5 ?_;refine A4 6 ?_;refine wpAnyH_ready (rs:=[7]) (by kernel_rfl) (by simp) ?_;refine AllReadyH.cons rfl (fun K hK=> ?_) AllReadyH.nil;refine a6F (.tmp 41) (.tmp 44) 53 53 rfl 3 1 Tryz.underlying53 (by kernel_rfl) w.heap.size (k) ⟨w.heap.size,0,none⟩ (n-k) (n-k) k n rfl rfl L 3 HR2'.out (D7 m c) m HM.out HN.out HS.out (by rw[HKK.out];exact HL.out) HO.out ?_;intro w3 HR3 hg3;dsimp only[goInt];refine hK.out _ _ ?_ (fun hHeld=> ?_)
   case refine_1=>trivial
   try clear hK K
   try simp only[Act.put,lz]
   refine A4 8 ?_;refine A4 9 ?_;refine wpAnyH_done (by kernel_rfl) ?_ _
   have HRN:Hid (RpA w w3 3 w.heap.size n k2 1 c (splice L (k) (D7 m c))):=by
    have h:=a5m (L:=L) (k:=k) (m:=m) (c:=c) (by rw[hc];exact HR.out.done) (by rw[hc,HR.out.len];exact Nat.mul_le_mul_right _ HMP.out.2.1);rw[hc,←HKK.out,←HK2.out]at h;exact⟨HR3.out,h.1.trans HR.out.len,h.2,C7 HR.out.gb (C7 (B8 _ _) hg3 (fun k e=> .inr e.symm)) (fun k e=> .inl (by cases e;exact Nat.le_refl _))⟩
   clear hg3;go_wp2_with fail
   go_roundg (n-k2)
   case rel=>exact⟨k2,_,rfl,by have:=HK2.out;have:=HMP.out;omega, .inl (by have:=HK2.out;have:=HMP.out;omega),HRN.out⟩
   case measure=>have:=HK2.out;have:=HMP.out;omega
  ·have hk3:k=n:=by omega
   subst hk3;have d1:decide ((k:Int)<(k:Int))=false:=decide_eq_false (by omega);go_wp2_with fail
   go_ret;exact⟨w.heap.size,rfl,a9Y HR.out.row HR.out.len HR.out.done hs1 (by unfold maxLen;omega),HR.out.gb⟩
set_option maxRecDepth 100000 in
set_option maxHeartbeats 4000000 in
theorem b8T(w:World)(sp:Addr)(n q0:Nat)(c:List Value)(hc:c.length=2)(hsrc:∀j v,c[j]? =some v→w.cell? (sp.add j)=some v)(hone:∀v∈c,v.oneCell'=true)(hn:n≤4000000000):
 Calls Tryz.prog 191 #[.slice (some sp) 1 q0, .int .i64 n] w fun e w'=>∃g,e= .returned (.slice (some ⟨g,0,none⟩) n n)∧w'.ownsRow w.heap.size 98 2 (.slice (some ⟨g,0,none⟩) n n) n (D7 n c)∧w.grownBy w' none:=by
 have hs1:w.heap.size≤w.heap.size:=Nat.le_refl _;obtain⟨inf,ii0,iz0,iz1,iz2⟩:=info_parts a4K;have e1:=Mul64.wrapN n (by omega);have e2:IntKind.i64.wrap (n:Int)=(n:Int):=by rw[IntKind.wrap_i64];omega
 have e3:decide ((9223372036854775807:Int)<(n:Int))=false:=decide_eq_false (by omega);have e4:decide ((n:Int)<0)=false:=decide_eq_false (by omega);have e5:IntKind.u64.wrap 1=1:=by kernel_rfl
 have HB:Hid (∀i,inf.bytes*n≤i→n*24≤i):=fun i h=>by rw[iz2]at h;rw[Nat.mul_comm];exact h
 go_enter Tryz.func191,Tryz.ntmps191;go_upto_region 6 with(go_at_call 265;go_loud (refine(b0T w n hn).mono ?_;rintro e w' ⟨rfl,hw⟩;rw[hw]))
 go_upto_region 7 with(at_make;go_loud (refine wpList_make_full _ rfl _ _ 96 rfl w.heap.size 98 inf _ 2 Tryz.underlying96 ii0 iz0 iz1 .i64 .i64 (n:Int) (n:Int) n rfl rfl rfl rfl (by rw[iz2];omega) (by unfold maxLen;omega) hs1 ?_;intro w1 ho1 hg1;dsimp only))
 have hsp:sp.block<w.heap.size:=by
  cases c with
  |nil=>simp at hc
  |cons v t=>exact World.block_lt_of_cell? w _ (by have:=hsrc 0 v rfl;exact this)
 have hsrc1:=fun j v h=>hg1.cell (hsrc j v h) (by simp)
 obtain⟨cur,hcur,hcl⟩:=b0o ho1;have HR1:=A0 hcur;have HG1:=A0 hg1;obtain⟨m0,hm0⟩:∃m0,m0=Nat.min 1 n:=⟨_,rfl⟩
 have HM0:=A0 hm0
 have HS1:Hid (∀j v,(D7 m0 c)[j]? =some v→w1.cell? (sp.add j)=some v):=fun j v h=>by
  rw[HM0.out]at h;by_cases h0:n=0
  ·subst h0;rw[show Nat.min 1 0=0 from rfl,a9Z]at h;cases h
  ·rw[show Nat.min 1 n=1 by show min 1 n=1;omega,a7w]at h;exact hsrc1 j v h
 have HL1:Hid (0+(D7 m0 c).length≤cur.length):=by
  show 0+(D7 m0 c).length≤cur.length;rw[a0g,hcl,hc,HM0.out,Nat.zero_add];exact Nat.mul_le_mul_right _ (Nat.min_le_right _ _)
 have HO1:Hid (∀v∈D7 m0 c,v.oneCell'=true):=fun v h=>hone v (a5O h)
 have HN1:Hid ((D7 m0 c).length=m0*2):=by show _=_;rw[a0g,hc]
 have hm1:m0≤n:=by rw[hm0];exact Nat.min_le_right _ _
 have HM1:Hid (0<m0∨n=0):=by
  show _∨_;rw[hm0];by_cases h0:n=0
  ·exact .inr h0
  ·exact .inl (by show 0<min 1 n;omega)
 clear hm0 hcur ho1 hg1 hsrc1;have HCL:=A0 hcl;clear hcl;go_wp2_with (refine a8l rfl (.tmp 31) (.tmp 32) 96 96 rfl 98 2 Tryz.underlying96 (by kernel_rfl) w.heap.size 0 sp n n 1 q0 rfl rfl cur 98 HR1 (D7 m0 c) m0 HM0.out HN1.out HS1.out HL1.out HO1.out ?_;intro w2 HR2 hg2;dsimp only[goInt])
 have HRP:Hid (RpA w w2 98 w.heap.size n m0 2 c (splice cur 0 (D7 m0 c))):=by
  have h:=a5m (L:=cur) (k:=0) (m:=m0) (c:=c) (by rw[Nat.zero_mul];simp[D7]) (by rw[Nat.zero_add,hc,HCL.out];exact Nat.mul_le_mul_right _ hm1);rw[Nat.zero_mul,Nat.zero_add,hc]at h;exact⟨HR2.out,h.1.trans HCL.out,h.2,C7 HG1.out hg2 (fun k e=> .inl (by cases e;exact Nat.le_refl _))⟩
 clear hg2;go_loopg [8] (n-m0) (fun gk v W=>∃(k:Nat) (L:List Value),v= .int .i64 k∧gk+k=n∧(0<k∨n=0)∧RpA w W 98 w.heap.size n k 2 c L)
 case atStart=>exact⟨m0,_,rfl,by omega,HM1.out,HRP.out⟩
 case round=>
  obtain⟨k,L,rfl,hk,hk0,hR⟩:=hrel;have HK0:=A0 hk0;have HR:=A0 hR;clear hk0 hR;by_cases hlt:k<n
  ·obtain⟨m,hm⟩:∃m,m=Nat.min k (n-k):=⟨_,rfl⟩
   have HM:=A0 hm;have hmk:m≤k:=by rw[hm];exact Nat.min_le_left _ _
   have hmn:k+m≤n:=by have:m≤n-k:=by rw[hm];exact Nat.min_le_right _ _
                      omega
   have hmp:0<m:=by
    rw[hm];rcases HK0.out with h|h
    ·show 0<min k (n-k);omega
    ·omega
   clear hm;obtain⟨k2,hk2⟩:∃k2,k2=k+m:=⟨_,rfl⟩
   have HK2:=A0 hk2;have HMP:Hid (0<m∧k+m≤n∧m≤k):=⟨hmp,hmn,hmk⟩
   have e6:IntKind.i64.wrap ((k:Int)+(m:Int))=(k2:Int):=by rw[IntKind.wrap_i64,hk2];omega
   clear hk2 hmp hmn hmk;have hkn:k≤n:=by omega
   have hkn2:¬k=n:=by omega
   have d1:decide ((k:Int)<(n:Int))=true:=decide_eq_true (by omega)
   have HL:Hid (k*2+(D7 m c).length≤L.length):=by
    show _≤_;rw[a0g,hc,HR.out.len,←Nat.add_mul];exact Nat.mul_le_mul_right _ HMP.out.2.1
   have HN:Hid ((D7 m c).length=m*2):=by show _=_;rw[a0g,hc]
   have HO:Hid (∀v∈D7 m c,v.oneCell'=true):=fun v h=>hone v (a5O h)
   have HS:Hid (∀j v,(D7 m c)[j]? =some v→wr.drew.cell? ((⟨w.heap.size,0,none⟩:Addr).add j)=some v):=fun j v h=>by
    have h2:L[j]? =some v:=by
     have h3:D7 m c=L.take (m*2):=by
      have h4:=b0a (m:=m) (n:=k) c HMP.out.2.2;rw[←HR.out.done,hc]at h4;rw[←h4,List.take_take,Nat.min_eq_left (Nat.mul_le_mul_right _ HMP.out.2.2)]
     rw[h3,List.getElem?_take]at h;split at h
     ·exact h
     ·cases h
    show wr.cell? _=_;rcases Nat.eq_zero_or_pos j with e|e
    ·subst e;have:=HR.out.row;simp[World.cell?,this,Addr.add_lit,h2]
    ·have:=HR.out.row;simp[World.cell?,this,Addr.add_lit,h2]
   have hkn3:¬n=k:=by omega
   have HKK:Hid (k*2=k*2):=by show _=_;omega
   have HR2':Hid (wr.drew.heap[w.heap.size]? =some (.cells L.toArray 98 (0,0))):=HR.out.row;go_upto_region 9 with fail
   refine wp_region_held_drew (S:=(fun w'=>True)) (by kernel_rfl) ?s11 (fun hHeld=> ?t11)
   case s11=>trivial
   refine A4 0 ?_;refine A4 1 ?_;refine A4 2 ?_;refine A4 3 ?_;refine A4 4 ?_;refine A4 5 ?_;refine A4 6 ?_;refine wpAnyH_ready (rs:=[7]) (by kernel_rfl) (by simp) ?_;refine AllReadyH.cons rfl (fun K hK=> ?_) AllReadyH.nil;refine a6F (.tmp 41) (.tmp 44) 96 96 rfl 98 2 Tryz.underlying96 (by kernel_rfl) w.heap.size (k*2) ⟨w.heap.size,0,none⟩ (n-k) (n-k) k n rfl rfl L 98 HR2'.out (D7 m c) m HM.out HN.out HS.out (by rw[HKK.out];exact HL.out) HO.out ?_;intro w3 HR3 hg3;dsimp only[goInt];refine hK.out _ _ ?_ (fun hHeld=> ?_)
   case refine_1=>trivial
   try clear hK K
   try simp only[Act.put,lz]
   refine A4 8 ?_;refine A4 9 ?_;refine wpAnyH_done (by kernel_rfl) ?_ _
   have HRN:Hid (RpA w w3 98 w.heap.size n k2 2 c (splice L (k*2) (D7 m c))):=by
    have h:=a5m (L:=L) (k:=k) (m:=m) (c:=c) (by rw[hc];exact HR.out.done) (by rw[hc,HR.out.len];exact Nat.mul_le_mul_right _ HMP.out.2.1);rw[hc,←HKK.out,←HK2.out]at h;exact⟨HR3.out,h.1.trans HR.out.len,h.2,C7 HR.out.gb (C7 (B8 _ _) hg3 (fun k e=> .inr e.symm)) (fun k e=> .inl (by cases e;exact Nat.le_refl _))⟩
   clear hg3;go_wp2_with fail
   go_roundg (n-k2)
   case rel=>exact⟨k2,_,rfl,by have:=HK2.out;have:=HMP.out;omega, .inl (by have:=HK2.out;have:=HMP.out;omega),HRN.out⟩
   case measure=>have:=HK2.out;have:=HMP.out;omega
  ·have hk3:k=n:=by omega
   subst hk3;have d1:decide ((k:Int)<(k:Int))=false:=decide_eq_false (by omega);go_wp2_with fail
   go_ret;exact⟨w.heap.size,rfl,a9Y HR.out.row HR.out.len HR.out.done hs1 (by unfold maxLen;omega),HR.out.gb⟩
section
variable{P:Program}{ops:Array Oper}{Q:Exit→Act→World→Prop}{md:Region.Mode}{S:World→Prop}
def c0F(P:Program)(ops:Array Oper)(Q:Exit→Act→World→Prop)(S:World→Prop)(I:Nat→Array Bool→Act→World→Prop)(f:Nat)(l:Array Bool)(a:Act)(w:World)(i:Nat):Prop:=
 ∃o,ops[i]? =some o∧∀K':Act→World→Prop,Hid (∀a' w',S w'→I f (l.setIfInBounds i true) a' w'→K' a' w')→if Region.wanted o (yielded ops a.tmps)=true then Oper.wp P o a w K' Q else K' (a.put o.dst undef) w
theorem b3W(I:Nat→Array Bool→Act→World→Prop)
 (h:∀f l a w,I f l a w→wpAnyH P md ops Q S f l a w∨(∃f' rs,f=f'+1∧Region.ready md ops l=rs∧rs≠ []∧∀i∈rs,c0F P ops Q S I f' l a w i)):
 ∀f l a w,I f l a w→wpAnyH P md ops Q S f l a w:=by
 intro f;induction f with
 |zero=>
  intro l a w hI;rcases h 0 l a w hI with h1|⟨f',rs,h1,_⟩
  ·exact h1
  ·omega
 |succ f ih=>
  intro l a w hI;rcases h _ l a w hI with h1|⟨f',rs,h1,h2,h3,h4⟩
  ·exact h1
  ·cases h1;refine⟨fun h5=>absurd (h2.symm.trans h5) h3,fun i hi=> ?_⟩;rw[h2]at hi;obtain⟨o,ho,h5⟩:=h4 i hi;exact wpOp_step ho fun K' hK=>h5 K' (fun a' w' hS hI'=>hK a' w' ⟨hS,ih _ a' w' hI'⟩)
theorem a8F{F:Type}(L:F→Array Bool)(n:F→Nat)(I:F→Act→World→Prop)(dn:F→Bool)(R:F→Nat→Prop)
 (hr:∀c,dn c=false→Region.ready md ops (L c)≠ []∧0<n c∧∀i∈Region.ready md ops (L c),R c i)
 (hd:∀c a w,I c a w→dn c=true→wpAnyH P md ops Q S (n c) (L c) a w)
 (hs:∀c a w,I c a w→dn c=false→∀i,R c i→∃o,ops[i]? =some o∧∀K':Act→World→Prop,Hid (∀c' a' w',S w'→I c' a' w'→n c'+1=n c→L c'=(L c).setIfInBounds i true→K' a' w')→if Region.wanted o (yielded ops a.tmps)=true then Oper.wp P o a w K' Q else K' (a.put o.dst undef) w):
 ∀c a w,I c a w→∀f l,f=n c→l=L c→wpAnyH P md ops Q S f l a w:=by
 intro c a w hI f l hf hl;refine b3W (fun f l a w=>∃c,f=n c∧l=L c∧I c a w) ?_ _ _ _ _ ⟨c,hf,hl,hI⟩;clear hf hl hI;rintro f l a w ⟨c,rfl,rfl,hI⟩;by_cases h:dn c=true
 ·exact .inl (hd c a w hI h)
 ·have h:=Bool.eq_false_iff.2 h;obtain⟨h1,h2,h3⟩:=hr c h;refine .inr ⟨n c-1,_,by omega,rfl,h1,fun i hi=> ?_⟩;obtain⟨o,ho,h4⟩:=hs c a w hI h i (h3 i hi);exact⟨o,ho,fun K' hK=>h4 K' fun c' a' w' hS hI' hn hl=>hK a' w' hS ⟨c',by omega,hl.symm,hI'⟩⟩
end
theorem a5h{P:Program}(w:World){o:Oper}{a:Act}{K:Act→World→Prop}{Q:Exit→Act→World→Prop}
 (l c:Operand) (t:TypeId) (hop:o.op=Op.makeSlice t l c)
 (base:Nat) (e:TypeId) (i:TypeInfo) (z:Value) (size:Nat) (h1:P.underlying t=some (.slice e)) (h2:P.info? e=some i) (h3:i.zero=some z) (h4:i.size=size)
 (kl kc:IntKind) (n:Nat) (hl:a.eval l= .int kl (n:Int)) (hc:a.eval c= .int kc (n:Int)) (b2:i.bytes*n≤281474976710656) (b3:n≤maxLen) (b4:base≤w.heap.size)
 (hK:∀w',w'.ownsRow base e size (.slice (some ⟨w.heap.size,0,none⟩) n n) n (madeCells z.cells (n*size)).toList→w.grownBy w' none→K (a.put o.dst (.slice (some ⟨w.heap.size,0,none⟩) n n)) w'):
 o.wp P a w K Q:=by
 obtain⟨w',hrun,r1,r2⟩:=run_make_full (P:=P) w base t e i z size h1 h2 h3 h4 kl kc n b2 b3 b4;unfold Oper.wp;simp[execOp,hop,hl,hc,hrun,Result.andThen];exact hK w' r1 r2
end Kx
end Go.Proofs.YtdhophglnhcjbaaGreatDoor
