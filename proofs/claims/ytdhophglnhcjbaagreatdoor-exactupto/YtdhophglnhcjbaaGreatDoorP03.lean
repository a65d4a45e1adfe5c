/- P03: a part of the proof that the last text tells. -/
import Derived.Test.YtdhophglnhcjbaaGreatDoorP02
import Derived.Carry
import Derived.Deep.MidRow
import Derived.Laws.EntriesVeiled
import Derived.Deep.CutRange
import Derived.Deep.RegionWith
set_option linter.all false
set_option maxRecDepth 100000
set_option maxHeartbeats 40000000
open Go.Proofs.Tryz
namespace Go.Proofs.YtdhophglnhcjbaaGreatDoor
section
theorem a0s{P:Prop}(h:P:=by
 have HNO:=A0 (fun j' (hj':j'<n)=>hall.out j' (by omega));have HLN:Hid (P1 fs=a0n fs (r+1)):=by unfold Hid;rw[hla.out,a4y fs hlt (fun j' hj'=>HNO.out j' (by rw[HN.out];exact hj'))]
 go_wp2_with fail
 exact⟨⟨r+1,by omega,by go_num,HLN,by
  intro k hk j' hj';rcases Nat.lt_or_ge k r with h1|h1
  ·exact hno.out k h1 j' hj'
  ·obtain rfl:k=r:=by omega
   exact HNO.out j' (by rw[HN.out];exact hj'),hgx⟩,by simp[intOf];omega⟩):P:=h
theorem a0t{P:Prop}(h:P:=by
 go_roundw
 case rel=>exact⟨j+1,by omega,by go_num,by
  intro j' hj';rcases Nat.lt_or_ge j' j with h1|h1
  ·exact hall.out j' h1
  ·obtain rfl:j'=j:=by omega
   exact HBV.out,A1 hgx.out hg5,hbx.out.keep hg5 (by simp)⟩
 case measure=>simp[intOf];omega):P:=h
theorem a5t{P:Prop}(h:P:=by
 have c0:=hb.c0;have c1:=hb.c1;clear hb;go_enter func268,ntmps268;go_wp2_with fail
 all_goals exact bodyPost_ret (v:= .slice none 0 0) (by simp[results,results268,go_sem]) rfl ⟨HG.out,_,rfl,by simp only[G4];exact World.ownsRow_nil _ _ _ _⟩):P:=h
theorem a6x{P:Prop}(h:P:=by
 exact⟨0,by omega,rfl,fun j hj=>by omega,HGX0,HBX⟩):P:=h
theorem c5o{P:Prop}(h:P:=by
 have:=HCL.out;rw[hrk]at this⊢;exact this):P:=h
theorem c6d{P:Prop}(h:P:=by
 exact⟨p,pa,ca,ha,pk,ck,hk,h1,h2,a1R h3 hb hl,a1R h4 hb hl,a1R h5 hb hl,fun r u hu=>(hb.cell (by rw[U9];omega)).trans (h6 r u hu)⟩):P:=h
end
section
open Go.RowKit Go.Shelf Cf
namespace Kx
attribute [local go_sem] Oper.semAt_some
theorem b1t(l:List Cl):∀(k:Nat) (n:ByteArray),(E9 l k n).length≤k
 |0,_=>Nat.le_refl _
 |k+1,n=>by
  show(match C3 l n with|none=> []|some i=>i::E9 l k (cl l i).super).length≤k+1;cases C3 l n with
  |none=>exact Nat.zero_le _
  |some i=>have:=b1t l k (cl l i).super;simp;omega
def c3Z(A:Act)(W:World):Exit→Act→World→Prop
 | .normal,a,w=>a=A∧w=W
 | .panic _,_,_=>False
 | .outgrown,_,_=>False
 | .ret,_,_=>False
 | .exit _,_,_=>False
 | .goto _,_,_=>False
variable {B k lim m n:Nat}
variable {a:Act}
variable {W w w':World}
theorem c0E{F:Fence}{P:Program}{c:Code}{Q:Exit→Act→World→Prop}(A:Act)(W:World)(h:c.wpIn F n P (c3Z A W) a w)(hQ:Q .normal A W):c.wpIn F n P Q a w:=
 wpIn_mono h (fun e a' w' hh=>by
  cases e with
  |normal=>obtain⟨h2,h3⟩:=hh;subst h2 h3;exact hQ
  |panic ch=>exact hh.elim
  |outgrown=>exact hh.elim
  |ret=>exact hh.elim
  |exit id=>exact hh.elim
  |goto id=>exact hh.elim)
theorem b7m{a:World}(h:Below B a W):Below B a W.drew:=⟨h.os,h.tape,h.output,h.size,h.block⟩
def a9Q(B:Nat)(W:World):Nat:=match W.cell? ⟨B,0,none⟩with|some (.int .i64 v)=>v.toNat|_=>0
variable {t:TypeId}
theorem c1g(h:A3 W B #[.int .i64 (n:Int)] t):a9Q B W=n:=by
 unfold a9Q;rw[h.cell 0 _ rfl];simp
theorem a1t{Fr:(Nat→Value)→Act}(h:a=Fr (fun k=>a.tmps.getD k undef)):∃t,a=Fr t:=⟨_,h⟩
theorem b4W(w:World)(lim b:Nat)(L:List Cl)(p:Addr)(cap m1 m2 m3:Nat)(q:Nat→Qs)(h:Hid (G9 w lim b L p cap m1 m2 m3 q))(hl:lim≤w.heap.size)(i:Nat)(hi:i<L.length):
 Calls prog 160 #[.pointer (some ⟨b,0,none⟩), .int .i64 i] w fun e w'=>e= .returned (.bool (loP L i))∧w.grownBy w' none:=by
 have hsm:=h.out.small;obtain⟨nL,hnL⟩:∃nL,nL=L.length:=⟨_,rfl⟩
 obtain⟨sp,hsp⟩:∃sp,sp=(cl L i).super:=⟨_,rfl⟩
 obtain⟨nm,hnm⟩:∃nm,nm=(cl L i).name:=⟨_,rfl⟩
 have HSP:=A0 hsp;have HNM:=A0 hnm;have HNL:=A0 hnL;have hns:=(h.out.names i hi).2;rw[←hsp]at hns
 have hcW:∀W:World,Below w.heap.size w W→W.cell? ⟨b,0,none⟩=some (.slice (some p) nL cap)∧W.cell? ⟨(p.add (i*4)).block,(p.add (i*4)).off+1,none⟩=some (.string sp)∧W.cell? (p.add (i*4))=some (.string nm):=fun W hW=>by
  have HK:=h.out.below hW hl;refine⟨by rw[hnL];exact HK.c0,by rw[C0 p (i*4) 0,hsp];exact HK.row i hi 1 _ rfl,by rw[hnm];exact HK.row i hi 0 _ rfl⟩
 have hi':i<nL:=by omega
 have hsm':nL≤65536:=by omega
 have HCW:=A0 hcW;clear hnL hsp hnm hcW;have hw1:=HCW.out ((((w.alloc (.cells #[.pointer (some ⟨b,0,none⟩)] 156)).alloc (.cells #[.int .i64 i] 3)).alloc (.cells #[.bool false] 4))) ((((Below.refl _ w).alloc (Nat.le_refl _) _).alloc (by simp) _).alloc (by simp;omega) _);have hw2:=HCW.out (((((w.alloc (.cells #[.pointer (some ⟨b,0,none⟩)] 156)).alloc (.cells #[.int .i64 i] 3)).alloc (.cells #[.bool false] 4)).alloc (.cells #[.int .i64 (nL:Int)] 3))) (((((Below.refl _ w).alloc (Nat.le_refl _) _).alloc (by simp) _).alloc (by simp;omega) _).alloc (by simp;omega) _);obtain⟨ca0,ca1,ca2⟩:=hw1;obtain⟨cb0,cb1,cb2⟩:=hw2;refine(callsIn_wide (n:=9)).1 ?_;refine callsIn_of_wp_marks func160 rfl trivial ?_ rfl;simp only[ntmps160,List.size_toArray,List.length_cons,List.length_nil,Nat.reduceAdd,Nat.reduceSub,Array.replicate_succ,Array.replicate_zero,List.push_toArray,List.append_toArray,List.nil_append,List.cons_append];have hmix:prog.follows .mixedOrders=true:=by kernel_rfl
 gi_wp2
 refine c0E {tmps:= #[.pointer (some ⟨b,0,none⟩), .int .i64 (i:Int), .pointer (some ⟨w.heap.size,0,none⟩), .pointer (some ⟨w.heap.size+1,0,none⟩), .pointer (some ⟨w.heap.size+1+1,0,none⟩), .pointer (some ⟨w.heap.size+1+1+1,0,none⟩),undef, .pointer (some ⟨b,0,none⟩), .pointer (some ⟨b,0,none⟩), .pointer (some ⟨b,0,none⟩), .slice (some p) nL cap, .int .i64 (nL:Int), .pointer (some ⟨b,0,none⟩), .pointer (some ⟨b,0,none⟩), .pointer (some ⟨b,0,none⟩), .pointer (some ⟨b,0,none⟩), .slice (some p) nL cap, .int .i64 (i:Int), .pointer (some (p.add (i*4))), .pointer (some ⟨(p.add (i*4)).block,(p.add (i*4)).off+1,none⟩), .string sp, .func (.func 254) #[] #[.pointer (some ⟨w.heap.size+1+1+1+1,0,none⟩), .pointer (some ⟨w.heap.size+1+1+1+1+1,0,none⟩)],undef,undef,undef,undef,undef,undef,undef,undef,undef,undef,undef,undef,undef,undef,undef,undef],defers:=[]} ((((((w.alloc (.cells #[.pointer (some ⟨b,0,none⟩)] 156)).alloc (.cells #[.int .i64 (i:Int)] 3)).alloc (.cells #[.bool false] 4)).alloc (.cells #[.int .i64 (nL:Int)] 3)).alloc (.cells #[.pointer (some ⟨b,0,none⟩)] 156)).alloc (.cells #[.string sp] 9)).drew ?reg ?cont
 case reg=>
  gi_region_with_o (refine⟨trivial,?_⟩;gi_at_call 167;refine(a4A _ _ trivial rfl _ _ _).mono ?_;rintro e w' ⟨rfl,rfl⟩)
  all_goals exact⟨rfl,rfl⟩
 clear hmix ca0 ca1 ca2 cb0 cb1 cb2;gi_wp2
 have hB0:Below w.heap.size w ((((((w.alloc (.cells #[.pointer (some ⟨b,0,none⟩)] 156)).alloc (.cells #[.int .i64 (i:Int)] 3)).alloc (.cells #[.bool false] 4)).alloc (.cells #[.int .i64 (nL:Int)] 3)).alloc (.cells #[.pointer (some ⟨b,0,none⟩)] 156)).alloc (.cells #[.string sp] 9)).drew:=b7m (((((((Below.refl _ w).alloc (Nat.le_refl _) _).alloc (by simp) _).alloc (by simp;omega) _).alloc (by simp;omega) _).alloc (by simp;omega) _).alloc (by simp;omega) _);have hsz:((((((w.alloc (.cells #[.pointer (some ⟨b,0,none⟩)] 156)).alloc (.cells #[.int .i64 (i:Int)] 3)).alloc (.cells #[.bool false] 4)).alloc (.cells #[.int .i64 (nL:Int)] 3)).alloc (.cells #[.pointer (some ⟨b,0,none⟩)] 156)).alloc (.cells #[.string sp] 9)).drew.heap.size=w.heap.size+6:=by simp[World.drew]
 have k0:=((((((A3.new w #[.pointer (some ⟨b,0,none⟩)] 156).keep (A2 _ (.cells #[.int .i64 (i:Int)] 3) none) (by simp)).keep (A2 _ (.cells #[.bool false] 4) none) (by simp)).keep (A2 _ (.cells #[.int .i64 (nL:Int)] 3) none) (by simp)).keep (A2 _ (.cells #[.pointer (some ⟨b,0,none⟩)] 156) none) (by simp)).keep (A2 _ (.cells #[.string sp] 9) none) (by simp)).keep (B6 _ none) (by simp);have k1:=(((((A3.new (w.alloc (.cells #[.pointer (some ⟨b,0,none⟩)] 156)) #[.int .i64 (i:Int)] 3).keep (A2 _ (.cells #[.bool false] 4) none) (by simp)).keep (A2 _ (.cells #[.int .i64 (nL:Int)] 3) none) (by simp)).keep (A2 _ (.cells #[.pointer (some ⟨b,0,none⟩)] 156) none) (by simp)).keep (A2 _ (.cells #[.string sp] 9) none) (by simp)).keep (B6 _ none) (by simp);have k2:=((((A3.new ((w.alloc (.cells #[.pointer (some ⟨b,0,none⟩)] 156)).alloc (.cells #[.int .i64 (i:Int)] 3)) #[.bool false] 4).keep (A2 _ (.cells #[.int .i64 (nL:Int)] 3) none) (by simp)).keep (A2 _ (.cells #[.pointer (some ⟨b,0,none⟩)] 156) none) (by simp)).keep (A2 _ (.cells #[.string sp] 9) none) (by simp)).keep (B6 _ none) (by simp);have k3:=(((A3.new (((w.alloc (.cells #[.pointer (some ⟨b,0,none⟩)] 156)).alloc (.cells #[.int .i64 (i:Int)] 3)).alloc (.cells #[.bool false] 4)) #[.int .i64 (nL:Int)] 3).keep (A2 _ (.cells #[.pointer (some ⟨b,0,none⟩)] 156) none) (by simp)).keep (A2 _ (.cells #[.string sp] 9) none) (by simp)).keep (B6 _ none) (by simp);have k4:=((A3.new ((((w.alloc (.cells #[.pointer (some ⟨b,0,none⟩)] 156)).alloc (.cells #[.int .i64 (i:Int)] 3)).alloc (.cells #[.bool false] 4)).alloc (.cells #[.int .i64 (nL:Int)] 3)) #[.pointer (some ⟨b,0,none⟩)] 156).keep (A2 _ (.cells #[.string sp] 9) none) (by simp)).keep (B6 _ none) (by simp);have k5:=(A3.new (((((w.alloc (.cells #[.pointer (some ⟨b,0,none⟩)] 156)).alloc (.cells #[.int .i64 (i:Int)] 3)).alloc (.cells #[.bool false] 4)).alloc (.cells #[.int .i64 (nL:Int)] 3)).alloc (.cells #[.pointer (some ⟨b,0,none⟩)] 156)) #[.string sp] 9).keep (B6 _ none) (by simp);simp only[World.size_alloc]at k1 k2 k3 k4 k5;obtain⟨W0,hW0⟩:∃W0,((((((w.alloc (.cells #[.pointer (some ⟨b,0,none⟩)] 156)).alloc (.cells #[.int .i64 (i:Int)] 3)).alloc (.cells #[.bool false] 4)).alloc (.cells #[.int .i64 (nL:Int)] 3)).alloc (.cells #[.pointer (some ⟨b,0,none⟩)] 156)).alloc (.cells #[.string sp] 9)).drew=W0:=⟨_,rfl⟩
 rw[hW0]at hB0 hsz k0 k1 k2 k3 k4 k5⊢;clear hW0;have HK0:=A0 (h.out.below hB0 hl)
 refine b6B rfl (by omega) (gf:=254) (lb:= #[.pointer (some ⟨w.heap.size+1+1+1+1,0,none⟩), .pointer (some ⟨w.heap.size+1+1+1+1+1,0,none⟩)]) rfl trivial (enters_of func254 (by kernel_rfl) rfl)
  (c0I _ _ trivial rfl (by omega) w.heap.size (w.heap.size+1+1+1+1) (w.heap.size+1+1+1+1+1) lim b L p cap m1 m2 m3 q sp hns W0 (by omega) (by omega) (k4.cell 0 _ rfl) (k5.cell 0 _ rfl) HK0 hl (by omega)) a5g (a5h (by omega) (by omega)) (Below.refl _ _) (fun _=>rfl) (a9Q (w.heap.size+1+1+1))
  (fun pre W=>((∀k∈pre,(cl L k.1).name≠nm)∧pre.length<L.length∧A3 W (w.heap.size+1+1+1) #[.int .i64 ((L.length-pre.length:Nat):Int)] 3∧A3 W (w.heap.size) #[.pointer (some ⟨b,0,none⟩)] 156∧A3 W (w.heap.size+1) #[.int .i64 (i:Int)] 3∧A3 W (w.heap.size+1+1) #[.bool false] 4∧A3 W (w.heap.size+1+1+1+1+1) #[.string sp] 9)∧Below w.heap.size w W)
  (fun d pre W=>(((d= .ret∧∃k∈pre,(cl L k.1).name=nm)∨(d= .exit 0∧pre.length=L.length∧∀k∈pre,(cl L k.1).name≠nm))∧∃v,(d= .ret→v=true)∧A3 W (w.heap.size+1+1) #[.bool v] 4)∧Below w.heap.size w W)
  (OwnFrom.and (fun s X Y row hs hg hr=>⟨hs.1,hs.2.1,Own.from (L2 _ _ _) _ () X Y row hs.2.2.1 hg hr,Own.from (L2 _ _ _) _ () X Y row hs.2.2.2.1 hg hr,Own.from (L2 _ _ _) _ () X Y row hs.2.2.2.2.1 hg hr,Own.from (L2 _ _ _) _ () X Y row hs.2.2.2.2.2.1 hg hr,Own.from (L2 _ _ _) _ () X Y row hs.2.2.2.2.2.2 hg hr⟩) (ownFrom_below (Nat.le_refl _) (by omega)))
  (fun d=>OwnFrom.and (fun s X Y row hs hg hr=>by obtain⟨h1,v,h2,h3⟩:=hs;exact⟨h1,v,h2,Own.from (L2 _ _ _) _ () X Y row h3 hg hr⟩) (ownFrom_below (Nat.le_refl _) (by omega)))
  (fun pre W hI=>⟨hI.1.2.1,by rw[c1g hI.1.2.2.1];have:=hI.1.2.1;omega⟩)
  ⟨⟨by simp,by simp;omega,by rw[List.length_nil,Nat.sub_zero,←HNL.out];exact k3,k0,k1,k2,k5⟩,hB0⟩
  (fun x a' W=>∃Bx:Nat,w.heap.size+6≤Bx∧A3 W Bx #[.string (cl L x.1).name, .string (cl L x.1).super, .slice (q x.1).fa (cl L x.1).fields.length (q x.1).fk, .slice (q x.1).ma (cl L x.1).methods.length (q x.1).mc] 44∧∃t:Nat→Value,a'={tmps:= #[t 0,t 1, .pointer (some ⟨w.heap.size,0,none⟩), .pointer (some ⟨w.heap.size+1,0,none⟩), .pointer (some ⟨w.heap.size+1+1,0,none⟩), .pointer (some ⟨w.heap.size+1+1+1,0,none⟩), .pointer (some ⟨Bx,0,none⟩),t 7,t 8,t 9,t 10,t 11,t 12,t 13,t 14,t 15,t 16,t 17,t 18,t 19,t 20,t 21,t 22,t 23,t 24,t 25,t 26,t 27,t 28,t 29,t 30,t 31,t 32,t 33,t 34,t 35,t 36,t 37],defers:=[]})
  (fun x a' _ X Y row hs hg hr=>by obtain⟨Bx,h1,h2,h3⟩:=hs;exact⟨Bx,h1,L2 Bx _ _ () X Y row h2 hg (fun r e=>(hr r e).2),h3⟩)
  ?assign ?body ?done ?stop
 case assign=>
  rintro l pre x W K ⟨⟨hne,hlt,hk3,hk0,hk1,hk2,hk5⟩,hB1⟩ hK;dsimp only[a2o,P9];gi_wp2
  have h3:=hk5.lt;exact hK _ _ ((KeepsOthers.alloc _ _).from _) ⟨(Below.refl _ W).alloc hB1.size _,Below.heap_alloc W _ _ (by omega)⟩ ⟨⟨hne,hlt,hk3.keep (A2 _ _ none) (by simp),hk0.keep (A2 _ _ none) (by simp),hk1.keep (A2 _ _ none) (by simp),hk2.keep (A2 _ _ none) (by simp),hk5.keep (A2 _ _ none) (by simp)⟩,hB1.alloc hB1.size _⟩ ⟨W.heap.size,by omega,A3.new W _ _,a1t rfl⟩
 case body=>
  rintro l pre x a' W ⟨⟨hne,hlt,hk3,hk0,hk1,hk2,hk5⟩,hB1⟩ ⟨Bx,hBx,hbx,t,rfl⟩;have hl5:=hk5.lt;obtain⟨m,hm⟩:∃m,m=L.length-pre.length:=⟨_,rfl⟩
  have hm0:0<m:=by omega
  have hmb:m≤65536:=by omega
  rw[←hm]at hk3;have HM:=A0 hm;have HLT:=A0 hlt;clear hm hlt;obtain⟨c0,c1,c2⟩:=HCW.out W hB1;have cx:=hbx.c0;have d0:=hk0.c0;have d1:=hk1.c0;have d2:=hk2.c0;have fr2:=hk2.frozen 0;have d3:=hk3.c0;have fr3:=hk3.frozen 0;have l0:=hk0.lt;have l1:=hk1.lt;have l2:=hk2.lt;have l3:=hk3.lt;obtain⟨xn,hxn⟩:∃xn,xn=(cl L x.1).name:=⟨_,rfl⟩
  have HXN:=A0 hxn;rw[←hxn]at cx;clear hxn;by_cases hxe:xn=nm
  ·subst hxe;gi_wp2
   refine a3M rfl (by kernel_rfl) (by kernel_rfl) (by kernel_rfl) ?_;repeat (gi_big_quiet_step (fail))
   refine wpQuietIn_nil ?_;intro _ hw';obtain⟨nq,hw''⟩:=hw';subst hw'';gi_wp2
   exact⟨(a3N _ _ _).trans ((KeepsOthers.setCell _ _ _).from _),⟨.inl ⟨rfl,x,by simp,HXN.out.symm⟩,true,fun _=>rfl,A3.set (w:=W.drewN nq) hk2 0 (.bool true)⟩,(a1S hB1 nq).setCell (p:=⟨w.heap.size+1+1,0,none⟩) (by simp;omega) _⟩
  ·have hbn:=a2x hxe;by_cases hm1:m=1
   ·subst hm1;gi_wp2
    refine a3M rfl (by kernel_rfl) (by kernel_rfl) (by kernel_rfl) ?_;repeat (gi_big_quiet_step (fail))
    refine wpQuietIn_nil ?_;intro _ hw';obtain⟨nq,hw''⟩:=hw';subst hw'';gi_wp2
    exact⟨(a3N _ _ _).trans ((KeepsOthers.setCell _ _ _).from _),⟨.inr ⟨rfl,by have:=HM.out;have:=HLT.out;simp;omega,fun k hk=>(List.mem_append.1 hk).elim (hne k) (fun e=>by simp at e;subst e;rw[←HXN.out];exact hxe)⟩,false,(fun e=>by cases e),A3.keep (w:=W.drewN nq) hk2 (A9 _ ⟨w.heap.size+1+1+1,0,none⟩ _) (by first|(simp;done)|(simp;omega))⟩,(a1S hB1 nq).setCell (p:=⟨w.heap.size+1+1+1,0,none⟩) (by first|(simp;done)|(simp;omega)) _⟩
   ·have hm2:(((m:Int)-1)==0)=false:=by simp;omega
    gi_wp2
    refine a3M rfl (by kernel_rfl) (by kernel_rfl) (by kernel_rfl) ?_;repeat (gi_big_quiet_step (fail))
    refine wpQuietIn_nil ?_;intro _ hw';obtain⟨nq,hw''⟩:=hw';subst hw'';gi_wp2
    have e3:((m:Int)-1)=((L.length-(pre++ [x]).length:Nat):Int):=by have:=HM.out;simp;omega
    exact⟨(a3N _ _ _).trans ((KeepsOthers.setCell _ _ _).from _),⟨(a1S (Below.refl _ W) nq).setCell (p:=⟨w.heap.size+1+1+1,0,none⟩) (by first|(simp;done)|(simp;omega)) _,heap_setCell_other _ _ _ _ (by first|(simp;done)|(simp;omega))⟩,
     ⟨fun k hk=>(List.mem_append.1 hk).elim (hne k) (fun e=>by simp at e;subst e;rw[←HXN.out];exact hxe),by have:=HM.out;simp;omega,e3▸(A3.set (w:=W.drewN nq) hk3 0 (.int .i64 ((m:Int)-1))),
      A3.keep (w:=W.drewN nq) hk0 (A9 _ ⟨w.heap.size+1+1+1,0,none⟩ _) (by first|(simp;done)|(simp;omega)),A3.keep (w:=W.drewN nq) hk1 (A9 _ ⟨w.heap.size+1+1+1,0,none⟩ _) (by first|(simp;done)|(simp;omega)),A3.keep (w:=W.drewN nq) hk2 (A9 _ ⟨w.heap.size+1+1+1,0,none⟩ _) (by first|(simp;done)|(simp;omega)),A3.keep (w:=W.drewN nq) hk5 (A9 _ ⟨w.heap.size+1+1+1,0,none⟩ _) (by first|(simp;done)|(simp;omega))⟩,
     (a1S hB1 nq).setCell (p:=⟨w.heap.size+1+1+1,0,none⟩) (by first|(simp;done)|(simp;omega)) _⟩
 case done=>
  rintro D ys W hD hys ⟨⟨hne,hlt,hk3,hk0,hk1,hk2,hk5⟩,hB1⟩ hK;have cr:=hk2.c0;have fr:=hk2.frozen 0;gi_wp2
  have hK':=(KeepsOthers.setCell W ⟨w.heap.size+1+1,0,none⟩ (.bool false)).same D _ hK rfl;refine⟨by simp, .inl ⟨_,_,rfl,run_takeDeferred hK',?_⟩⟩;have hb5:=(hk2.set 0 (.bool false)).keep (grownBy_putObj' _ D (.deferred none)) (by simp;omega);have hc5:=hb5.c0
  have hf:loP L i=false:=by
   unfold loP;rw[List.any_eq_false,←HSP.out,←hys,←HNM.out];exact c6c
  rw[hf];exact⟨.bool false,by simp[results,results160,go_sem,hc5],rfl,a0i ((hB1.setCell (p:=⟨w.heap.size+1+1,0,none⟩) (by simp;omega) _).grown (grownBy_putObj' _ D _) (by simp;exact hB1.size) (fun k e=>by cases e;omega))⟩
 case stop=>
  rintro D d pre W hD hpre ⟨⟨hcase,v,hv,hk2⟩,hB1⟩ hK;rcases hcase with⟨rfl,k,hk,hkn⟩|⟨rfl,hpl,hne⟩
  ·obtain rfl:=hv rfl;have cr:=hk2.c0;gi_wp2
   refine⟨by simp, .inl ⟨_,_,rfl,run_takeDeferred hK,?_⟩⟩;have hb5:=hk2.keep (grownBy_putObj' _ D (.deferred none)) (by simp;omega);have hc5:=hb5.c0
   have hf:loP L i=true:=by
    unfold loP;rw[List.any_eq_true,←HSP.out,←HNM.out];exact⟨k.1,hpre.subset (List.mem_map.2 ⟨k,hk,rfl⟩),by simpa using hkn⟩
   rw[hf];exact⟨.bool true,by simp[results,results160,go_sem,hc5],rfl,a0i (hB1.grown (grownBy_putObj' _ D _) hB1.size (fun k e=>by cases e;omega))⟩
  ·have cr:=hk2.c0;have fr:=hk2.frozen 0;gi_wp2
   have hK':=(KeepsOthers.setCell W ⟨w.heap.size+1+1,0,none⟩ (.bool false)).same D _ hK rfl;refine⟨by simp, .inl ⟨_,_,rfl,run_takeDeferred hK',?_⟩⟩;have hb5:=(hk2.set 0 (.bool false)).keep (grownBy_putObj' _ D (.deferred none)) (by simp;omega);have hc5:=hb5.c0
   have hf:loP L i=false:=by
    have hy:U4 pre=E9 L L.length sp:=hpre.eq_of_length (by
     have h1:=hpre.length_le;have h2:=b1t L L.length sp;have h3:(U4 pre).length=L.length:=by unfold U4;rw[List.length_map];exact hpl
     omega)
    unfold loP;rw[List.any_eq_false,←HSP.out,←hy,←HNM.out];exact c6c
   rw[hf];exact⟨.bool false,by simp[results,results160,go_sem,hc5],rfl,a0i ((hB1.setCell (p:=⟨w.heap.size+1+1,0,none⟩) (by simp;omega) _).grown (grownBy_putObj' _ D _) (by simp;exact hB1.size) (fun k e=>by cases e;omega))⟩
attribute [local go_sem] Oper.semAt_some
def a3B(L:List Cl)(i k r:Nat):Bool:=match a2e (cl L k) ((cl L i).methods.getD r I9).name with|none=>false|some o=> !a1p ((cl L i).methods.getD r I9) o
variable {c:Cl}
theorem b6G{n:ByteArray}(h:N5 c n=none):a2e c n=none:=by
 unfold N5 at h;unfold a2e;rw[List.find?_eq_none];intro m hm;have:=List.findIdx?_eq_none_iff.1 h m hm;simpa using this
theorem b6F{n:ByteArray}{f:Nat}(h:N5 c n=some f):a2e c n=some (c.methods.getD f I9):=by
 unfold N5 at h;obtain⟨h1,h2,h3⟩:=List.findIdx?_eq_some_iff_getElem.1 h;unfold a2e;rw[List.find?_eq_some_iff_getElem];refine⟨by rw[List.getD_eq_getElem?_getD,List.getElem?_eq_getElem h1];exact h2,f,h1,by rw[List.getD_eq_getElem?_getD,List.getElem?_eq_getElem h1];rfl,fun j hj=>by simpa using h3 j hj⟩
theorem b2s(L:List Cl)(i:Nat):ovP L i=(up L (cl L i).super).any fun k=>(List.range (cl L i).methods.length).any (a3B L i k):=by
 unfold ovP;refine a4M fun k _=> ?_
 exact(b1u (fun m:Me=>match a2e (cl L k) m.name with|none=>false|some o=> !a1p m o) I9 _).symm
theorem a8i(h:w.grownBy w' none):Below w.heap.size w w':=⟨h.os,h.tape,h.output,h.size,fun k hk=>h.block k hk (by simp)⟩
theorem b5h(h:w.grownBy w' none)(hB:B≤w.heap.size):Below B w w':=(a8i h).mono hB
theorem b5D{L:List Cl}{q:Nat→Qs}(h:S8 w lim L q)(hb:Below B w w')(hl:lim≤B):S8 w' lim L q:=fun i hi j hj=>by
 obtain⟨p,pa,ca,ha,pk,ck,hk,h1,h2,h3,h4,h5,h6⟩:=h i hi j hj;exact c6d
theorem b4c(w:World)(lim b:Nat)(L:List Cl)(p:Addr)(cap m1 m2 m3:Nat)(q:Nat→Qs)(h:Hid (G9 w lim b L p cap m1 m2 m3 q))(hl:lim≤w.heap.size)(hU:Hid (UpL L))(hD:Hid (a0L L))(hZm:Hid (z9 G2 L))(hZ:Hid (SzL L))(hP:Hid (S8 w lim L q))(i:Nat)(hi:i<L.length):
 Calls prog 163 #[.pointer (some ⟨b,0,none⟩), .int .i64 i] w fun e w'=>e= .returned (.bool (ovP L i))∧w.grownBy w' none:=by
 obtain⟨ci,hci⟩:∃ci,ci=cl L i:=⟨_,rfl⟩
 obtain⟨nM,hnM⟩:∃nM,nM=ci.methods.length:=⟨_,rfl⟩
 have HCI:=A0 hci;have HNM:=A0 hnM;have hns:ci.super.size≤maxLen:=by rw[hci];exact(h.out.names i hi).2
 have hnl:nM≤65536:=by rw[hnM,hci];exact(hZ.out i hi).2.2.2
 have hcW:∀W:World,Below w.heap.size w W→W.cell? ⟨b,0,none⟩=some (.slice (some p) L.length cap)∧W.cell? (p.add (i*4))=some (.string ci.name)∧W.cell? ⟨(p.add (i*4)).block,(p.add (i*4)).off+1,none⟩=some (.string ci.super)∧W.cell? ⟨(p.add (i*4)).block,(p.add (i*4)).off+2,none⟩=some (.slice (q i).fa ci.fields.length (q i).fk)∧W.cell? ⟨(p.add (i*4)).block,(p.add (i*4)).off+3,none⟩=some (.slice (q i).ma nM (q i).mc):=fun W hW=>by
  have HK:=h.out.below hW hl;refine⟨HK.c0,by rw[hci];exact HK.row i hi 0 _ rfl,by rw[C0 p (i*4) 0,hci];exact HK.row i hi 1 _ rfl,by rw[C0 p (i*4) 1,hci];exact HK.row i hi 2 _ rfl,by rw[C0 p (i*4) 2,hnM,hci];exact HK.row i hi 3 _ rfl⟩
 obtain⟨ca0,ca1,ca2,ca3,ca4⟩:=hcW ((w.alloc (.cells #[.pointer (some ⟨b,0,none⟩)] 156)).alloc (.cells #[.bool false] 4)) ((((Below.refl _ w).alloc (Nat.le_refl _) _).alloc (by simp) _));clear hci hnM hcW;refine(callsIn_wide (n:=9)).1 ?_;refine callsIn_of_wp_marks func163 rfl trivial ?_ rfl;simp only[ntmps163,List.size_toArray,List.length_cons,List.length_nil,Nat.reduceAdd,Nat.reduceSub,Array.replicate_succ,Array.replicate_zero,List.push_toArray,List.append_toArray,List.nil_append,List.cons_append];gi_wp2_with (refine⟨trivial,?_⟩;gi_at_call 167;refine(a4A _ _ trivial rfl _ _ _).mono ?_;rintro e w' ⟨rfl,rfl⟩)
 have hB0:Below w.heap.size w (((((w.alloc (.cells #[.pointer (some ⟨b,0,none⟩)] 156)).alloc (.cells #[.bool false] 4)).alloc (.cells #[.string ci.name, .string ci.super, .slice (q i).fa ci.fields.length (q i).fk, .slice (q i).ma nM (q i).mc] 44)).alloc (.cells #[.pointer (some ⟨b,0,none⟩)] 156)).alloc (.cells #[.string ci.super] 9)):=(((((Below.refl _ w).alloc (Nat.le_refl _) _).alloc (by simp) _).alloc (by simp;omega) _).alloc (by simp;omega) _).alloc (by simp;omega) _;have hsz:(((((w.alloc (.cells #[.pointer (some ⟨b,0,none⟩)] 156)).alloc (.cells #[.bool false] 4)).alloc (.cells #[.string ci.name, .string ci.super, .slice (q i).fa ci.fields.length (q i).fk, .slice (q i).ma nM (q i).mc] 44)).alloc (.cells #[.pointer (some ⟨b,0,none⟩)] 156)).alloc (.cells #[.string ci.super] 9)).heap.size=w.heap.size+5:=by simp
 have k0:=((((A3.new w #[.pointer (some ⟨b,0,none⟩)] 156).keep (A2 _ (.cells #[.bool false] 4) none) (by simp)).keep (A2 _ (.cells #[.string ci.name, .string ci.super, .slice (q i).fa ci.fields.length (q i).fk, .slice (q i).ma nM (q i).mc] 44) none) (by simp)).keep (A2 _ (.cells #[.pointer (some ⟨b,0,none⟩)] 156) none) (by simp)).keep (A2 _ (.cells #[.string ci.super] 9) none) (by simp);have k1:=(((A3.new (w.alloc (.cells #[.pointer (some ⟨b,0,none⟩)] 156)) #[.bool false] 4).keep (A2 _ (.cells #[.string ci.name, .string ci.super, .slice (q i).fa ci.fields.length (q i).fk, .slice (q i).ma nM (q i).mc] 44) none) (by simp)).keep (A2 _ (.cells #[.pointer (some ⟨b,0,none⟩)] 156) none) (by simp)).keep (A2 _ (.cells #[.string ci.super] 9) none) (by simp);have k2:=((A3.new ((w.alloc (.cells #[.pointer (some ⟨b,0,none⟩)] 156)).alloc (.cells #[.bool false] 4)) #[.string ci.name, .string ci.super, .slice (q i).fa ci.fields.length (q i).fk, .slice (q i).ma nM (q i).mc] 44).keep (A2 _ (.cells #[.pointer (some ⟨b,0,none⟩)] 156) none) (by simp)).keep (A2 _ (.cells #[.string ci.super] 9) none) (by simp);have k3:=(A3.new (((w.alloc (.cells #[.pointer (some ⟨b,0,none⟩)] 156)).alloc (.cells #[.bool false] 4)).alloc (.cells #[.string ci.name, .string ci.super, .slice (q i).fa ci.fields.length (q i).fk, .slice (q i).ma nM (q i).mc] 44)) #[.pointer (some ⟨b,0,none⟩)] 156).keep (A2 _ (.cells #[.string ci.super] 9) none) (by simp);have k4:=A3.new ((((w.alloc (.cells #[.pointer (some ⟨b,0,none⟩)] 156)).alloc (.cells #[.bool false] 4)).alloc (.cells #[.string ci.name, .string ci.super, .slice (q i).fa ci.fields.length (q i).fk, .slice (q i).ma nM (q i).mc] 44)).alloc (.cells #[.pointer (some ⟨b,0,none⟩)] 156)) #[.string ci.super] 9;simp only[World.size_alloc]at k1 k2 k3 k4;obtain⟨W0,hW0⟩:∃W0,((((w.alloc (.cells #[.pointer (some ⟨b,0,none⟩)] 156)).alloc (.cells #[.bool false] 4)).alloc (.cells #[.string ci.name, .string ci.super, .slice (q i).fa ci.fields.length (q i).fk, .slice (q i).ma nM (q i).mc] 44)).alloc (.cells #[.pointer (some ⟨b,0,none⟩)] 156)).alloc (.cells #[.string ci.super] 9)=W0:=⟨_,rfl⟩
 rw[hW0]at hB0 hsz k0 k1 k2 k3 k4⊢;clear hW0 ca0 ca1 ca2 ca3 ca4;have HK0:=A0 (h.out.below hB0 hl)
 refine wpIn_rangeFunc_ownH rfl (by omega) (gf:=254) (lb:= #[.pointer (some ⟨w.heap.size+1+1+1,0,none⟩), .pointer (some ⟨w.heap.size+1+1+1+1,0,none⟩)]) rfl trivial (enters_of func254 (by kernel_rfl) rfl)
  (a5H _ _ trivial rfl (by omega) w.heap.size (w.heap.size+1+1+1) (w.heap.size+1+1+1+1) lim b L p cap m1 m2 m3 q ci.super hns hU W0 (by omega) (by omega) (k3.cell 0 _ rfl) (k4.cell 0 _ rfl) HK0 hl (by omega)) a5g (a5h (by omega) (by omega)) (Below.refl _ _) (fun _=>rfl)
  (fun pre W=>((∀k∈pre,∀r,r<nM→a3B L i k.1 r=false)∧A3 W (w.heap.size) #[.pointer (some ⟨b,0,none⟩)] 156∧A3 W (w.heap.size+1) #[.bool false] 4∧A3 W (w.heap.size+1+1) #[.string ci.name, .string ci.super, .slice (q i).fa ci.fields.length (q i).fk, .slice (q i).ma nM (q i).mc] 44∧A3 W (w.heap.size+1+1+1+1) #[.string ci.super] 9)∧Below w.heap.size w W)
  (fun d pre W=>(d= .ret∧(∃k∈pre,∃r,r<nM∧a3B L i k.1 r=true)∧A3 W (w.heap.size+1) #[.bool true] 4)∧Below w.heap.size w W)
  (OwnFrom.and (fun s X Y row hs hg hr=>⟨hs.1,Own.from (L2 _ _ _) _ () X Y row hs.2.1 hg hr,Own.from (L2 _ _ _) _ () X Y row hs.2.2.1 hg hr,Own.from (L2 _ _ _) _ () X Y row hs.2.2.2.1 hg hr,Own.from (L2 _ _ _) _ () X Y row hs.2.2.2.2 hg hr⟩) (ownFrom_below (Nat.le_refl _) (by omega)))
  (fun d=>OwnFrom.and (fun s X Y row hs hg hr=>⟨hs.1,hs.2.1,Own.from (L2 _ _ _) _ () X Y row hs.2.2 hg hr⟩) (ownFrom_below (Nat.le_refl _) (by omega)))
  ⟨⟨by simp,k0,k1,k2,k4⟩,hB0⟩
  (fun x a' W=>∃Bx:Nat,w.heap.size+5≤Bx∧A3 W Bx #[.string (cl L x.1).name, .string (cl L x.1).super, .slice (q x.1).fa (cl L x.1).fields.length (q x.1).fk, .slice (q x.1).ma (cl L x.1).methods.length (q x.1).mc] 44∧∃t:Nat→Value,a'={tmps:= #[t 0,t 1, .pointer (some ⟨w.heap.size,0,none⟩),t 3, .pointer (some ⟨w.heap.size+1,0,none⟩), .pointer (some ⟨w.heap.size+1+1,0,none⟩), .pointer (some ⟨Bx,0,none⟩),t 7,t 8,t 9,t 10,t 11,t 12,t 13,t 14,t 15,t 16,t 17,t 18,t 19,t 20,t 21,t 22,t 23,t 24,t 25,t 26,t 27,t 28,t 29,t 30,t 31,t 32,t 33,t 34,t 35,t 36,t 37,t 38,t 39,t 40,t 41,t 42,t 43,t 44,t 45,t 46],defers:=[]})
  (fun x a' _ X Y row hs hg hr=>by obtain⟨Bx,h1,h2,h3⟩:=hs;exact⟨Bx,h1,L2 Bx _ _ () X Y row h2 hg (fun r e=>(hr r e).2),h3⟩)
  ?assign ?body ?done ?stop
 case assign=>
  rintro l pre x W K ⟨⟨hne,hk0,hk1,hk2,hk4⟩,hB1⟩ hK;dsimp only[a2o,P9];gi_wp2
  have h3:=hk4.lt;exact hK _ _ ((KeepsOthers.alloc _ _).from _) ⟨(Below.refl _ W).alloc hB1.size _,Below.heap_alloc W _ _ (by omega)⟩ ⟨⟨hne,hk0.keep (A2 _ _ none) (by simp),hk1.keep (A2 _ _ none) (by simp),hk2.keep (A2 _ _ none) (by simp),hk4.keep (A2 _ _ none) (by simp)⟩,hB1.alloc hB1.size _⟩ ⟨W.heap.size,by omega,A3.new W _ _,a1t rfl⟩
 case body=>
  rintro l pre x a' W hl2 _ ⟨⟨hne,hk0,hk1,hk2,hk4⟩,hB1⟩ ⟨Bx,hBx,hbx,t,rfl⟩ hlt;have hl4:=hk4.lt;have c2:=hk2.c3;gi_wp2
  gi_loopw [26] (fun u wx=>∃j:Nat,j≤nM∧u= .int .i64 j∧W.grownBy wx none∧∀r,r<j→a3B L i x.1 r=false) (fun u _=>nM-(intOf u).toNat)
  case atStart=>exact a5u
  case round=>
   obtain⟨j,hj,rfl,hgr,hv⟩:=hrel;have HGR:=A0 hgr;have HV:=A0 hv;have HBW:=A0 (hB1.trans ((a8i hgr).mono hB1.size));clear hgr hv;by_cases hlj:j<nM
   ·have HKr:=A0 (h.out.below HBW.out hl);have HPr:=A0 (b5D hP.out HBW.out hl);have hjm:j<(cl L i).methods.length:=by rw[←HCI.out,←HNM.out];exact hlj
    obtain⟨pm,pa,ca,ha,pk,ck,hk,e1,e2,e3,e4,e5,e6⟩:=HPr.out i hi j hjm;obtain⟨md,hmd⟩:∃md,md=(cl L i).methods.getD j I9:=⟨_,rfl⟩
    rw[←hmd]at e3 e4 e5 e6;have f0:wr.cell? (pm.add (j*8))=some (.string md.name):=e6 0 _ rfl;have f1:wr.cell? ⟨(pm.add (j*8)).block,(pm.add (j*8)).off+1,none⟩=some (.slice pa md.params.length pk):=by rw[C0 pm (j*8) 0];exact e6 1 _ rfl
    have f2:wr.cell? ⟨(pm.add (j*8)).block,(pm.add (j*8)).off+2,none⟩=some (.int .i64 md.ret.kind):=by rw[C0 pm (j*8) 1];exact e6 2 _ rfl
    have f3:wr.cell? ⟨(pm.add (j*8)).block,(pm.add (j*8)).off+3,none⟩=some (.string md.ret.name):=by rw[C0 pm (j*8) 2];exact e6 3 _ rfl
    have f4:wr.cell? ⟨(pm.add (j*8)).block,(pm.add (j*8)).off+4,none⟩=some (.int .i64 md.stack):=by rw[C0 pm (j*8) 3];exact e6 4 _ rfl
    have f5:wr.cell? ⟨(pm.add (j*8)).block,(pm.add (j*8)).off+5,none⟩=some (.int .i64 md.locals):=by rw[C0 pm (j*8) 4];exact e6 5 _ rfl
    have f6:wr.cell? ⟨(pm.add (j*8)).block,(pm.add (j*8)).off+6,none⟩=some (.slice ca md.code.length ck):=by rw[C0 pm (j*8) 5];exact e6 6 _ rfl
    have f7:wr.cell? ⟨(pm.add (j*8)).block,(pm.add (j*8)).off+7,none⟩=some (.slice ha md.handlers.length hk):=by rw[C0 pm (j*8) 6];exact e6 7 _ rfl
    have hmz:a6q md:=by rw[hmd];exact(hZ.out i hi).1 j hjm
    have hmn:md.name.size≤maxLen:=by
     refine(hZm.out (cl L i) (by rw[R8 hi];exact List.getElem_mem hi)).2 md.name ?_;unfold G2;exact List.mem_map.2 ⟨md,by rw[hmd,List.getD_eq_getElem?_getD,List.getElem?_eq_getElem hjm];exact List.getElem_mem hjm,rfl⟩
    have hxn:=(h.out.names x.1 x.2).1;obtain⟨xn,hxn2⟩:∃xn,xn=(cl L x.1).name:=⟨_,rfl⟩
    have HR3:=A0 e3;have HBD:Hid (a3B L i x.1 j=match a2e (cl L x.1) md.name with|none=>false|some o=> !a1p md o):=by unfold Hid a3B;rw[←hmd]
    have hW1g:∀ob,wr.grownBy (wr.alloc ob) none:=fun ob=>A2 _ _ _
    have HK1:Hid (G9 (wr.alloc (.cells (mV md pa pk ca ck ha hk) 102)) lim b L p cap m1 m2 m3 q):=HKr.out.keep (hW1g _) (Nat.le_trans hl HBW.out.size);have HP1:Hid (S8 (wr.alloc (.cells (mV md pa pk ca ck ha hk) 102)) lim L q):=HPr.out.keep (hW1g _);have hl1:lim≤(wr.alloc (.cells (mV md pa pk ca ck ha hk) 102)).heap.size:=by have:=HBW.out.size;simp;omega
    have hBm0:=A3.new wr (mV md pa pk ca ck ha hk) 102;have c0r:=((hk0.keep HGR.out (by simp)).keep (A2 wr (.cells (mV md pa pk ca ck ha hk) 102) none) (by simp)).c0;have cxr:=((hbx.keep HGR.out (by simp)).keep (A2 wr (.cells (mV md pa pk ca ck ha hk) 102) none) (by simp)).c0;have cmr:=hBm0.c0;have hk1r:=hk1.keep HGR.out (by simp);have hlr:=HGR.out.size;have hlx:=hbx.lt;have hl0:=hk0.lt;have hl1b:=hk1.lt;rw[←hxn2]at cxr hxn
    have hwn:a2l L xn md.name=(N5 (cl L x.1) md.name).map fun f=>(x.1,f):=by
     unfold a2l;rw[hxn2,a6L hD.out x.2];rfl
    have HXN:=A0 hxn2;clear hxn2;rw[e1]at*
    cases hmi:N5 (cl L x.1) md.name with
    |none=>
     have HNB:Hid (a3B L i x.1 j=false):=by unfold Hid;rw[HBD.out,b6G hmi]
     rw[hmi]at hwn;simp only[Option.map_none]at hwn;have HWN:=A0 hwn;clear hwn hmi hmd e3 e4 e5 e6 e1;gi_wp2_with (first|(refine⟨trivial,?_⟩;gi_at_call 69;refine(CallsIn.inRound l (callsIn_wide.2 (a4t _ lim b L p cap m1 m2 m3 q HK1 hl1 hD hZm HP1 xn md.name hxn hmn))).mono ?_;rintro e w2 ⟨hg2,hq2⟩;rw[HWN.out]at hq2;unfold a2M at hq2;dsimp only at hq2;subst hq2)|(refine⟨trivial,?_⟩))
     go_roundw
     case rel=>exact⟨j+1,by omega,by go_num,A1 (A1 (A1 HGR.out (A2 _ _ none)) hg2) (A2 _ _ none),fun r hr=>by
      rcases Nat.lt_or_ge r j with h1|h1
      ·exact HV.out r h1
      ·obtain rfl:r=j:=by omega
       exact HNB.out⟩
     case measure=>simp[intOf];omega
    |some fx=>
     have hfl:=b3h hmi;have hmoz:a6q (E1 L (x.1,fx)):=(hZ.out x.1 x.2).1 fx hfl;have HBD2:Hid (a3B L i x.1 j= !a1p md (E1 L (x.1,fx))):=by unfold Hid;rw[HBD.out,b6F hmi];rfl
     rw[hmi]at hwn;simp only[Option.map_some]at hwn;have HWN:=A0 hwn;clear hwn hmi hmd e3 e4 e5 e6 e1;generalize hmo:E1 L (x.1,fx)=mo at hmoz HBD2;have HMO:=A0 hmo;obtain⟨av,hav⟩:∃av,av=a1p md mo:=⟨_,rfl⟩
     have HAV:=A0 hav;clear hmo hav;cases av with
     |true=>
      gi_wp2_with (first
       |(refine⟨trivial,?_⟩
         gi_at_call 249
         refine(CallsIn.inRound l (callsIn_wide.2 (b1v _ lim lim md mo pa ca ha pa2 ca2 ha2 pk ck hk pk2 ck2 hk2' HRa HRb hmz.2.2.2.1 hmoz.2.2.2.1))).mono ?_;rintro e w4 ⟨rfl,hg4⟩;rw[←HAV.out];have HGE:=A0 (A1 HGG.out hg4);have HK14:=A0 (hk1.keep HGE.out (by simp));have r0:=HK14.out.c0;have z0:=HK14.out.frozen 0)
       |(refine⟨trivial,?_⟩
         gi_at_call 69
         refine(CallsIn.inRound l (callsIn_wide.2 (a4t _ lim b L p cap m1 m2 m3 q HK1 hl1 hD hZm HP1 xn md.name hxn hmn))).mono ?_;rintro e w2 ⟨hg2,hq2⟩;rw[HWN.out]at hq2;unfold a2M at hq2;dsimp only at hq2;rw[HMO.out]at hq2;obtain⟨pa2,ca2,ha2,pk2,ck2,hk2',he2,r1,r2,r3⟩:=hq2;unfold mv at he2;subst he2;have HRa:Hid (B8 (w2.alloc (.cells (mV mo pa2 pk2 ca2 ck2 ha2 hk2') 102)) lim 2 C9 pa md.params):=((HR3.out.keep (A2 wr (.cells (mV md pa pk ca ck ha hk) 102) none)).keep hg2).keep (A2 _ _ none);have HRb:Hid (B8 (w2.alloc (.cells (mV mo pa2 pk2 ca2 ck2 ha2 hk2') 102)) lim 2 C9 pa2 mo.params):=(r1.keep hg2).keep (A2 _ _ none);have hBm:=(hBm0.keep hg2 (by simp)).keep (A2 w2 (.cells (mV mo pa2 pk2 ca2 ck2 ha2 hk2') 102) none) (by simp);have hBo:=A3.new w2 (mV mo pa2 pk2 ca2 ck2 ha2 hk2') 102;obtain⟨d0,d1,d2,d3,d4,d5,d6,d7⟩:=hBm.q8;obtain⟨g0,g1,g2,g3,g4,g5,g6,g7⟩:=hBo.q8;have HGG:Hid (W.grownBy (w2.alloc (.cells (mV mo pa2 pk2 ca2 ck2 ha2 hk2') 102)) none):=A1 (A1 (A1 HGR.out (A2 _ _ none)) hg2) (A2 _ _ none);clear hBm hBo;dsimp only))
      go_roundw
      case rel=>exact⟨j+1,by omega,by go_num,HGE.out,fun r hr=>by
       rcases Nat.lt_or_ge r j with h1|h1
       ·exact HV.out r h1
       ·obtain rfl:r=j:=by omega
        rw[HBD2.out,←HAV.out];rfl⟩
      case measure=>simp[intOf];omega
     |false=>
      gi_wp2_with (first
       |(refine⟨trivial,?_⟩
         gi_at_call 249
         refine(CallsIn.inRound l (callsIn_wide.2 (b1v _ lim lim md mo pa ca ha pa2 ca2 ha2 pk ck hk pk2 ck2 hk2' HRa HRb hmz.2.2.2.1 hmoz.2.2.2.1))).mono ?_;rintro e w4 ⟨rfl,hg4⟩;rw[←HAV.out];have HGE:=A0 (A1 HGG.out hg4);have HK14:=A0 (hk1.keep HGE.out (by simp));have r0:=HK14.out.c0;have z0:=HK14.out.frozen 0)
       |(refine⟨trivial,?_⟩
         gi_at_call 69
         refine(CallsIn.inRound l (callsIn_wide.2 (a4t _ lim b L p cap m1 m2 m3 q HK1 hl1 hD hZm HP1 xn md.name hxn hmn))).mono ?_;rintro e w2 ⟨hg2,hq2⟩;rw[HWN.out]at hq2;unfold a2M at hq2;dsimp only at hq2;rw[HMO.out]at hq2;obtain⟨pa2,ca2,ha2,pk2,ck2,hk2',he2,r1,r2,r3⟩:=hq2;unfold mv at he2;subst he2;have HRa:Hid (B8 (w2.alloc (.cells (mV mo pa2 pk2 ca2 ck2 ha2 hk2') 102)) lim 2 C9 pa md.params):=((HR3.out.keep (A2 wr (.cells (mV md pa pk ca ck ha hk) 102) none)).keep hg2).keep (A2 _ _ none);have HRb:Hid (B8 (w2.alloc (.cells (mV mo pa2 pk2 ca2 ck2 ha2 hk2') 102)) lim 2 C9 pa2 mo.params):=(r1.keep hg2).keep (A2 _ _ none);have hBm:=(hBm0.keep hg2 (by simp)).keep (A2 w2 (.cells (mV mo pa2 pk2 ca2 ck2 ha2 hk2') 102) none) (by simp);have hBo:=A3.new w2 (mV mo pa2 pk2 ca2 ck2 ha2 hk2') 102;obtain⟨d0,d1,d2,d3,d4,d5,d6,d7⟩:=hBm.q8;obtain⟨g0,g1,g2,g3,g4,g5,g6,g7⟩:=hBo.q8;have HGG:Hid (W.grownBy (w2.alloc (.cells (mV mo pa2 pk2 ca2 ck2 ha2 hk2') 102)) none):=A1 (A1 (A1 HGR.out (A2 _ _ none)) hg2) (A2 _ _ none);clear hBm hBo;dsimp only))
      exact⟨(KeepsFrom.of_grownBy HGE.out (fun k e=>by cases e)).trans ((KeepsOthers.setCell _ _ _).from _),⟨rfl,⟨x,by simp,j,hlj,by rw[HBD2.out,←HAV.out];rfl⟩,HK14.out.set 0 (.bool true)⟩,(hB1.trans ((a8i HGE.out).mono hB1.size)).setCell (p:=⟨w.heap.size+1,0,none⟩) (by simp) _⟩
   ·have hjn:j=nM:=by omega
    subst hjn;gi_wp2
    exact⟨KeepsFrom.of_grownBy HGR.out (fun k e=>by cases e),⟨b5h HGR.out hB1.size,HGR.out.block _ (by omega) (by simp)⟩,⟨fun k hk=>(List.mem_append.1 hk).elim (hne k) (fun e=>by simp at e;subst e;exact HV.out),hk0.keep HGR.out (by simp),hk1.keep HGR.out (by simp),hk2.keep HGR.out (by simp),hk4.keep HGR.out (by simp)⟩,HBW.out⟩
 case done=>
  rintro D ys W hD hys ⟨⟨hne,hk0,hk1,hk2,hk4⟩,hB1⟩ hK;have cr:=hk1.c0;have fr:=hk1.frozen 0;gi_wp2
  have hK':=(KeepsOthers.setCell W ⟨w.heap.size+1,0,none⟩ (.bool false)).same D _ hK rfl;refine⟨by simp, .inl ⟨_,_,rfl,run_takeDeferred hK',?_⟩⟩;have hb5:=(hk1.set 0 (.bool false)).keep (grownBy_putObj' _ D (.deferred none)) (by simp;omega);have hc5:=hb5.c0
  have hf:ovP L i=false:=by
   rw[b2s,List.any_eq_false,←HCI.out,←hys,←HNM.out];intro k hk;obtain⟨k',hk',rfl⟩:=List.mem_map.1 hk;rw[Bool.not_eq_true,List.any_eq_false];intro r hr;rw[hne k' hk' r (List.mem_range.1 hr)];simp
  rw[hf];exact⟨.bool false,by simp[results,results163,go_sem,hc5],rfl,a0i ((hB1.setCell (p:=⟨w.heap.size+1,0,none⟩) (by simp) _).grown (grownBy_putObj' _ D _) (by simp;exact hB1.size) (fun k e=>by cases e;omega))⟩
 case stop=>
  rintro D d pre W hD hpre ⟨⟨rfl,⟨k,hk,r,hr,hkr⟩,hk1⟩,hB1⟩ hK;have cr:=hk1.c0;gi_wp2
  refine⟨by simp, .inl ⟨_,_,rfl,run_takeDeferred hK,?_⟩⟩;have hb5:=hk1.keep (grownBy_putObj' _ D (.deferred none)) (by simp;omega);have hc5:=hb5.c0
  have hf:ovP L i=true:=by
   rw[b2s,List.any_eq_true,←HCI.out];refine⟨k.1,hpre.subset (List.mem_map.2 ⟨k,hk,rfl⟩),?_⟩;rw[List.any_eq_true];exact⟨r,List.mem_range.2 (by rw[←HNM.out];exact hr),hkr⟩
  rw[hf];exact⟨.bool true,by simp[results,results163,go_sem,hc5],rfl,a0i (hB1.grown (grownBy_putObj' _ D _) hB1.size (fun k e=>by cases e;omega))⟩
structure Am(w:World)(B b:Nat)(v:Value)(m1 m2 m3 n1 n2 n3:Nat)(D1 D2 D3:DK)(nr:Nat)(rows:List Value):Prop where
 blk:A3 w b #[v, .map (some m1), .map (some m2), .map (some m3)] 151
 own:w.ownsRow B 44 4 v nr rows
 o1:w.ownsMap (H:=Unit) prog 9 (plainElem prog 3) m1 n1 D1
 o2:w.ownsMap (H:=Unit) prog 255 (plainElem prog 3) m2 n2 D2
 o3:w.ownsMap (H:=Unit) prog 255 (plainElem prog 3) m3 n3 D3
 d12:m1≠m2
 d13:m1≠m3
 d23:m2≠m3
 low:B≤b∧B≤m1∧B≤m2∧B≤m3
variable {D:DK}
theorem a2A{R:Value→Option (DK×List MemPlace)}(h:w.ownsMap (H:=Unit) prog k R m n D){b:Nat}{cs:Array Value}(hb:A3 w b cs t):m≠b:=by
 obtain⟨es,clock,h1,-⟩:=h;rintro rfl;rw[show w.heap[m]? =some (.cells cs t (0,0))from hb]at h1;cases h1
theorem a4V{R:Value→Option (DK×List MemPlace)}(h:w.ownsMap (H:=Unit) prog k R m n D){base e sz l:Nat}{v:Value}{xs:List Value}(ho:w.ownsRow base e sz v l xs):v.ownBlock≠some m:=by
 obtain⟨es,clock,h1,-⟩:=h;rcases ho.2 with⟨rfl,-⟩|⟨g,cap,cur,rfl,-,hg,-⟩
 ·simp[Value.ownBlock]
 ·simp only[Value.ownBlock,ne_eq,Option.some.injEq];rintro rfl;rw[h1]at hg;cases hg
theorem PM.below{a:Option Addr}{ms:List Me}(h:PM w lim a ms)(hb:Below B w w')(hl:lim≤B):PM w' lim a ms:=fun j hj=>by
 obtain⟨p,pa,ca,ha,pk,ck,hk,h1,h2,h3,h4,h5,h6⟩:=h j hj;exact c6d
section
variable{w w':World}{B b m1 m2 m3 n1 n2 n3 nr n':Nat}{v:Value}{D1 D2 D3 D':DK}{rows:List Value}
theorem Am.keep(h:Am w B b v m1 m2 m3 n1 n2 n3 D1 D2 D3 nr rows)(hg:w.grownBy w' none):Am w' B b v m1 m2 m3 n1 n2 n3 D1 D2 D3 nr rows:=
 ⟨h.blk.keep hg (by simp),h.own.kept hg (by cases v.ownBlock<;>simp),h.o1.kept hg (by simp),h.o2.kept hg (by simp),h.o3.kept hg (by simp),h.d12,h.d13,h.d23,h.low⟩
theorem Am.put1(h:Am w B b v m1 m2 m3 n1 n2 n3 D1 D2 D3 nr rows)(hg:w.grownBy w' (some m1))(ho:w'.ownsMap (H:=Unit) prog 9 (plainElem prog 3) m1 n' D'):Am w' B b v m1 m2 m3 n' n2 n3 D' D2 D3 nr rows:=
 ⟨h.blk.keep hg (by have:=a2A h.o1 h.blk;simp;omega),h.own.kept hg (.inr (a4V h.o1 h.own)),ho,h.o2.kept hg (by have:=h.d12;simp;omega),h.o3.kept hg (by have:=h.d13;simp;omega),h.d12,h.d13,h.d23,h.low⟩
theorem Am.put2(h:Am w B b v m1 m2 m3 n1 n2 n3 D1 D2 D3 nr rows)(hg:w.grownBy w' (some m2))(ho:w'.ownsMap (H:=Unit) prog 255 (plainElem prog 3) m2 n' D'):Am w' B b v m1 m2 m3 n1 n' n3 D1 D' D3 nr rows:=
 ⟨h.blk.keep hg (by have:=a2A h.o2 h.blk;simp;omega),h.own.kept hg (.inr (a4V h.o2 h.own)),h.o1.kept hg (by have:=h.d12;simp;omega),ho,h.o3.kept hg (by have:=h.d23;simp;omega),h.d12,h.d13,h.d23,h.low⟩
theorem Am.put3(h:Am w B b v m1 m2 m3 n1 n2 n3 D1 D2 D3 nr rows)(hg:w.grownBy w' (some m3))(ho:w'.ownsMap (H:=Unit) prog 255 (plainElem prog 3) m3 n' D'):Am w' B b v m1 m2 m3 n1 n2 n' D1 D2 D' nr rows:=
 ⟨h.blk.keep hg (by have:=a2A h.o3 h.blk;simp;omega),h.own.kept hg (.inr (a4V h.o3 h.own)),h.o1.kept hg (by have:=h.d13;simp;omega),h.o2.kept hg (by have:=h.d23;simp;omega),ho,h.d12,h.d13,h.d23,h.low⟩
end
variable {k:Nat}
theorem b1n(c:Cl)(ns:List ByteArray)(D:DK)(hk:k<ns.length):((G6 c ns).take (k+1)).foldl G0 D=G0 (((G6 c ns).take k).foldl G0 D) (L9 c.name ns[k],k):=by
 have hl:k<(G6 c ns).length:=by unfold G6;simpa using hk
 rw[List.take_succ_eq_append_getElem hl,List.foldl_append];unfold G6;simp[hk]
theorem b1N(c:Cl)(ns:List ByteArray):(G6 c ns).take ns.length=G6 c ns:=List.take_of_length_le (by unfold G6;simp)
variable {w:World}
theorem a6e{P:Program}{c:Code}{Q:Exit→Act→World→Prop}{a:Act}(J:Act→World→Prop)(h:c.wp P (Exit.then J (fun _ _ _=>False)) a w)(hQ:∀a' w',J a' w'→Q .normal a' w'):c.wp P Q a w:=
 Code.wp_mono (fun e a' w' he=>by
  cases e with
  |normal=>exact hQ _ _ he
  |ret=>exact he.elim
  |panic ch=>exact he.elim
  |outgrown=>exact he.elim
  |exit i=>exact he.elim
  |goto i=>exact he.elim) h
theorem c1N(w:World)(B b:Nat)(v:Value)(m1 m2 m3 n1 n2 n3 nr:Nat)(D1 D2 D3:DK)(rows:List Value)(lim:Nat)(h:Hid (Am w B b v m1 m2 m3 n1 n2 n3 D1 D2 D3 nr rows))(hB:B≤w.heap.size)(hl:lim≤B)(c:Cl)(qc:Qs)(hF:Hid (B8 w lim 3 H8 qc.fa c.fields))(hM:Hid (PM w lim qc.ma c.methods))
 (hfl:c.fields.length≤255) (hml:c.methods.length≤255) (hn:Hid (c.name.size≤maxLen)) (hfn:Hid (∀x∈K2 c,x.size≤maxLen)) (hmn:Hid (∀x∈G2 c,x.size≤maxLen)) (hnr:nr≤1000) (hn1:n1≤1000000) (hn2:n2≤1000000) (hn3:n3≤1000000):
 Calls prog 157 #[.pointer (some ⟨b,0,none⟩), .agg (P9 c qc).toArray] w fun e w'=>e= .returned (.tuple #[])∧Below B w w'∧
  ∃v',Am w' B b v' m1 m2 m3 (n1+1) (n2+c.fields.length) (n3+c.methods.length) (G0 D1 (O7 c.name,nr)) ((G6 c (K2 c)).foldl G0 D2) ((G6 c (G2 c)).foldl G0 D3) (nr+1) (rows++P9 c qc):=by
 obtain⟨fa,fk,ma,mk⟩:=qc;dsimp only at hF hM;obtain⟨va,vk,rfl⟩:=F0 h.out.own;obtain⟨nf,hf⟩:∃nf,nf=c.fields.length:=⟨_,rfl⟩
 obtain⟨nm,hm⟩:∃nm,nm=c.methods.length:=⟨_,rfl⟩
 have HNF:=A0 hf;have HNM:=A0 hm;have HC:Hid (P9 c ⟨fa,fk,ma,mk⟩=[.string c.name, .string c.super, .slice fa nf fk, .slice ma nm mk]):=by unfold Hid P9;rw[hf,hm]
 rw[HC.out,←hf,←hm];rw[←hf]at hfl;rw[←hm]at hml;clear hf hm;have hA0:=h.out.keep (A2 w (.cells #[.string c.name, .string c.super, .slice fa nf fk, .slice ma nm mk] 44) none);have HA0:=A0 hA0;have HBc:Hid (A3 (w.alloc (.cells #[.string c.name, .string c.super, .slice fa nf fk, .slice ma nm mk] 44)) w.heap.size #[.string c.name, .string c.super, .slice fa nf fk, .slice ma nm mk] 44):=A3.new w _ _;have c0:=hA0.blk.c0;have c1:=hA0.blk.c1;clear hA0;have HMw:=A0 HA0.out.o1.drew;go_enter func157,ntmps157;go_wp2_with fail
 refine a6e (fun a' W=>(∃t:Nat→Value,a'={tmps:= #[.pointer (some ⟨b,0,none⟩),t 1,t 2, .pointer (some ⟨w.heap.size,0,none⟩),t 4,t 5,t 6,t 7,t 8,t 9,t 10,t 11,t 12,t 13,t 14,t 15,t 16,t 17,t 18,t 19,t 20,t 21,t 22,t 23,t 24,t 25,t 26,t 27,t 28,t 29,t 30,t 31,t 32,t 33,t 34,t 35,t 36,t 37,t 38,t 39,t 40,t 41,t 42,t 43,t 44,t 45,t 46,t 47,t 48,t 49,t 50,t 51,t 52,t 53,t 54,t 55,t 56,t 57,t 58,t 59,t 60,t 61,t 62,t 63,t 64,t 65,t 66,t 67,t 68,t 69],defers:=[]})∧Am W B b (.slice va nr vk) m1 m2 m3 (n1+1) n2 n3 (G0 D1 (O7 c.name,nr)) D2 D3 nr rows∧A3 W w.heap.size #[.string c.name, .string c.super, .slice fa nf fk, .slice ma nm mk] 44∧Below B w W) ?h ?q
 case h=>
  go_region_law (go_simp
                 go_at_call 242
                 refine(b7P _ m1 n1 nr D1 c.name hn (by omega) (by unfold maxLen;omega) HMw).mono ?_;rintro e w1 ⟨rfl,ho1,hg1⟩;dsimp only)
  all_goals exact⟨a1t rfl,(HA0.out.keep (B6 _ _)).put1 hg1 ho1,(HBc.out.keep (B6 _ none) (by simp)).keep hg1 (by have:=a2A HA0.out.o1 HBc.out;simp;omega),(((Below.refl B w).alloc hB _).drew).grown hg1 (by simp[World.drew];omega) (fun k e=>by cases e;exact HA0.out.low.2.1)⟩
 rintro _ W ⟨⟨t,rfl⟩,hA1,hb1,hB1⟩;have HA1:=A0 hA1;have HB1:=A0 hb1;have HBL:=A0 hB1;clear c0 c1 HMw HA0 HBc hA1 hb1 hB1;have c2:=HB1.out.c2;go_wp2_with fail
 clear c2;go_loopw [23] (fun i wr=>∃k:Nat,k≤nf∧i= .int .i64 k∧Hid (Am wr B b (.slice va nr vk) m1 m2 m3 (n1+1) (n2+k) n3 (G0 D1 (O7 c.name,nr)) (((G6 c (K2 c)).take k).foldl G0 D2) D3 nr rows)∧Hid (A3 wr w.heap.size #[.string c.name, .string c.super, .slice fa nf fk, .slice ma nm mk] 44)∧Hid (Below B w wr)) (fun i _=>nf-(intOf i).toNat)
 case atStart=>exact⟨0,by omega,rfl,HA1,HB1,HBL⟩
 case round=>
  clear HA1 HB1 HBL;obtain⟨k,hk,rfl,HA1,HB1,HBL⟩:=hrel;by_cases hlt:k<nf
  ·have hkl:k<c.fields.length:=by rw[←HNF.out];exact hlt
   have hBw:=Nat.le_trans hB HBL.out.size;obtain⟨fp,hfp,-,e0,e1,e2⟩:=b8s (a1R hF.out HBL.out hl) hkl;obtain⟨fx,hfx⟩:∃fx,fx=c.fields[k]:=⟨_,rfl⟩
   rw[←hfx]at e0 e1 e2;have hkn:k<(K2 c).length:=by unfold K2;simpa using hkl
   have hxn:(K2 c)[k]=fx.name:=by rw[hfx];exact List.getElem_map (fun f:T7=>f.name)
   have HST:Hid (((G6 c (K2 c)).take (k+1)).foldl G0 D2=G0 (((G6 c (K2 c)).take k).foldl G0 D2) (L9 c.name fx.name,k)):=by unfold Hid;rw[b1n c _ D2 hkn,hxn]
   have hxs:Hid (fx.name.size≤maxLen):=by unfold Hid;rw[←hxn];exact hfn.out _ (List.getElem_mem hkn)
   have hA2:=HA1.out.keep (A2 wr (.cells (H8 fx).toArray 129) none);have HA2:=A0 hA2;have HB2:Hid (A3 (wr.alloc (.cells (H8 fx).toArray 129)) w.heap.size #[.string c.name, .string c.super, .slice fa nf fk, .slice ma nm mk] 44):=HB1.out.keep (A2 _ _ none) (by simp);have c2:(wr.alloc (.cells #[.string fx.name, .int .i64 fx.ty.kind, .string fx.ty.name] 129)).cell? ⟨b,2,none⟩=some (.map (some m2)):=hA2.blk.cell 2 _ rfl;have b0:(wr.alloc (.cells #[.string fx.name, .int .i64 fx.ty.kind, .string fx.ty.name] 129)).cell? ⟨w.heap.size,0,none⟩=some (.string c.name):=HB2.out.cell 0 _ rfl;obtain⟨D,hD⟩:∃D,D=((G6 c (K2 c)).take k).foldl G0 D2:=⟨_,rfl⟩
   have HD:=A0 hD;have HMw:Hid ((wr.alloc (.cells (H8 fx).toArray 129)).drew.ownsMap (H:=Unit) prog 255 (plainElem prog 3) m2 (n2+k) D):=by rw[hD];exact HA2.out.o2.drew
   clear hfx hkn hxn hA2 hD;subst hfp;go_wp2_with fail
   go_region_law (go_simp
                  go_at_call 243
                  refine(b1j _ m2 (n2+k) k D c.name fx.name hn hxs (by omega) (by unfold maxLen;omega) HMw).mono ?_;rintro e w1 ⟨rfl,ho1,hg1⟩;dsimp only)
   all_goals
    have HA3:Hid (Am w1 B b (.slice va nr vk) m1 m2 m3 (n1+1) (n2+(k+1)) n3 (G0 D1 (O7 c.name,nr)) (((G6 c (K2 c)).take (k+1)).foldl G0 D2) D3 nr rows):=by
     have:=(HA2.out.keep (B6 _ none)).put2 hg1 ho1;unfold Hid;rw[HST.out,←HD.out];exact this
    have HB3:=A0 ((HB2.out.keep (B6 _ none) (by simp)).keep hg1 (by have:=a2A HA2.out.o2 HB2.out;simp;omega));have HL3:=A0 (((HBL.out.alloc hBw _).drew).grown hg1 (by simp[World.drew];omega) (fun k e=>by cases e;exact HA2.out.low.2.2.1));clear ho1 hg1 c2 b0 HMw HD HST;go_wp2_with fail
    go_roundw
    case rel=>exact⟨k+1,by omega,by go_num,HA3,HB3,HL3⟩
    case measure=>simp[intOf];omega
  ·have hkn:k=nf:=by omega
   have HA4:Hid (Am wr B b (.slice va nr vk) m1 m2 m3 (n1+1) (n2+nf) n3 (G0 D1 (O7 c.name,nr)) ((G6 c (K2 c)).foldl G0 D2) D3 nr rows):=by
    have:=HA1.out;rw[hkn,show(G6 c (K2 c)).take nf=G6 c (K2 c)from by rw[HNF.out,show c.fields.length=(K2 c).length from by unfold K2;simp];exact b1N c _]at this;exact this
   have c3:=HB1.out.c3;obtain⟨DF,hDF⟩:∃DF,DF=(G6 c (K2 c)).foldl G0 D2:=⟨_,rfl⟩
   have HDF:=A0 hDF;rw[←hDF]at HA4;clear HA1 hDF;go_wp2_with fail
   clear c3 hkn hlt hk;go_loopw [43] (fun i wr=>∃k:Nat,k≤nm∧i= .int .i64 k∧Hid (Am wr B b (.slice va nr vk) m1 m2 m3 (n1+1) (n2+nf) (n3+k) (G0 D1 (O7 c.name,nr)) DF (((G6 c (G2 c)).take k).foldl G0 D3) nr rows)∧Hid (A3 wr w.heap.size #[.string c.name, .string c.super, .slice fa nf fk, .slice ma nm mk] 44)∧Hid (Below B w wr)) (fun i _=>nm-(intOf i).toNat)
   case atStart=>exact⟨0,by omega,rfl,HA4,HB1,HBL⟩
   case round=>
    clear HA4 HB1 HBL;obtain⟨k,hk,rfl,HA1,HB1,HBL⟩:=hrel;by_cases hlt:k<nm
    ·have hkl:k<c.methods.length:=by rw[←HNM.out];exact hlt
     have hBw:=Nat.le_trans hB HBL.out.size;obtain⟨fp,pa,ca,ha,pk,ck,hh,hfp,-,-,-,-,e0,e1,e2,e3,e4,e5,e6,e7⟩:=b9A (PM.below hM.out HBL.out hl) hkl;obtain⟨mx,hmx⟩:∃mx,mx=c.methods[k]:=⟨_,rfl⟩
     rw[←hmx]at e0 e1 e2 e3 e4 e5 e6 e7;have hkn:k<(G2 c).length:=by unfold G2;simpa using hkl
     have hxn:(G2 c)[k]=mx.name:=by rw[hmx];exact List.getElem_map (fun f:Me=>f.name)
     have HST:Hid (((G6 c (G2 c)).take (k+1)).foldl G0 D3=G0 (((G6 c (G2 c)).take k).foldl G0 D3) (L9 c.name mx.name,k)):=by unfold Hid;rw[b1n c _ D3 hkn,hxn]
     have hxs:Hid (mx.name.size≤maxLen):=by unfold Hid;rw[←hxn];exact hmn.out _ (List.getElem_mem hkn)
     have hA2:=HA1.out.keep (A2 wr (.cells (mV mx pa pk ca ck ha hh) 102) none);have HA2:=A0 hA2;have HB2:Hid (A3 (wr.alloc (.cells (mV mx pa pk ca ck ha hh) 102)) w.heap.size #[.string c.name, .string c.super, .slice fa nf fk, .slice ma nm mk] 44):=HB1.out.keep (A2 _ _ none) (by simp);have c2:=hA2.blk.c3;have b0:=HB2.out.c0;obtain⟨D,hD⟩:∃D,D=((G6 c (G2 c)).take k).foldl G0 D3:=⟨_,rfl⟩
     have HD:=A0 hD;have HMw:Hid ((wr.alloc (.cells (mV mx pa pk ca ck ha hh) 102)).drew.ownsMap (H:=Unit) prog 255 (plainElem prog 3) m3 (n3+k) D):=by rw[hD];exact HA2.out.o3.drew
     clear hmx hkn hxn hA2 hD;subst hfp;go_wp2_with fail
     go_region_law (go_simp
                    go_at_call 243
                    refine(b1j _ m3 (n3+k) k D c.name mx.name hn hxs (by omega) (by unfold maxLen;omega) HMw).mono ?_;rintro e w1 ⟨rfl,ho1,hg1⟩;dsimp only)
     all_goals
      have HA3:Hid (Am w1 B b (.slice va nr vk) m1 m2 m3 (n1+1) (n2+nf) (n3+(k+1)) (G0 D1 (O7 c.name,nr)) DF (((G6 c (G2 c)).take (k+1)).foldl G0 D3) nr rows):=by
       have:=(HA2.out.keep (B6 _ none)).put3 hg1 ho1;unfold Hid;rw[HST.out,←HD.out];exact this
      have HB3:=A0 ((HB2.out.keep (B6 _ none) (by simp)).keep hg1 (by have:=a2A HA2.out.o3 HB2.out;simp;omega));have HL3:=A0 (((HBL.out.alloc hBw _).drew).grown hg1 (by simp[World.drew];omega) (fun k e=>by cases e;exact HA2.out.low.2.2.2));clear ho1 hg1 c2 b0 HMw HD HST;go_wp2_with fail
      go_roundw
      case rel=>exact⟨k+1,by omega,by go_num,HA3,HB3,HL3⟩
      case measure=>simp[intOf];omega
    ·have hkn:k=nm:=by omega
     have HA4:Hid (Am wr B b (.slice va nr vk) m1 m2 m3 (n1+1) (n2+nf) (n3+nm) (G0 D1 (O7 c.name,nr)) DF ((G6 c (G2 c)).foldl G0 D3) nr rows):=by
      have:=HA1.out;rw[hkn,show(G6 c (G2 c)).take nm=G6 c (G2 c)from by rw[HNM.out,show c.methods.length=(G2 c).length from by unfold G2;simp];exact b1N c _]at this;exact this
     obtain⟨DM,hDM⟩:∃DM,DM=(G6 c (G2 c)).foldl G0 D3:=⟨_,rfl⟩
     have HDM:=A0 hDM;rw[←hDM]at HA4;clear HA1 hDM;have hBw:=Nat.le_trans hB HBL.out.size;have c0:=HA4.out.blk.c0;have z0:=HA4.out.blk.frozen 0;have hwl:=HA4.out.blk.lt;have hne:=I4 HA4.out.own HA4.out.blk (by decide);have c0a:∀o,(wr.drew.alloc o).cell? ⟨b,0,none⟩=some (.slice va nr vk):=fun o=>(A1 (B6 _ _) (A2 _ _ none)).cell c0 (by simp)
     have z0a:=fun o=>((A2 wr.drew o none).frozen_far ⟨b,0,none⟩ hwl (by simp)).trans z0
     have b0:=HB1.out.c0;have b1:=HB1.out.c1;have b2:=HB1.out.c2;have b3:=HB1.out.c3;obtain⟨inf,hi0,hz0,hz1,hz2⟩:=info_parts b2H;have HLN:=A0 HC.out;go_wp2_with fail
     go_region_law (refine step_append_lies _ rfl _ _ 90 rfl B 44 inf _ 4 80 underlying90 hi0 hz0 hz1 hz2 rfl (by decide) _ nr rows rfl ((World.ownsRow.drew HA4.out.own).alloc _) ⟨wr.heap.size,0,none⟩ 1 1 [.string c.name, .string c.super, .slice fa nf fk, .slice ma nm mk] rfl rfl (S6 wr.drew _ _) (by simp[Value.oneCell']) (by omega) (by unfold maxLen;omega) (by omega) (by simp;omega) _ rfl ?_
                    intro g cap w4 hown4 hgrow4 hat hlt4;have c4:=(hgrow4.cell_far ⟨b,0,none⟩ (by simp;omega) (fun e=>hne e.symm)).trans (c0a _);have f4:=(hgrow4.frozen_far ⟨b,0,none⟩ (by simp;omega) (fun e=>hne e.symm)).trans (z0a _);have hgr:wr.grownBy w4 (Value.slice va nr vk).ownBlock:=A1 (A1 (B6 _ _) (A2 _ _ _)) hgrow4
                    have HM1:Hid (Am (w4.setCell ⟨b,0,none⟩ (.slice (some ⟨g,0,none⟩) (nr+1) cap)) B b (.slice (some ⟨g,0,none⟩) (nr+1) cap) m1 m2 m3 (n1+1) (n2+nf) (n3+nm) (G0 D1 (O7 c.name,nr)) DF DM (nr+1) (rows++ [.string c.name, .string c.super, .slice fa nf fk, .slice ma nm mk])):=by
                     have hb4:=HA4.out.blk.keep hgr (fun e=>hne e.symm);have q1:=HA4.out.o1.kept hgr (fun e=>a4V HA4.out.o1 HA4.out.own e.symm);have q2:=HA4.out.o2.kept hgr (fun e=>a4V HA4.out.o2 HA4.out.own e.symm);have q3:=HA4.out.o3.kept hgr (fun e=>a4V HA4.out.o3 HA4.out.own e.symm);exact⟨hb4.set 0 _,hown4.kept (A9 w4 ⟨b,0,none⟩ _) (.inr (I4 hown4 hb4 (by decide))),q1.kept (A9 w4 ⟨b,0,none⟩ _) (by have:=a2A q1 hb4;simp;omega),q2.kept (A9 w4 ⟨b,0,none⟩ _) (by have:=a2A q2 hb4;simp;omega),q3.kept (A9 w4 ⟨b,0,none⟩ _) (by have:=a2A q3 hb4;simp;omega),HA4.out.d12,HA4.out.d13,HA4.out.d23,HA4.out.low⟩
                    have HG1:Hid (Below B w (w4.setCell ⟨b,0,none⟩ (.slice (some ⟨g,0,none⟩) (nr+1) cap))):=(HBL.out.grown hgr hBw (fun x e=>(Y4 HA4.out.own e).1)).setCell (p:=⟨b,0,none⟩) HA4.out.low.1 _;clear hown4 hgrow4 hat hgr)
     all_goals
      go_end0;exact⟨rfl,HG1.out,_,by rw[←HDF.out,←HDM.out];exact HM1.out⟩
def Gm(w:World)(B b:Nat)(v:Value)(m1 m2 m3:Nat)(L:List Cl)(q:Nat→Qs):Prop:=
 Am w B b v m1 m2 m3 L.length (N3 K2 L).length (N3 G2 L).length (O2 (Y6 L)) (O2 (N3 K2 L)) (O2 (N3 G2 L)) L.length ((List.range L.length).flatMap (V5 L q))
theorem a8Y(c:Cl)(ns:List ByteArray):(G6 c ns).length=ns.length:=by unfold G6;simp
theorem b2j(l m:List (Ky×Nat)):O2 (l++m)=m.foldl G0 (O2 l):=by unfold O2;rw[List.foldl_append]
theorem a7v(L:List Cl)(c:Cl):cl (L++ [c]) L.length=c:=by have:=a6z (l:=L) (m:=[c]) (i:=0);simp[cl]
variable {L:List Cl}
theorem Gm.of{B b:Nat}{v:Value}{m1 m2 m3:Nat}{q:Nat→Qs}{c:Cl}
 (h:Am w B b v m1 m2 m3 (L.length+1) ((N3 K2 L).length+c.fields.length) ((N3 G2 L).length+c.methods.length) (G0 (O2 (Y6 L)) (O7 c.name,L.length)) ((G6 c (K2 c)).foldl G0 (O2 (N3 K2 L))) ((G6 c (G2 c)).foldl G0 (O2 (N3 G2 L))) (L.length+1) ((List.range L.length).flatMap (V5 L q)++P9 c (q L.length))):Gm w B b v m1 m2 m3 (L++ [c]) q:=by
 unfold Gm
 rw[b0L,b8E,b1m,b1m,b2j,b2j,List.length_append,List.length_append,List.length_append,a8Y,a8Y,List.length_singleton,
  show(K2 c).length=c.fields.length from by unfold K2;simp,show(G2 c).length=c.methods.length from by unfold G2;simp]
 have e:(List.range (L.length+1)).flatMap (V5 (L++ [c]) q)=(List.range L.length).flatMap (V5 L q)++P9 c (q L.length):=by
  rw[List.range_succ,List.flatMap_append];congr 1
  ·refine a7W (fun i hi=> ?_);unfold V5;rw[U8 (List.mem_range.1 hi)]
  ·simp only[List.flatMap_cons,List.flatMap_nil,List.append_nil,V5,a7v]
 rw[e];exact h
theorem b2x{f:Cl→List ByteArray}(h:∀c∈L,(f c).length≤255)(hl:L.length≤64):(N3 f L).length≤64*255:=by
 unfold N3;have:=b2P (f:=fun c=>G6 c (f c)) (c:=255) (l:=L) (fun c hc=>by rw[a8Y];exact h c hc);exact Nat.le_trans this (Nat.mul_le_mul_right _ hl)
def Okc(c:Cl):Prop:=c.name.size≤maxLen∧c.super.size≤maxLen∧(∀x∈K2 c,x.size≤maxLen)∧(∀x∈G2 c,x.size≤maxLen)∧c.fields.length≤255∧c.methods.length≤255
theorem b2o(w:World)(B b:Nat)(v:Value)(m1 m2 m3:Nat)(L:List Cl)(q:Nat→Qs)(lim:Nat)(h:Gm w B b v m1 m2 m3 L q)(hB:B≤w.heap.size)(hl:lim≤B)(c:Cl)(qc:Qs)(hq:q L.length=qc)(hF:B8 w lim 3 H8 qc.fa c.fields)(hM:PM w lim qc.ma c.methods)(hc:Okc c)(hL:L.length≤63)(hok:∀c∈L,Okc c):
 Calls prog 157 #[.pointer (some ⟨b,0,none⟩), .agg (P9 c qc).toArray] w fun e w'=>e= .returned (.tuple #[])∧Below B w w'∧∃v',Gm w' B b v' m1 m2 m3 (L++ [c]) q:=by
 have k2:=b2x (f:=K2) (L:=L) (fun c hc=>by have:=(hok c hc).2.2.2.2.1;unfold K2;simpa using this) (by omega);have k3:=b2x (f:=G2) (L:=L) (fun c hc=>by have:=(hok c hc).2.2.2.2.2;unfold G2;simpa using this) (by omega);refine(c1N w B b v m1 m2 m3 _ _ _ _ _ _ _ _ lim h hB hl c qc hF hM hc.2.2.2.2.1 hc.2.2.2.2.2 hc.1 hc.2.2.1 hc.2.2.2.1 (by omega) (by omega) (by omega) (by omega)).mono ?_;rintro e w' ⟨rfl,hb,v',ha⟩;refine⟨rfl,hb,v',Gm.of ?_⟩;rw[hq];exact ha
def Bin(w:World):Prop:=1<w.heap.size∧∀i,i<9→w.cell? ⟨1,i*2,none⟩=some (.string (cl A7 i).name)∧w.cell? ⟨1,i*2+1,none⟩=some (.string (cl A7 i).super)
theorem Bin.keep{w':World}(h:Bin w)(hg:w.grownBy w' none):Bin w':=⟨Nat.lt_of_lt_of_le h.1 hg.size,fun i hi=>⟨hg.cell (h.2 i hi).1 (by simp),hg.cell (h.2 i hi).2 (by simp)⟩⟩
def a7L:List Value:=[.string F2, .string C5, .string U0, .string F2, .string a2O, .string U0, .string a2C, .string U0, .string a2I, .string U0, .string a2J, .string U0, .string a2H, .string U0, .string a2z, .string U0, .string a2D, .string U0]
theorem c1L:a7L=(List.range 9).flatMap fun i=> [.string (cl A7 i).name, .string (cl A7 i).super]:=rfl
theorem Bin.range(h:Bin w):w.rangeAt 1 0 a7L:=by
 intro j v hj;have hl:j<18:=by have:=(List.getElem?_eq_some_iff.1 hj).1;exact this
 obtain⟨k,r,rfl,hk,hr⟩:∃k r,j=k*2+r∧k<9∧r<2:=⟨j/2,j % 2,by omega,by omega,by omega⟩
 rw[c1L,a0T (fun i=> [Value.string (cl A7 i).name,Value.string (cl A7 i).super]) 2 (fun _=>rfl) (List.range 9) k (by simpa using hk) r hr]at hj;simp only[List.getElem_range]at hj;have h2:=h.2 k hk;rw[Nat.zero_add];rcases(by omega:r=0∨r=1)with rfl|rfl
 ·injection hj with hj
  rw[←hj];exact h2.1
 ·injection hj with hj
  rw[←hj];exact h2.2
theorem b7l(hk:k<9)(w:World):(Instr.index 280 (.agg a7L.toArray) (.int .i64 (k:Int))).run prog w= .ok (.agg #[.string (cl A7 k).name, .string (cl A7 k).super]) w:=by
 rcases a3C hk with rfl|rfl|rfl|rfl|rfl|rfl|rfl|rfl|rfl<;>kernel_rfl
theorem b1M{i:Nat}(hi:i<9):Okc (cl A7 i):=by
 rcases a3C hi with rfl|rfl|rfl|rfl|rfl|rfl|rfl|rfl|rfl<;>exact⟨by decide,by decide,(fun x hx=>by cases hx),(fun x hx=>by cases hx),by decide,by decide⟩
theorem b8L(hk:k<9):A7.take (k+1)=A7.take k++ [cl A7 k]:=by
 have h:k<A7.length:=hk;rw[List.take_succ_eq_append_getElem h,R8 h]
theorem a7f(k:Nat):∀c∈A7.take k,Okc c:=fun c hc=>by
 obtain⟨j,hj,rfl⟩:=List.getElem_of_mem (List.mem_of_mem_take hc);rw[←R8 hj];exact b1M hj
theorem b6Z(w:World)(lim:Nat)(hl:lim≤w.heap.size)(fs:List Cl)(qf:Nat→Qs)(a:Option Addr)(kk:Nat)(hG:Hid (Gvn w lim fs qf))(hO:Hid (∀c∈fs,Okc c))(hR:Hid (B8 w lim 4 (V5 fs qf) a (List.range fs.length)))(hBin:Hid (Bin w)):
 Calls prog 100 #[.slice a fs.length kk] w fun e w'=>∃b v m1 m2 m3,e= .returned (.pointer (some ⟨b,0,none⟩))∧Below w.heap.size w w'∧Gm w' w.heap.size b v m1 m2 m3 (A7++fs) (O9 qf):=by
 obtain⟨n,hn⟩:∃n,n=fs.length:=⟨_,rfl⟩
 have HN:=A0 hn;have hn12:n≤12:=by rw[hn];exact hG.out.few
 rw[←hn];rw[←hn]at hR;clear hn;have h1:=((World.ownsMap_made (H:=Unit) w prog 9 (plainElem prog 3)).alloc (.map #[] 0)).alloc (.map #[] 0);have h2:=(World.ownsMap_made (H:=Unit) (w.alloc (.map #[] 0)) prog 255 (plainElem prog 3)).alloc (.map #[] 0);have h3:=World.ownsMap_made (H:=Unit) ((w.alloc (.map #[] 0)).alloc (.map #[] 0)) prog 255 (plainElem prog 3);have hL0:Below w.heap.size w (((w.alloc (.map #[] 0)).alloc (.map #[] 0)).alloc (.map #[] 0)):=(((Below.refl _ w).alloc (Nat.le_refl _) _).alloc (by simp) _).alloc (by simp;omega) _;have hbin:=hBin.out.keep (show w.grownBy (((w.alloc (.map #[] 0)).alloc (.map #[] 0)).alloc (.map #[] 0)) none from A1 (A1 (A2 _ _ _) (A2 _ _ _)) (A2 _ _ _));have hsz:(((w.alloc (.map #[] 0)).alloc (.map #[] 0)).alloc (.map #[] 0)).heap.size=w.heap.size+1+1+1:=by simp
 simp only[World.size_alloc]at h2 h3;go_enter func100,ntmps100;go_wp2_with fail
 rw[run_makeMap];simp only[Result.andThen_ok];go_wp2_with fail
 rw[run_makeMap];simp only[Result.andThen_ok];go_wp2_with fail
 rw[run_makeMap];simp only[Result.andThen_ok,World.size_alloc];generalize hW3:(((w.alloc (.map #[] 0)).alloc (.map #[] 0)).alloc (.map #[] 0))=W3 at h1 h2 h3 hL0 hbin hsz⊢;clear hW3;have hb0:=A3.new W3 #[.slice none 0 0, .map (some w.heap.size), .map (some (w.heap.size+1)), .map (some (w.heap.size+1+1))] 151;have HG0:Hid (Gm (W3.alloc (.cells #[.slice none 0 0, .map (some w.heap.size), .map (some (w.heap.size+1)), .map (some (w.heap.size+1+1))] 151)) w.heap.size W3.heap.size (.slice none 0 0) w.heap.size (w.heap.size+1) (w.heap.size+1+1) [] (O9 qf)):=⟨hb0,World.ownsRow_nil _ _ _ _,h1.alloc _,h2.alloc _,h3.alloc _,by omega,by omega,by omega,by omega,by omega,by omega,by omega⟩
 have HL0:Hid (Below w.heap.size w (W3.alloc (.cells #[.slice none 0 0, .map (some w.heap.size), .map (some (w.heap.size+1)), .map (some (w.heap.size+1+1))] 151))):=hL0.alloc (by omega) _;have HRA:=A0 ((hbin.keep (A2 W3 (.cells #[.slice none 0 0, .map (some w.heap.size), .map (some (w.heap.size+1)), .map (some (w.heap.size+1+1))] 151) none)).range);clear hbin h1 h2 h3 hL0 hb0 hsz;go_wp2_with (refine wpList_load_mid rfl 280 (.global 1) rfl 1 0 rfl a7L _ HRA.out underlying280 rfl rfl ?_)
 clear HRA;go_loopw [14] (fun i wr=>∃(k:Nat) (v:Value),k≤9∧i= .int .i64 k∧Hid (Gm wr w.heap.size W3.heap.size v w.heap.size (w.heap.size+1) (w.heap.size+1+1) (A7.take k) (O9 qf))∧Hid (Below w.heap.size w wr)) (fun i _=>9-(intOf i).toNat)
 case atStart=>exact⟨0,_,by omega,rfl,HG0,HL0⟩
 case round=>
  clear HG0 HL0;obtain⟨k,v,hk,rfl,HG,HL⟩:=hrel;by_cases hlt:k<9
  ·have hBw:=HL.out.size
   have HADD:Hid (∀ob,Calls prog 157 #[.pointer (some ⟨W3.heap.size,0,none⟩), .agg (P9 (cl A7 k) q0).toArray] (wr.alloc ob) fun e w'=>e= .returned (.tuple #[])∧Below w.heap.size (wr.alloc ob) w'∧∃v',Gm w' w.heap.size W3.heap.size v' w.heap.size (w.heap.size+1) (w.heap.size+1+1) (A7.take (k+1)) (O9 qf)):=fun ob=>by
    have hl9:(A7.take k).length=k:=by rw[List.length_take];have:A7.length=9:=rfl;omega
    rw[b8L hlt];exact b2o (wr.alloc ob) w.heap.size W3.heap.size v _ _ _ _ _ 0 (Am.keep HG.out (A2 _ _ _)) (by simp;omega) (Nat.zero_le _) (cl A7 k) q0 (by rw[hl9,O9,if_pos hlt]) (fun j hj=>by rw[(a3S hlt).1]at hj;cases hj) (fun j hj=>by rw[(a3S hlt).2.1]at hj;cases hj) (b1M hlt) (by rw[hl9];omega) (a7f k)
   have HBO:=A0 (fun ob=>HL.out.alloc hBw ob);have hix:=b7l hlt wr
   have HCV:Hid (P9 (cl A7 k) q0=[.string (cl A7 k).name, .string (cl A7 k).super, .slice none 0 0, .slice none 0 0]):=by
    unfold Hid P9;rw[(a3S hlt).1,(a3S hlt).2.1];rfl
   rw[HCV.out]at HADD;obtain⟨nm,hnm⟩:∃nm,nm=(cl A7 k).name:=⟨_,rfl⟩
   obtain⟨sp,hsp⟩:∃sp,sp=(cl A7 k).super:=⟨_,rfl⟩
   rw[←hnm,←hsp]at hix HADD;clear HG hnm hsp HCV;go_wp2_with (go_at_call 157;refine(HADD.out _).mono ?_;rintro e w4 ⟨rfl,hb4,v',hg4⟩)
   go_roundw
   case rel=>exact⟨k+1,v',by omega,by go_num,hg4,(HBO.out _).trans hb4⟩
   case measure=>simp[intOf];omega
  ·have HG9:Hid (Gm wr w.heap.size W3.heap.size v w.heap.size (w.heap.size+1) (w.heap.size+1+1) A7 (O9 qf)):=by
    have:=HG.out;rw[show k=9 from by omega]at this;exact this
   have hlt9:decide ((k:Int)<9)=false:=by simp;omega
   clear HG;go_wp2_with fail
   go_loopw [27] (fun i wx=>∃(k:Nat) (v:Value),k≤n∧i= .int .i64 k∧Hid (Gm wx w.heap.size W3.heap.size v w.heap.size (w.heap.size+1) (w.heap.size+1+1) (A7++fs.take k) (O9 qf))∧Hid (Below w.heap.size w wx)) (fun i _=>n-(intOf i).toNat)
   case atStart=>exact⟨0,v,by omega,rfl,by rw[List.take_zero,List.append_nil];exact HG9,HL⟩
   case round=>
    clear HG9 HL;obtain⟨k,v,hk,rfl,HG,HL⟩:=hrel;by_cases hlt2:k<n
    ·have hkl:k<fs.length:=by rw[←HN.out];exact hlt2
     have hBw:=HL.out.size;obtain⟨lp,hlp,-,f0,f1,f2,f3⟩:=b8F (a1R hR.out HL.out hl) (k:=k) (by simpa using hlt2);subst hlp;simp only[List.getElem_range]at f0 f1 f2 f3
     have HADD:Hid (∀ob,Calls prog 157 #[.pointer (some ⟨W3.heap.size,0,none⟩), .agg (P9 (cl fs k) (qf k)).toArray] (wr.alloc ob) fun e w'=>e= .returned (.tuple #[])∧Below w.heap.size (wr.alloc ob) w'∧∃v',Gm w' w.heap.size W3.heap.size v' w.heap.size (w.heap.size+1) (w.heap.size+1+1) (A7++fs.take (k+1)) (O9 qf)):=fun ob=>by
      have hl9:=a8N (Nat.le_of_lt hkl);have htk:fs.take (k+1)=fs.take k++ [cl fs k]:=by rw[List.take_succ_eq_append_getElem hkl,R8 hkl]
      rw[htk,←List.append_assoc];have hbl:=HL.out.alloc hBw ob;refine b2o (wr.alloc ob) w.heap.size W3.heap.size v _ _ _ _ _ lim (Am.keep HG.out (A2 _ _ _)) (by simp;omega) hl (cl fs k) (qf k) (by rw[hl9,O9,if_neg (by omega),Nat.add_sub_cancel_left]) (a1R (hG.out.fields k hkl) hbl hl) (PM.below (hG.out.meths.at hkl) hbl hl) (hO.out _ (by rw[R8 hkl];exact List.getElem_mem hkl)) (by rw[hl9];omega) ?_;intro c hc;rcases List.mem_append.1 hc with hc|hc
      ·have:=a7f 9 c;exact this hc
      ·exact hO.out c (List.mem_of_mem_take hc)
     obtain⟨ci,hci⟩:∃ci,ci=cl fs k:=⟨_,rfl⟩
     rw[←hci]at f0 f1 f2 f3 HADD;have HBO:=A0 (fun ob=>HL.out.alloc hBw ob);clear HG hci;go_wp2_with (go_at_call 157;refine(HADD.out _).mono ?_;rintro e w4 ⟨rfl,hb4,v',hg4⟩)
     go_roundw
     case rel=>exact⟨k+1,v',by omega,by go_num,hg4,(HBO.out _).trans hb4⟩
     case measure=>simp[intOf];omega
    ·have hkn:k=n:=by omega
     have HGn:Hid (Gm wr w.heap.size W3.heap.size v w.heap.size (w.heap.size+1) (w.heap.size+1+1) (A7++fs) (O9 qf)):=by
      have:=HG.out;rw[hkn,HN.out,List.take_length]at this;exact this
     go_wp2_with fail
     go_ret;exact⟨W3.heap.size,v,_,_,_,rfl,HL.out,HGn.out⟩
end Kx
namespace Cf
end Cf
namespace Kx
variable {w w':World}
variable {B b lim m1 m2 m3 r:Nat}
variable {v:Value}
variable {L:List Cl}
variable {q:Nat→Qs}
theorem Gm.kls(h:Gm w B b v m1 m2 m3 L q)(hn:0<L.length)(hok:∀c∈L,Okc c)(hs:L.length≤65536):∃p cap,v= .slice (some p) L.length cap∧G9 w w.heap.size b L p cap m1 m2 m3 q:=by
 obtain⟨a,k,rfl⟩:=F0 h.own;obtain⟨g,cap,hv,-,hg⟩:=h.own.form hn;injection hv with hv _ hk
 subst hv;have hlt:∀{m n k:Nat} {D:DK} {R:Value→Option (DK×List MemPlace)},w.ownsMap (H:=Unit) prog k R m n D→m<w.heap.size:=fun hm=>hm.lt
 have hz:∀i,i<L.length→(cl L i).name.size≤maxLen∧(cl L i).super.size≤maxLen:=fun i hi=>by
  have:=hok (cl L i) (by rw[R8 hi];exact List.getElem_mem hi);exact⟨this.1,this.2.1⟩
 refine⟨⟨g,0,none⟩,k,rfl,h.blk.lt,hg,h.o1.lt,h.o2.lt,h.o3.lt,h.blk.cell 0 _ rfl,h.blk.cell 1 _ rfl,h.blk.cell 2 _ rfl,h.blk.cell 3 _ rfl,fun i hi r u hu=> ?_,h.o1,h.o2,h.o3,hz,hs⟩;have hrd:=a1B (w:=w) (xs:=List.range L.length) (b2g L q) (by simpa using h.own);obtain⟨p,h1,-,h3⟩:=hrd i (by simpa using hi);injection h1 with h1
 subst h1;exact h3 r u (by simpa[V5]using hu)
def a6a(b:Nat):List Value:=[.int .i64 7, .func (.func 158) #[.pointer (some ⟨b,0,none⟩)] #[], .int .i64 8, .func (.func 159) #[.pointer (some ⟨b,0,none⟩)] #[], .int .i64 9, .func (.func 160) #[.pointer (some ⟨b,0,none⟩)] #[], .int .i64 10, .func (.func 161) #[.pointer (some ⟨b,0,none⟩)] #[], .int .i64 11, .func (.func 162) #[.pointer (some ⟨b,0,none⟩)] #[], .int .i64 12, .func (.func 163) #[.pointer (some ⟨b,0,none⟩)] #[]]
theorem b7K(w:World)(b:Nat):Calls prog 101 #[.pointer (some ⟨b,0,none⟩)] w fun e w'=>e= .returned (.slice (some ⟨w.heap.size,0,none⟩) 6 6)∧w'=w.alloc (.cells (a6a b).toArray 221):=by
 go_enter func101,ntmps101;go_wp2
 go_ret;exact⟨rfl,rfl⟩
def O3(L:List Cl)(r i:Nat):Bool:=if r=0 then twP L i else if r=1 then nsP L i else if r=2 then loP L i else if r=3 then tyP L i else if r=4 then mbP L i else ovP L i
theorem Okc.sized(h:∀c∈L,Okc c):z9 K2 L∧z9 G2 L:=⟨fun c hc=>⟨(h c hc).1,(h c hc).2.2.1⟩,fun c hc=>⟨(h c hc).1,(h c hc).2.2.2.1⟩⟩
def a0n(fs:List Cl)(r:Nat):Except Er Unit:=y9 ((List.range' r (6-r)).map fun k i=>O3 (A7++fs) k (9+i)) fs.length (7+r)
theorem c1k(fs:List Cl):P1 fs=a0n fs 0:=by
 unfold P1 a0n;simp[List.range',O3]
theorem a4C(fs:List Cl){i:Nat}(hk:r<6)(hi:i<fs.length)(h:O3 (A7++fs) r (9+i)=true)(hb:∀j,j<i→O3 (A7++fs) r (9+j)=false):a0n fs r= .error (7+r,i):=by
 unfold a0n;rw[show 6-r=(5-r)+1 from by omega,List.range'_succ,List.map_cons,y9,b0h hi h hb]
theorem a4y(fs:List Cl)(hk:r<6)(h:∀j,j<fs.length→O3 (A7++fs) r (9+j)=false):a0n fs r=a0n fs (r+1):=by
 unfold a0n;rw[show 6-r=(6-(r+1))+1 from by omega,List.range'_succ,List.map_cons,y9,b5X h];rfl
theorem b8f(fs:List Cl):a0n fs 6= .ok ():=rfl
theorem b7t(fs:List Cl)(hok:∀c∈fs,a1N c)(h:∀r,r<3→∀j,j<fs.length→O3 (A7++fs) r (9+j)=false):B9 (A7++fs):=by
 refine b1d fs hok (fun i hi=> ?_) (fun i hi=> ?_) (fun i hi=> ?_)
 ·have:=h 0 (by omega) i hi;rw[←a9J fs i hi];exact this
 ·have:=h 1 (by omega) i hi;simp only[O3,nsP]at this;rw[T2]at this;simpa using this
 ·have:=h 2 (by omega) i hi;simp only[O3,loP]at this;rw[T2]at this;simpa[up]using this
def rF(r:Nat):Nat:=[158,159,160,161,162,163].getD r 0
theorem c1K(w:World)(lim b:Nat)(L:List Cl)(p:Addr)(cap m1 m2 m3:Nat)(q:Nat→Qs)(h:G9 w lim b L p cap m1 m2 m3 q)(hl:lim≤w.heap.size)(hF:l9 w lim L q)(hP:S8 w lim L q)(hZ:SzL L)(hS:z9 K2 L∧z9 G2 L)(r:Nat)(hr:r<6)(hW:3≤r→B9 L)(i:Nat)(hi:9+i<L.length):
 Calls prog (rF r) #[.pointer (some ⟨b,0,none⟩), .int .i64 (9+(i:Int))] w fun e w'=>e= .returned (.bool (O3 L r (9+i)))∧w.grownBy w' none:=by
 have e:(9+(i:Int))=((9+i:Nat):Int):=by omega
 rw[e];rcases(by omega:r=0∨r=1∨r=2∨r=3∨r=4∨r=5)with rfl|rfl|rfl|rfl|rfl|rfl
 ·exact b5Q w lim b L p cap m1 m2 m3 q h (9+i) hi
 ·exact b4e w lim b L p cap m1 m2 m3 q h (9+i) hi
 ·exact b4W w lim b L p cap m1 m2 m3 q h hl (9+i) hi
 ·exact b4j w lim b L p cap m1 m2 m3 q h hl hF hP hZ (9+i) hi
 ·have hw:=hW (by omega);exact b4f w lim b L p cap m1 m2 m3 q h hl (fun n=>hw.up_eq n) hw.dist hS.1 hS.2 hF hP hZ (9+i) hi
 ·have hw:=hW (by omega);exact b4c w lim b L p cap m1 m2 m3 q h hl (fun n=>hw.up_eq n) hw.dist hS.2 hZ hP (9+i) hi
def a3w(B:Nat)(fs:List Cl)(qf:Nat→Qs)(r:Except Er Unit)(e:Ending)(w':World):Prop:=match r with
 | .error er=>e= .returned (.tuple #[.agg #[.slice none 0 0, .map none, .map none, .map none], .int .i64 er.1, .int .i64 er.2])
 | .ok _=>∃b v m1 m2 m3,e= .returned (.tuple #[.agg #[v, .map (some m1), .map (some m2), .map (some m3)], .int .i64 0, .int .i64 0])∧Gm w' B b v m1 m2 m3 (A7++fs) (O9 qf)
theorem Am.far{n1 n2 n3 nr k:Nat}{D1 D2 D3:DK}{rows:List Value}(h:Am w B b v m1 m2 m3 n1 n2 n3 D1 D2 D3 nr rows)(hg:w.grownBy w' (some k))(hk:k<B):Am w' B b v m1 m2 m3 n1 n2 n3 D1 D2 D3 nr rows:=by
 have hl:=h.low;exact⟨h.blk.keep hg (by simp;omega),h.own.kept hg (.inr (K0 h.own hk)),h.o1.kept hg (by simp;omega),h.o2.kept hg (by simp;omega),h.o3.kept hg (by simp;omega),h.d12,h.d13,h.d23,h.low⟩
theorem Gm.keep(h:Gm w B b v m1 m2 m3 L q)(hg:w.grownBy w' none):Gm w' B b v m1 m2 m3 L q:=Am.keep h hg
theorem b9J(w:World)(lim:Nat)(hl:lim≤w.heap.size)(fs:List Cl)(qf:Nat→Qs)(a:Option Addr)(kk:Nat)(hG:Hid (Gvn w lim fs qf))(hO:Hid (∀c∈fs,Okc c))(hOk:Hid (∀c∈fs,a1N c))(hZ:Hid (SzL (A7++fs)))(hR:Hid (B8 w lim 4 (V5 fs qf) a (List.range fs.length)))(hBin:Hid (Bin w)):
 Calls prog 60 #[.slice a fs.length kk] w fun e w'=>w.grownBy w' none∧a3w (w.heap.size+1) fs qf (P1 fs) e w':=by
 obtain⟨n,hn⟩:∃n,n=fs.length:=⟨_,rfl⟩
 have HN:=A0 hn;have hn12:n≤12:=by rw[hn];exact hG.out.few
 rw[←hn]
 have HGA:Hid (∀ob,Calls prog 100 #[.slice a n kk] (w.alloc ob) fun e w'=>∃b v m1 m2 m3,e= .returned (.pointer (some ⟨b,0,none⟩))∧Below (w.heap.size+1) (w.alloc ob) w'∧Gm w' (w.heap.size+1) b v m1 m2 m3 (A7++fs) (O9 qf)):=fun ob=>by
  have:=b6Z (w.alloc ob) lim (by simp;omega) fs qf a kk (hG.out.keep (A2 _ _ _)) hO (hR.out.keep (A2 _ _ _)) (hBin.out.keep (A2 _ _ _));rw[←hn,World.size_alloc]at this;exact this
 clear hn;go_enter func60,ntmps60
 go_wp2_with (first
  |(go_at_call 100;refine(HGA.out _).mono ?_;rintro e w1 ⟨b,v,m1,m2,m3,rfl,hb1,hg1⟩)
  |(go_at_call 101;refine(b7K _ b).mono ?_;rintro e w2 ⟨rfl,rfl⟩))
 have hL9:(A7++fs).length=9+n:=by rw[List.length_append,←HN.out];rfl
 have hokL:∀c∈A7++fs,Okc c:=fun c hc=>(List.mem_append.1 hc).elim (a7f 9 c) (hO.out c)
 obtain⟨p,cap,rfl,hK⟩:=hg1.kls (by omega) hokL (by omega);have hgw:=a0i (((Below.refl _ w).alloc (Nat.le_refl _) _).trans (hb1.mono (Nat.le_succ _)));have hrs:A3 w1 w.heap.size #[.slice none 0 0, .map none, .map none, .map none] 151:=(hb1.block w.heap.size (by omega)).trans (A3.new w _ _);have hGw:=hG.out.keep hgw;have htl:fs.take fs.length=fs:=List.take_length;have hpf:l9 w1 w1.heap.size (A7++fs) (O9 qf):=by have:=hGw.partF (Nat.le_refl fs.length);rw[htl]at this;exact this.upto (Nat.le_trans hl hgw.size)
 have hpm:S8 w1 w1.heap.size (A7++fs) (O9 qf):=by have:=hGw.partM (Nat.le_refl fs.length);rw[htl]at this;exact this.upto (Nat.le_trans hl hgw.size)
 have HBK:Hid (∀W r i,w1.grownBy W none→r<6→(3≤r→B9 (A7++fs))→i<n→Calls prog (rF r) #[.pointer (some ⟨b,0,none⟩), .int .i64 (9+(i:Int))] W fun e w'=>e= .returned (.bool (O3 (A7++fs) r (9+i)))∧W.grownBy w' none):=fun W r i hg hr hw hi=>
  c1K W w1.heap.size b _ p cap m1 m2 m3 _ (hK.keep hg (Nat.le_refl _)) hg.size (fun i hi=>(hpf i hi).keep hg) (hpm.keep hg) hZ.out (Okc.sized hokL) r hr hw i (by omega)
 have HGm:=A0 hg1;have HGW:=A0 hgw;have HRS:=A0 hrs;have HRB:Hid (A3 (w1.alloc (.cells (a6a b).toArray 221)) w1.heap.size (a6a b).toArray 221):=A3.new w1 _ _;have HLA:=A0 (c1k fs);have HW1:Hid (w1.grownBy (w1.alloc (.cells (a6a b).toArray 221)) none):=A2 _ _ _;clear hb1 hg1 hK hgw hrs hGw htl hpf hpm hokL HGA;generalize hW2:w1.alloc (.cells (a6a b).toArray 221)=W2 at HRB HW1⊢;clear hW2;go_loopw [14] (fun i wr=>∃r:Nat,r≤6∧i= .int .i64 r∧Hid (P1 fs=a0n fs r)∧Hid (∀k,k<r→∀j,j<fs.length→O3 (A7++fs) k (9+j)=false)∧Hid (W2.grownBy wr none)) (fun i _=>6-(intOf i).toNat)
 case atStart=>exact⟨0,by omega,rfl,HLA,fun k hk=>by omega,I8 _ _⟩
 case round=>
  obtain⟨r,hr,rfl,hla,hno,hg2⟩:=hrel;have hbr:=HRB.out.keep hg2.out (by simp);by_cases hlt:r<6
  ·have HWL:Hid (3≤r→B9 (A7++fs)):=fun h3=>b7t fs hOk.out (fun k hk=>hno.out k (by omega))
   have HCL:=A0 (fun W i hg hi=>HBK.out W r i hg hlt HWL.out hi);have HS6:Hid (decide ((r:Int)<6)=true):=by unfold Hid;simp;omega
   have hlt6:decide ((r:Int)<6)=true:=by simp;omega
   clear HS6;rcases(by omega:r=0∨r=1∨r=2∨r=3∨r=4∨r=5)with hrk|hrk|hrk|hrk|hrk|hrk
   ·have HCK:Hid (∀W i,w1.grownBy W none→i<n→Calls prog 158 #[.pointer (some ⟨b,0,none⟩), .int .i64 (9+(i:Int))] W fun e w'=>e= .returned (.bool (O3 (A7++fs) r (9+i)))∧W.grownBy w' none):=by
     exact c5o
    have e0:wr.cell? ⟨w1.heap.size,r*2,none⟩=some (.int .i64 7):=by rw[hrk];exact hbr.cell (0*2) _ rfl
    have e1:wr.cell? ⟨w1.heap.size,r*2+1,none⟩=some (.func (.func 158) #[.pointer (some ⟨b,0,none⟩)] #[]):=by rw[hrk];exact hbr.cell (0*2+1) _ rfl
    have HEE:Hid ((7:Int)=((7+r:Nat):Int)):=by rw[hrk];rfl
    clear hbr HCL hrk;go_wp2_with fail
    have HBX:Hid (A3 (wr.alloc (.cells #[.int .i64 7, .func (.func 158) #[.pointer (some ⟨b,0,none⟩)] #[]] 221)) wr.heap.size #[.int .i64 7, .func (.func 158) #[.pointer (some ⟨b,0,none⟩)] #[]] 221):=A3.new wr _ _;have HGX0:Hid (W2.grownBy (wr.alloc (.cells #[.int .i64 7, .func (.func 158) #[.pointer (some ⟨b,0,none⟩)] #[]] 221)) none):=A1 hg2.out (A2 _ _ _);clear e0 e1;have hrb1:¬(wr.heap.size=w.heap.size):=by have:=HRS.out.lt;have:=HW1.out.size;have:=hg2.out.size;omega
    have hrb2:¬(w.heap.size=wr.heap.size):=fun e=>hrb1 e.symm
    go_loopw [20] (fun i wx=>∃j:Nat,j≤n∧i= .int .i64 j∧Hid (∀j',j'<j→O3 (A7++fs) r (9+j')=false)∧Hid (W2.grownBy wx none)∧Hid (A3 wx wr.heap.size #[.int .i64 7, .func (.func 158) #[.pointer (some ⟨b,0,none⟩)] #[]] 221)) (fun i _=>n-(intOf i).toNat)
    case atStart=>exact a6x
    case round=>
     clear HGX0 HBX;obtain⟨j,hj,rfl,hall,hgx,hbx⟩:=hrel;by_cases hlj:j<n
     ·have d1:=hbx.out.c1;obtain⟨bv,hbv⟩:∃bv,bv=O3 (A7++fs) r (9+j):=⟨_,rfl⟩
      have HBV:=A0 hbv.symm;clear hbv;cases bv with
      |true=>
       go_wp2_with (go_at_call 158;refine(HCK.out _ j (A1 HW1.out hgx.out) hlj).mono ?_;rintro e w5 ⟨rfl,hg5⟩;rw[HBV.out])
       have d0:=(hbx.out.keep hg5 (by simp)).cell 0 _ rfl;have HR5:=A0 (HRS.out.keep (A1 HW1.out (A1 hgx.out hg5)) (by simp));obtain⟨r0,r1,r2,r3⟩:=HR5.out.q4;obtain⟨z0,z1,z2,z3⟩:=HR5.out.z4;have hg5w:=A1 HGW.out (A1 HW1.out (A1 hgx.out hg5));go_region
       all_goals
        have hb6:=A3.keep (row:=none) ((((HR5.out.set 0 (.slice none 0 0)).set 1 (.map none)).set 2 (.map none)).set 3 (.map none)) (B6 _ none) (by simp);have hg6:=A1 (a3q (w:=w) hg5w (Nat.le_refl _) (i:=0) (j:=1) (k:=2) (l:=3) (x:= .slice none 0 0) (y:= .map none) (z:= .map none) (u:= .map none)) (B6 _ none);clear r0 r1 r2 r3 z0 z1 z2 z3 d0 d1;generalize ((((w5.setCell ⟨w.heap.size,0,none⟩ (.slice none 0 0)).setCell ⟨w.heap.size,1,none⟩ (.map none)).setCell ⟨w.heap.size,2,none⟩ (.map none)).setCell ⟨w.heap.size,3,none⟩ (.map none)).drew=W6 at hb6 hg6⊢;have q0:=hb6.c0;have q1:=hb6.c1;have q2:=hb6.c2;have q3:=hb6.c3;go_wp2_with fail
        refine bodyPost_ret (v:= .tuple #[.agg #[.slice none 0 0, .map none, .map none, .map none], .int .i64 7, .int .i64 j]) (by simp[results,results60,go_sem,q0,q1,q2,q3]) rfl ⟨hg6,?_⟩;rw[hla.out,a4C fs hlt (by rw[←HN.out];exact hlj) HBV.out hall.out];unfold a3w;rw[HEE.out]
      |false=>
       go_wp2_with (go_at_call 158;refine(HCK.out _ j (A1 HW1.out hgx.out) hlj).mono ?_;rintro e w5 ⟨rfl,hg5⟩;rw[HBV.out])
       exact a0t
     ·exact a0s
   ·have HCK:Hid (∀W i,w1.grownBy W none→i<n→Calls prog 159 #[.pointer (some ⟨b,0,none⟩), .int .i64 (9+(i:Int))] W fun e w'=>e= .returned (.bool (O3 (A7++fs) r (9+i)))∧W.grownBy w' none):=by
     exact c5o
    have e0:wr.cell? ⟨w1.heap.size,r*2,none⟩=some (.int .i64 8):=by rw[hrk];exact hbr.cell (1*2) _ rfl
    have e1:wr.cell? ⟨w1.heap.size,r*2+1,none⟩=some (.func (.func 159) #[.pointer (some ⟨b,0,none⟩)] #[]):=by rw[hrk];exact hbr.cell (1*2+1) _ rfl
    have HEE:Hid ((8:Int)=((7+r:Nat):Int)):=by rw[hrk];rfl
    clear hbr HCL hrk;go_wp2_with fail
    have HBX:Hid (A3 (wr.alloc (.cells #[.int .i64 8, .func (.func 159) #[.pointer (some ⟨b,0,none⟩)] #[]] 221)) wr.heap.size #[.int .i64 8, .func (.func 159) #[.pointer (some ⟨b,0,none⟩)] #[]] 221):=A3.new wr _ _;have HGX0:Hid (W2.grownBy (wr.alloc (.cells #[.int .i64 8, .func (.func 159) #[.pointer (some ⟨b,0,none⟩)] #[]] 221)) none):=A1 hg2.out (A2 _ _ _);clear e0 e1;have hrb1:¬(wr.heap.size=w.heap.size):=by have:=HRS.out.lt;have:=HW1.out.size;have:=hg2.out.size;omega
    have hrb2:¬(w.heap.size=wr.heap.size):=fun e=>hrb1 e.symm
    go_loopw [20] (fun i wx=>∃j:Nat,j≤n∧i= .int .i64 j∧Hid (∀j',j'<j→O3 (A7++fs) r (9+j')=false)∧Hid (W2.grownBy wx none)∧Hid (A3 wx wr.heap.size #[.int .i64 8, .func (.func 159) #[.pointer (some ⟨b,0,none⟩)] #[]] 221)) (fun i _=>n-(intOf i).toNat)
    case atStart=>exact a6x
    case round=>
     clear HGX0 HBX;obtain⟨j,hj,rfl,hall,hgx,hbx⟩:=hrel;by_cases hlj:j<n
     ·have d1:=hbx.out.c1;obtain⟨bv,hbv⟩:∃bv,bv=O3 (A7++fs) r (9+j):=⟨_,rfl⟩
      have HBV:=A0 hbv.symm;clear hbv;cases bv with
      |true=>
       go_wp2_with (go_at_call 159;refine(HCK.out _ j (A1 HW1.out hgx.out) hlj).mono ?_;rintro e w5 ⟨rfl,hg5⟩;rw[HBV.out])
       have d0:=(hbx.out.keep hg5 (by simp)).cell 0 _ rfl;have HR5:=A0 (HRS.out.keep (A1 HW1.out (A1 hgx.out hg5)) (by simp));obtain⟨r0,r1,r2,r3⟩:=HR5.out.q4;obtain⟨z0,z1,z2,z3⟩:=HR5.out.z4;have hg5w:=A1 HGW.out (A1 HW1.out (A1 hgx.out hg5));go_region
       all_goals
        have hb6:=A3.keep (row:=none) ((((HR5.out.set 0 (.slice none 0 0)).set 1 (.map none)).set 2 (.map none)).set 3 (.map none)) (B6 _ none) (by simp);have hg6:=A1 (a3q (w:=w) hg5w (Nat.le_refl _) (i:=0) (j:=1) (k:=2) (l:=3) (x:= .slice none 0 0) (y:= .map none) (z:= .map none) (u:= .map none)) (B6 _ none);clear r0 r1 r2 r3 z0 z1 z2 z3 d0 d1;generalize ((((w5.setCell ⟨w.heap.size,0,none⟩ (.slice none 0 0)).setCell ⟨w.heap.size,1,none⟩ (.map none)).setCell ⟨w.heap.size,2,none⟩ (.map none)).setCell ⟨w.heap.size,3,none⟩ (.map none)).drew=W6 at hb6 hg6⊢;have q0:=hb6.c0;have q1:=hb6.c1;have q2:=hb6.c2;have q3:=hb6.c3;go_wp2_with fail
        refine bodyPost_ret (v:= .tuple #[.agg #[.slice none 0 0, .map none, .map none, .map none], .int .i64 8, .int .i64 j]) (by simp[results,results60,go_sem,q0,q1,q2,q3]) rfl ⟨hg6,?_⟩;rw[hla.out,a4C fs hlt (by rw[←HN.out];exact hlj) HBV.out hall.out];unfold a3w;rw[HEE.out]
      |false=>
       go_wp2_with (go_at_call 159;refine(HCK.out _ j (A1 HW1.out hgx.out) hlj).mono ?_;rintro e w5 ⟨rfl,hg5⟩;rw[HBV.out])
       exact a0t
     ·exact a0s
   ·have HCK:Hid (∀W i,w1.grownBy W none→i<n→Calls prog 160 #[.pointer (some ⟨b,0,none⟩), .int .i64 (9+(i:Int))] W fun e w'=>e= .returned (.bool (O3 (A7++fs) r (9+i)))∧W.grownBy w' none):=by
     exact c5o
    have e0:wr.cell? ⟨w1.heap.size,r*2,none⟩=some (.int .i64 9):=by rw[hrk];exact hbr.cell (2*2) _ rfl
    have e1:wr.cell? ⟨w1.heap.size,r*2+1,none⟩=some (.func (.func 160) #[.pointer (some ⟨b,0,none⟩)] #[]):=by rw[hrk];exact hbr.cell (2*2+1) _ rfl
    have HEE:Hid ((9:Int)=((7+r:Nat):Int)):=by rw[hrk];rfl
    clear hbr HCL hrk;go_wp2_with fail
    have HBX:Hid (A3 (wr.alloc (.cells #[.int .i64 9, .func (.func 160) #[.pointer (some ⟨b,0,none⟩)] #[]] 221)) wr.heap.size #[.int .i64 9, .func (.func 160) #[.pointer (some ⟨b,0,none⟩)] #[]] 221):=A3.new wr _ _;have HGX0:Hid (W2.grownBy (wr.alloc (.cells #[.int .i64 9, .func (.func 160) #[.pointer (some ⟨b,0,none⟩)] #[]] 221)) none):=A1 hg2.out (A2 _ _ _);clear e0 e1;have hrb1:¬(wr.heap.size=w.heap.size):=by have:=HRS.out.lt;have:=HW1.out.size;have:=hg2.out.size;omega
    have hrb2:¬(w.heap.size=wr.heap.size):=fun e=>hrb1 e.symm
    go_loopw [20] (fun i wx=>∃j:Nat,j≤n∧i= .int .i64 j∧Hid (∀j',j'<j→O3 (A7++fs) r (9+j')=false)∧Hid (W2.grownBy wx none)∧Hid (A3 wx wr.heap.size #[.int .i64 9, .func (.func 160) #[.pointer (some ⟨b,0,none⟩)] #[]] 221)) (fun i _=>n-(intOf i).toNat)
    case atStart=>exact a6x
    case round=>
     clear HGX0 HBX;obtain⟨j,hj,rfl,hall,hgx,hbx⟩:=hrel;by_cases hlj:j<n
     ·have d1:=hbx.out.c1;obtain⟨bv,hbv⟩:∃bv,bv=O3 (A7++fs) r (9+j):=⟨_,rfl⟩
      have HBV:=A0 hbv.symm;clear hbv;cases bv with
      |true=>
       go_wp2_with (go_at_call 160;refine(HCK.out _ j (A1 HW1.out hgx.out) hlj).mono ?_;rintro e w5 ⟨rfl,hg5⟩;rw[HBV.out])
       have d0:=(hbx.out.keep hg5 (by simp)).cell 0 _ rfl;have HR5:=A0 (HRS.out.keep (A1 HW1.out (A1 hgx.out hg5)) (by simp));obtain⟨r0,r1,r2,r3⟩:=HR5.out.q4;obtain⟨z0,z1,z2,z3⟩:=HR5.out.z4;have hg5w:=A1 HGW.out (A1 HW1.out (A1 hgx.out hg5));go_region
       all_goals
        have hb6:=A3.keep (row:=none) ((((HR5.out.set 0 (.slice none 0 0)).set 1 (.map none)).set 2 (.map none)).set 3 (.map none)) (B6 _ none) (by simp);have hg6:=A1 (a3q (w:=w) hg5w (Nat.le_refl _) (i:=0) (j:=1) (k:=2) (l:=3) (x:= .slice none 0 0) (y:= .map none) (z:= .map none) (u:= .map none)) (B6 _ none);clear r0 r1 r2 r3 z0 z1 z2 z3 d0 d1;generalize ((((w5.setCell ⟨w.heap.size,0,none⟩ (.slice none 0 0)).setCell ⟨w.heap.size,1,none⟩ (.map none)).setCell ⟨w.heap.size,2,none⟩ (.map none)).setCell ⟨w.heap.size,3,none⟩ (.map none)).drew=W6 at hb6 hg6⊢;have q0:=hb6.c0;have q1:=hb6.c1;have q2:=hb6.c2;have q3:=hb6.c3;go_wp2_with fail
        refine bodyPost_ret (v:= .tuple #[.agg #[.slice none 0 0, .map none, .map none, .map none], .int .i64 9, .int .i64 j]) (by simp[results,results60,go_sem,q0,q1,q2,q3]) rfl ⟨hg6,?_⟩;rw[hla.out,a4C fs hlt (by rw[←HN.out];exact hlj) HBV.out hall.out];unfold a3w;rw[HEE.out]
      |false=>
       go_wp2_with (go_at_call 160;refine(HCK.out _ j (A1 HW1.out hgx.out) hlj).mono ?_;rintro e w5 ⟨rfl,hg5⟩;rw[HBV.out])
       exact a0t
     ·exact a0s
   ·have HCK:Hid (∀W i,w1.grownBy W none→i<n→Calls prog 161 #[.pointer (some ⟨b,0,none⟩), .int .i64 (9+(i:Int))] W fun e w'=>e= .returned (.bool (O3 (A7++fs) r (9+i)))∧W.grownBy w' none):=by
     exact c5o
    have e0:wr.cell? ⟨w1.heap.size,r*2,none⟩=some (.int .i64 10):=by rw[hrk];exact hbr.cell (3*2) _ rfl
    have e1:wr.cell? ⟨w1.heap.size,r*2+1,none⟩=some (.func (.func 161) #[.pointer (some ⟨b,0,none⟩)] #[]):=by rw[hrk];exact hbr.cell (3*2+1) _ rfl
    have HEE:Hid ((10:Int)=((7+r:Nat):Int)):=by rw[hrk];rfl
    clear hbr HCL hrk;go_wp2_with fail
    have HBX:Hid (A3 (wr.alloc (.cells #[.int .i64 10, .func (.func 161) #[.pointer (some ⟨b,0,none⟩)] #[]] 221)) wr.heap.size #[.int .i64 10, .func (.func 161) #[.pointer (some ⟨b,0,none⟩)] #[]] 221):=A3.new wr _ _;have HGX0:Hid (W2.grownBy (wr.alloc (.cells #[.int .i64 10, .func (.func 161) #[.pointer (some ⟨b,0,none⟩)] #[]] 221)) none):=A1 hg2.out (A2 _ _ _);clear e0 e1;have hrb1:¬(wr.heap.size=w.heap.size):=by have:=HRS.out.lt;have:=HW1.out.size;have:=hg2.out.size;omega
    have hrb2:¬(w.heap.size=wr.heap.size):=fun e=>hrb1 e.symm
    go_loopw [20] (fun i wx=>∃j:Nat,j≤n∧i= .int .i64 j∧Hid (∀j',j'<j→O3 (A7++fs) r (9+j')=false)∧Hid (W2.grownBy wx none)∧Hid (A3 wx wr.heap.size #[.int .i64 10, .func (.func 161) #[.pointer (some ⟨b,0,none⟩)] #[]] 221)) (fun i _=>n-(intOf i).toNat)
    case atStart=>exact a6x
    case round=>
     clear HGX0 HBX;obtain⟨j,hj,rfl,hall,hgx,hbx⟩:=hrel;by_cases hlj:j<n
     ·have d1:=hbx.out.c1;obtain⟨bv,hbv⟩:∃bv,bv=O3 (A7++fs) r (9+j):=⟨_,rfl⟩
      have HBV:=A0 hbv.symm;clear hbv;cases bv with
      |true=>
       go_wp2_with (go_at_call 161;refine(HCK.out _ j (A1 HW1.out hgx.out) hlj).mono ?_;rintro e w5 ⟨rfl,hg5⟩;rw[HBV.out])
       have d0:=(hbx.out.keep hg5 (by simp)).cell 0 _ rfl;have HR5:=A0 (HRS.out.keep (A1 HW1.out (A1 hgx.out hg5)) (by simp));obtain⟨r0,r1,r2,r3⟩:=HR5.out.q4;obtain⟨z0,z1,z2,z3⟩:=HR5.out.z4;have hg5w:=A1 HGW.out (A1 HW1.out (A1 hgx.out hg5));go_region
       all_goals
        have hb6:=A3.keep (row:=none) ((((HR5.out.set 0 (.slice none 0 0)).set 1 (.map none)).set 2 (.map none)).set 3 (.map none)) (B6 _ none) (by simp);have hg6:=A1 (a3q (w:=w) hg5w (Nat.le_refl _) (i:=0) (j:=1) (k:=2) (l:=3) (x:= .slice none 0 0) (y:= .map none) (z:= .map none) (u:= .map none)) (B6 _ none);clear r0 r1 r2 r3 z0 z1 z2 z3 d0 d1;generalize ((((w5.setCell ⟨w.heap.size,0,none⟩ (.slice none 0 0)).setCell ⟨w.heap.size,1,none⟩ (.map none)).setCell ⟨w.heap.size,2,none⟩ (.map none)).setCell ⟨w.heap.size,3,none⟩ (.map none)).drew=W6 at hb6 hg6⊢;have q0:=hb6.c0;have q1:=hb6.c1;have q2:=hb6.c2;have q3:=hb6.c3;go_wp2_with fail
        refine bodyPost_ret (v:= .tuple #[.agg #[.slice none 0 0, .map none, .map none, .map none], .int .i64 10, .int .i64 j]) (by simp[results,results60,go_sem,q0,q1,q2,q3]) rfl ⟨hg6,?_⟩;rw[hla.out,a4C fs hlt (by rw[←HN.out];exact hlj) HBV.out hall.out];unfold a3w;rw[HEE.out]
      |false=>
       go_wp2_with (go_at_call 161;refine(HCK.out _ j (A1 HW1.out hgx.out) hlj).mono ?_;rintro e w5 ⟨rfl,hg5⟩;rw[HBV.out])
       exact a0t
     ·exact a0s
   ·have HCK:Hid (∀W i,w1.grownBy W none→i<n→Calls prog 162 #[.pointer (some ⟨b,0,none⟩), .int .i64 (9+(i:Int))] W fun e w'=>e= .returned (.bool (O3 (A7++fs) r (9+i)))∧W.grownBy w' none):=by
     exact c5o
    have e0:wr.cell? ⟨w1.heap.size,r*2,none⟩=some (.int .i64 11):=by rw[hrk];exact hbr.cell (4*2) _ rfl
    have e1:wr.cell? ⟨w1.heap.size,r*2+1,none⟩=some (.func (.func 162) #[.pointer (some ⟨b,0,none⟩)] #[]):=by rw[hrk];exact hbr.cell (4*2+1) _ rfl
    have HEE:Hid ((11:Int)=((7+r:Nat):Int)):=by rw[hrk];rfl
    clear hbr HCL hrk;go_wp2_with fail
    have HBX:Hid (A3 (wr.alloc (.cells #[.int .i64 11, .func (.func 162) #[.pointer (some ⟨b,0,none⟩)] #[]] 221)) wr.heap.size #[.int .i64 11, .func (.func 162) #[.pointer (some ⟨b,0,none⟩)] #[]] 221):=A3.new wr _ _;have HGX0:Hid (W2.grownBy (wr.alloc (.cells #[.int .i64 11, .func (.func 162) #[.pointer (some ⟨b,0,none⟩)] #[]] 221)) none):=A1 hg2.out (A2 _ _ _);clear e0 e1;have hrb1:¬(wr.heap.size=w.heap.size):=by have:=HRS.out.lt;have:=HW1.out.size;have:=hg2.out.size;omega
    have hrb2:¬(w.heap.size=wr.heap.size):=fun e=>hrb1 e.symm
    go_loopw [20] (fun i wx=>∃j:Nat,j≤n∧i= .int .i64 j∧Hid (∀j',j'<j→O3 (A7++fs) r (9+j')=false)∧Hid (W2.grownBy wx none)∧Hid (A3 wx wr.heap.size #[.int .i64 11, .func (.func 162) #[.pointer (some ⟨b,0,none⟩)] #[]] 221)) (fun i _=>n-(intOf i).toNat)
    case atStart=>exact a6x
    case round=>
     clear HGX0 HBX;obtain⟨j,hj,rfl,hall,hgx,hbx⟩:=hrel;by_cases hlj:j<n
     ·have d1:=hbx.out.c1;obtain⟨bv,hbv⟩:∃bv,bv=O3 (A7++fs) r (9+j):=⟨_,rfl⟩
      have HBV:=A0 hbv.symm;clear hbv;cases bv with
      |true=>
       go_wp2_with (go_at_call 162;refine(HCK.out _ j (A1 HW1.out hgx.out) hlj).mono ?_;rintro e w5 ⟨rfl,hg5⟩;rw[HBV.out])
       have d0:=(hbx.out.keep hg5 (by simp)).cell 0 _ rfl;have HR5:=A0 (HRS.out.keep (A1 HW1.out (A1 hgx.out hg5)) (by simp));obtain⟨r0,r1,r2,r3⟩:=HR5.out.q4;obtain⟨z0,z1,z2,z3⟩:=HR5.out.z4;have hg5w:=A1 HGW.out (A1 HW1.out (A1 hgx.out hg5));go_region
       all_goals
        have hb6:=A3.keep (row:=none) ((((HR5.out.set 0 (.slice none 0 0)).set 1 (.map none)).set 2 (.map none)).set 3 (.map none)) (B6 _ none) (by simp);have hg6:=A1 (a3q (w:=w) hg5w (Nat.le_refl _) (i:=0) (j:=1) (k:=2) (l:=3) (x:= .slice none 0 0) (y:= .map none) (z:= .map none) (u:= .map none)) (B6 _ none);clear r0 r1 r2 r3 z0 z1 z2 z3 d0 d1;generalize ((((w5.setCell ⟨w.heap.size,0,none⟩ (.slice none 0 0)).setCell ⟨w.heap.size,1,none⟩ (.map none)).setCell ⟨w.heap.size,2,none⟩ (.map none)).setCell ⟨w.heap.size,3,none⟩ (.map none)).drew=W6 at hb6 hg6⊢;have q0:=hb6.c0;have q1:=hb6.c1;have q2:=hb6.c2;have q3:=hb6.c3;go_wp2_with fail
        refine bodyPost_ret (v:= .tuple #[.agg #[.slice none 0 0, .map none, .map none, .map none], .int .i64 11, .int .i64 j]) (by simp[results,results60,go_sem,q0,q1,q2,q3]) rfl ⟨hg6,?_⟩;rw[hla.out,a4C fs hlt (by rw[←HN.out];exact hlj) HBV.out hall.out];unfold a3w;rw[HEE.out]
      |false=>
       go_wp2_with (go_at_call 162;refine(HCK.out _ j (A1 HW1.out hgx.out) hlj).mono ?_;rintro e w5 ⟨rfl,hg5⟩;rw[HBV.out])
       exact a0t
     ·exact a0s
   ·have HCK:Hid (∀W i,w1.grownBy W none→i<n→Calls prog 163 #[.pointer (some ⟨b,0,none⟩), .int .i64 (9+(i:Int))] W fun e w'=>e= .returned (.bool (O3 (A7++fs) r (9+i)))∧W.grownBy w' none):=by
     exact c5o
    have e0:wr.cell? ⟨w1.heap.size,r*2,none⟩=some (.int .i64 12):=by rw[hrk];exact hbr.cell (5*2) _ rfl
    have e1:wr.cell? ⟨w1.heap.size,r*2+1,none⟩=some (.func (.func 163) #[.pointer (some ⟨b,0,none⟩)] #[]):=by rw[hrk];exact hbr.cell (5*2+1) _ rfl
    have HEE:Hid ((12:Int)=((7+r:Nat):Int)):=by rw[hrk];rfl
    clear hbr HCL hrk;go_wp2_with fail
    have HBX:Hid (A3 (wr.alloc (.cells #[.int .i64 12, .func (.func 163) #[.pointer (some ⟨b,0,none⟩)] #[]] 221)) wr.heap.size #[.int .i64 12, .func (.func 163) #[.pointer (some ⟨b,0,none⟩)] #[]] 221):=A3.new wr _ _;have HGX0:Hid (W2.grownBy (wr.alloc (.cells #[.int .i64 12, .func (.func 163) #[.pointer (some ⟨b,0,none⟩)] #[]] 221)) none):=A1 hg2.out (A2 _ _ _);clear e0 e1;have hrb1:¬(wr.heap.size=w.heap.size):=by have:=HRS.out.lt;have:=HW1.out.size;have:=hg2.out.size;omega
    have hrb2:¬(w.heap.size=wr.heap.size):=fun e=>hrb1 e.symm
    go_loopw [20] (fun i wx=>∃j:Nat,j≤n∧i= .int .i64 j∧Hid (∀j',j'<j→O3 (A7++fs) r (9+j')=false)∧Hid (W2.grownBy wx none)∧Hid (A3 wx wr.heap.size #[.int .i64 12, .func (.func 163) #[.pointer (some ⟨b,0,none⟩)] #[]] 221)) (fun i _=>n-(intOf i).toNat)
    case atStart=>exact a6x
    case round=>
     clear HGX0 HBX;obtain⟨j,hj,rfl,hall,hgx,hbx⟩:=hrel;by_cases hlj:j<n
     ·have d1:=hbx.out.c1;obtain⟨bv,hbv⟩:∃bv,bv=O3 (A7++fs) r (9+j):=⟨_,rfl⟩
      have HBV:=A0 hbv.symm;clear hbv;cases bv with
      |true=>
       go_wp2_with (go_at_call 163;refine(HCK.out _ j (A1 HW1.out hgx.out) hlj).mono ?_;rintro e w5 ⟨rfl,hg5⟩;rw[HBV.out])
       have d0:=(hbx.out.keep hg5 (by simp)).cell 0 _ rfl;have HR5:=A0 (HRS.out.keep (A1 HW1.out (A1 hgx.out hg5)) (by simp));obtain⟨r0,r1,r2,r3⟩:=HR5.out.q4;obtain⟨z0,z1,z2,z3⟩:=HR5.out.z4;have hg5w:=A1 HGW.out (A1 HW1.out (A1 hgx.out hg5));go_region
       all_goals
        have hb6:=A3.keep (row:=none) ((((HR5.out.set 0 (.slice none 0 0)).set 1 (.map none)).set 2 (.map none)).set 3 (.map none)) (B6 _ none) (by simp);have hg6:=A1 (a3q (w:=w) hg5w (Nat.le_refl _) (i:=0) (j:=1) (k:=2) (l:=3) (x:= .slice none 0 0) (y:= .map none) (z:= .map none) (u:= .map none)) (B6 _ none);clear r0 r1 r2 r3 z0 z1 z2 z3 d0 d1;generalize ((((w5.setCell ⟨w.heap.size,0,none⟩ (.slice none 0 0)).setCell ⟨w.heap.size,1,none⟩ (.map none)).setCell ⟨w.heap.size,2,none⟩ (.map none)).setCell ⟨w.heap.size,3,none⟩ (.map none)).drew=W6 at hb6 hg6⊢;have q0:=hb6.c0;have q1:=hb6.c1;have q2:=hb6.c2;have q3:=hb6.c3;go_wp2_with fail
        refine bodyPost_ret (v:= .tuple #[.agg #[.slice none 0 0, .map none, .map none, .map none], .int .i64 12, .int .i64 j]) (by simp[results,results60,go_sem,q0,q1,q2,q3]) rfl ⟨hg6,?_⟩;rw[hla.out,a4C fs hlt (by rw[←HN.out];exact hlj) HBV.out hall.out];unfold a3w;rw[HEE.out]
      |false=>
       go_wp2_with (go_at_call 163;refine(HCK.out _ j (A1 HW1.out hgx.out) hlj).mono ?_;rintro e w5 ⟨rfl,hg5⟩;rw[HBV.out])
       exact a0t
     ·exact a0s
  ·have HL6:Hid (P1 fs= .ok ()):=by unfold Hid;rw[hla.out,show r=6 from by omega,b8f]
   have hG6:=HGm.out.keep (A1 HW1.out hg2.out);have hR6:=HRS.out.keep (A1 HW1.out hg2.out) (by simp);have HR6:=A0 hR6;have HG6:=A0 hG6;have hbw:¬(b=w.heap.size):=by have:=hG6.low.1;omega
   have hbw2:¬(w.heap.size=b):=fun e=>hbw e.symm
   have c0:=hG6.blk.c0;have c1:=hG6.blk.c1;have c2:=hG6.blk.c2;have c3:=hG6.blk.c3;obtain⟨r0,r1,r2,r3⟩:=hR6.q4;obtain⟨z0,z1,z2,z3⟩:=hR6.z4;clear hG6 hR6;go_wp2_with fail
   clear c0 c1 c2 c3 r0 r1 r2 r3 z0 z1 z2 z3;have hb6:=(((HR6.out.set 0 (.slice (some p) (9+n) cap)).set 1 (.map (some m1))).set 2 (.map (some m2))).set 3 (.map (some m3));have hs6:=A1 (A1 (A1 (A9 wr ⟨w.heap.size,0,none⟩ (.slice (some p) (9+n) cap)) (A9 _ ⟨w.heap.size,1,none⟩ (.map (some m1)))) (A9 _ ⟨w.heap.size,2,none⟩ (.map (some m2)))) (A9 _ ⟨w.heap.size,3,none⟩ (.map (some m3)));generalize ((((wr.setCell ⟨w.heap.size,0,none⟩ (.slice (some p) (9+n) cap)).setCell ⟨w.heap.size,1,none⟩ (.map (some m1))).setCell ⟨w.heap.size,2,none⟩ (.map (some m2))).setCell ⟨w.heap.size,3,none⟩ (.map (some m3)))=W6 at hb6 hs6⊢;have q0:=hb6.c0;have q1:=hb6.c1;have q2:=hb6.c2;have q3:=hb6.c3;refine bodyPost_ret (v:= .tuple #[.agg #[.slice (some p) (9+n) cap, .map (some m1), .map (some m2), .map (some m3)], .int .i64 0, .int .i64 0]) (by simp[results,results60,go_sem,q0,q1,q2,q3]) rfl ⟨D5 (A1 HGW.out (A1 HW1.out hg2.out)) hs6 (fun k e=>by cases e;exact .inl (Nat.le_refl _)),?_⟩;rw[HL6.out];refine⟨b, .slice (some p) (9+n) cap,m1,m2,m3,rfl,?_⟩;rw[←hL9];exact Am.far HG6.out hs6 (Nat.lt_succ_self _)
theorem b8l(w:World)(op:Nat):Calls prog 250 #[.int .i64 op] w fun e w'=>e= .returned (.bool (a1X op))∧w'=w:=by
 have h:a1X op=(decide ((op:Int)=12)||decide ((op:Int)=20)||decide ((op:Int)=30)):=by
  unfold a1X;rw[Bool.eq_iff_iff];simp;omega
 rw[h];clear h;go_enter func250,ntmps250;by_cases h1:(op:Int)=12
 ·go_wp2_with fail
  all_goals exact bodyPost_ret (v:= .bool true) (by simp[results,results250,go_sem]) rfl ⟨by simp[h1],rfl⟩
 ·by_cases h2:(op:Int)=20
  ·go_wp2_with fail
   all_goals exact bodyPost_ret (v:= .bool true) (by simp[results,results250,go_sem]) rfl ⟨by simp[h2],rfl⟩
  ·by_cases h3:(op:Int)=30
   ·go_wp2_with fail
    all_goals exact bodyPost_ret (v:= .bool true) (by simp[results,results250,go_sem]) rfl ⟨by simp[h3],rfl⟩
   ·go_wp2_with fail
    all_goals exact bodyPost_ret (v:= .bool false) (by simp[results,results250,go_sem,h1,h2,h3]) rfl ⟨by simp[h1,h2,h3],rfl⟩
theorem b1f(w:World)(v:Value):Calls prog 321 #[v] w fun e w'=>e= .returned v∧w'=w:=by
 go_enter func321,ntmps321;go_wp2_with fail
 all_goals exact bodyPost_ret (v:=v) (by simp[results,results321,go_sem]) rfl ⟨rfl,rfl⟩
theorem a4O(w:World)(k:Int):Calls prog 320 #[.int .i64 k] w fun e w'=>e= .returned (.agg #[.int .i64 k, .string ⟨#[]⟩])∧w.grownBy w' none:=by
 have hg:w.grownBy (w.alloc (.cells #[.int .i64 k, .string ⟨#[]⟩] 98)) none:=A2 _ _ _;have hb:=A3.new w #[.int .i64 k, .string ⟨#[]⟩] 98;have q0:=hb.c0;have q1:=hb.c1;go_enter func320,ntmps320;go_wp2_with fail
 all_goals exact bodyPost_ret (v:= .agg #[.int .i64 k, .string ⟨#[]⟩]) (by simp[results,results320,go_sem,q0,q1]) rfl ⟨rfl,hg⟩
theorem a1T(w:World)(s:ByteArray):Calls prog 267 #[.string s] w fun e w'=>e= .returned (.agg #[.int .i64 2, .string s])∧w.grownBy w' none:=by
 have hg:w.grownBy (w.alloc (.cells #[.int .i64 2, .string s] 98)) none:=A2 _ _ _;have hb:=A3.new w #[.int .i64 2, .string s] 98;have q0:=hb.c0;have q1:=hb.c1;go_enter func267,ntmps267;go_wp2_with fail
 all_goals exact bodyPost_ret (v:= .agg #[.int .i64 2, .string s]) (by simp[results,results267,go_sem,q0,q1]) rfl ⟨rfl,hg⟩
theorem b4q(w:World)(t:Ty):Calls prog 324 #[.agg #[.int .i64 t.kind, .string t.name]] w fun e w'=>w.grownBy w' none∧∃v,e= .returned v∧w'.ownsRow w.heap.size 98 2 v (a1i t).length ((a1i t).flatMap C9):=by
 obtain⟨k,nm⟩:=t;dsimp only;have hg:w.grownBy (w.alloc (.cells #[.int .i64 k, .string nm] 98)) none:=A2 _ _ _;have hb:=A3.new w #[.int .i64 k, .string nm] 98;obtain⟨c0,c1⟩:=hb.q2;by_cases h:k=0
 ·subst h;go_enter func324,ntmps324;go_wp2_with fail
  all_goals exact bodyPost_ret (v:= .slice none 0 0) (by simp[results,results324,go_sem]) rfl ⟨hg,_,rfl,by simp only[a1i,if_true];exact World.ownsRow_nil _ _ _ _⟩
 ·have h0:¬(k:Int)=0:=by omega
  have ho:=a3W (w.alloc (.cells #[.int .i64 k, .string nm] 98)) 98 2 1 w.heap.size [.int .i64 k, .string nm] rfl (by simp) (by unfold maxLen;omega);have hg2:w.grownBy ((w.alloc (.cells #[.int .i64 k, .string nm] 98)).alloc (.cells [.int .i64 k, .string nm].toArray 98)) none:=A1 hg (A2 _ _ _);have hu:a1i ⟨k,nm⟩=[⟨k,nm⟩]:=by simp[a1i,h]
  rw[hu];clear hu;go_enter func324,ntmps324;go_wp2_with (go_at_call 321;refine(b1f _ _).mono ?_;rintro e w1 ⟨rfl,rfl⟩)
  all_goals exact bodyPost_ret (v:= .slice (some ⟨w.heap.size+1,0,none⟩) 1 1) (by simp[results,results324,go_sem]) rfl ⟨hg2,_,rfl,by simpa[C9]using ho⟩
def j7(n:Nat):List Value:=[.int .i64 n]
theorem a8X(w:World)(i:In)(at_:Nat)(hat:at_≤65536)(ha:12≤i.op→i.op≤15→0≤i.a):Calls prog 268 #[.agg #[.int .i64 i.op, .int .i64 i.a, .string i.cls, .string i.mem], .int .i64 at_] w fun e w'=>w.grownBy w' none∧∃v,e= .returned v∧w'.ownsRow w.heap.size 3 1 v (G4 i at_).length ((G4 i at_).flatMap j7):=by
 obtain⟨op,a,cs,ms⟩:=i;dsimp only at ha⊢;have hc:op=20∨op=30∨op=12∨op=13∨op=14∨op=15∨(op≠20∧op≠30∧op≠12∧op≠13∧op≠14∧op≠15):=by omega
 rcases hc with rfl|rfl|rfl|rfl|rfl|rfl|⟨h20,h30,h12,h13,h14,h15⟩
 ·clear ha;have HG:Hid (w.grownBy (w.alloc (.cells #[.int .i64 20, .int .i64 a, .string cs, .string ms] 120)) none):=A2 _ _ _;have hb:=A3.new w #[.int .i64 20, .int .i64 a, .string cs, .string ms] 120;exact a5t
 ·clear ha;have HG:Hid (w.grownBy (w.alloc (.cells #[.int .i64 30, .int .i64 a, .string cs, .string ms] 120)) none):=A2 _ _ _;have hb:=A3.new w #[.int .i64 30, .int .i64 a, .string cs, .string ms] 120;exact a5t
 ·have HAI:Hid (((a.toNat:Nat):Int)=a):=by have:=ha (by decide) (by decide);unfold Hid;omega
  have HGO:Hid (G4 ⟨12,a,cs,ms⟩ at_=[a.toNat]):=rfl;clear ha;have HG:Hid (w.grownBy (w.alloc (.cells #[.int .i64 12, .int .i64 a, .string cs, .string ms] 120)) none):=A2 _ _ _;have hb:=A3.new w #[.int .i64 12, .int .i64 a, .string cs, .string ms] 120;have c0:=hb.c0;have c1:=hb.c1;clear hb;go_enter func268,ntmps268;go_wp2_with fail
  all_goals exact bodyPost_ret (v:= .slice (some ⟨w.heap.size+1,0,none⟩) 1 1) (by simp[results,results268,go_sem]) rfl ⟨A1 HG.out (A2 _ (.cells #[.int .i64 a] 3) _),_,rfl,by
   have ho:=a3W (w.alloc (.cells #[.int .i64 12, .int .i64 a, .string cs, .string ms] 120)) 3 1 1 w.heap.size [.int .i64 a] (by simp) (by simp) (by unfold maxLen;omega);rw[HGO.out];simpa[j7,HAI.out]using ho⟩
 ·have HAI:Hid (((a.toNat:Nat):Int)=a):=by have:=ha (by decide) (by decide);unfold Hid;omega
  have HGO:Hid (G4 ⟨13,a,cs,ms⟩ at_=[at_+1,a.toNat]):=rfl;clear ha;have HG:Hid (w.grownBy (w.alloc (.cells #[.int .i64 13, .int .i64 a, .string cs, .string ms] 120)) none):=A2 _ _ _;have hb:=A3.new w #[.int .i64 13, .int .i64 a, .string cs, .string ms] 120;have c0:=hb.c0;have c1:=hb.c1;clear hb;go_enter func268,ntmps268;go_wp2_with fail
  all_goals exact bodyPost_ret (v:= .slice (some ⟨w.heap.size+1,0,none⟩) 2 2) (by simp[results,results268,go_sem]) rfl ⟨A1 HG.out (A2 _ (.cells #[.int .i64 (at_+1), .int .i64 a] 3) _),_,rfl,by
   have ho:=a3W (w.alloc (.cells #[.int .i64 13, .int .i64 a, .string cs, .string ms] 120)) 3 1 2 w.heap.size [.int .i64 (at_+1), .int .i64 a] (by simp) (by simp) (by unfold maxLen;omega);rw[HGO.out];simpa[j7,HAI.out]using ho⟩
 ·have HAI:Hid (((a.toNat:Nat):Int)=a):=by have:=ha (by decide) (by decide);unfold Hid;omega
  have HGO:Hid (G4 ⟨14,a,cs,ms⟩ at_=[at_+1,a.toNat]):=rfl;clear ha;have HG:Hid (w.grownBy (w.alloc (.cells #[.int .i64 14, .int .i64 a, .string cs, .string ms] 120)) none):=A2 _ _ _;have hb:=A3.new w #[.int .i64 14, .int .i64 a, .string cs, .string ms] 120;have c0:=hb.c0;have c1:=hb.c1;clear hb;go_enter func268,ntmps268;go_wp2_with fail
  all_goals exact bodyPost_ret (v:= .slice (some ⟨w.heap.size+1,0,none⟩) 2 2) (by simp[results,results268,go_sem]) rfl ⟨A1 HG.out (A2 _ (.cells #[.int .i64 (at_+1), .int .i64 a] 3) _),_,rfl,by
   have ho:=a3W (w.alloc (.cells #[.int .i64 14, .int .i64 a, .string cs, .string ms] 120)) 3 1 2 w.heap.size [.int .i64 (at_+1), .int .i64 a] (by simp) (by simp) (by unfold maxLen;omega);rw[HGO.out];simpa[j7,HAI.out]using ho⟩
 ·have HAI:Hid (((a.toNat:Nat):Int)=a):=by have:=ha (by decide) (by decide);unfold Hid;omega
  have HGO:Hid (G4 ⟨15,a,cs,ms⟩ at_=[at_+1,a.toNat]):=rfl;clear ha;have HG:Hid (w.grownBy (w.alloc (.cells #[.int .i64 15, .int .i64 a, .string cs, .string ms] 120)) none):=A2 _ _ _;have hb:=A3.new w #[.int .i64 15, .int .i64 a, .string cs, .string ms] 120;have c0:=hb.c0;have c1:=hb.c1;clear hb;go_enter func268,ntmps268;go_wp2_with fail
  all_goals exact bodyPost_ret (v:= .slice (some ⟨w.heap.size+1,0,none⟩) 2 2) (by simp[results,results268,go_sem]) rfl ⟨A1 HG.out (A2 _ (.cells #[.int .i64 (at_+1), .int .i64 a] 3) _),_,rfl,by
   have ho:=a3W (w.alloc (.cells #[.int .i64 15, .int .i64 a, .string cs, .string ms] 120)) 3 1 2 w.heap.size [.int .i64 (at_+1), .int .i64 a] (by simp) (by simp) (by unfold maxLen;omega);rw[HGO.out];simpa[j7,HAI.out]using ho⟩
 ·have HAI:=A0 trivial;have HGO:Hid (G4 ⟨op,a,cs,ms⟩ at_=[at_+1]):=by unfold Hid G4;simp[h20,h30,h12];omega
  have k20:¬(op:Int)=20:=by omega
  have k30:¬(op:Int)=30:=by omega
  have k12:¬(op:Int)=12:=by omega
  have k13:¬(op:Int)=13:=by omega
  have k14:¬(op:Int)=14:=by omega
  have k15:¬(op:Int)=15:=by omega
  clear ha;have HG:Hid (w.grownBy (w.alloc (.cells #[.int .i64 op, .int .i64 a, .string cs, .string ms] 120)) none):=A2 _ _ _;have hb:=A3.new w #[.int .i64 op, .int .i64 a, .string cs, .string ms] 120;have c0:=hb.c0;have c1:=hb.c1;clear hb;go_enter func268,ntmps268;go_wp2_with fail
  all_goals exact bodyPost_ret (v:= .slice (some ⟨w.heap.size+1,0,none⟩) 1 1) (by simp[results,results268,go_sem]) rfl ⟨A1 HG.out (A2 _ (.cells #[.int .i64 (at_+1)] 3) _),_,rfl,by
   have ho:=a3W (w.alloc (.cells #[.int .i64 op, .int .i64 a, .string cs, .string ms] 120)) 3 1 1 w.heap.size [.int .i64 (at_+1)] (by simp) (by simp) (by unfold maxLen;omega);rw[HGO.out];simpa[j7,HAI.out]using ho⟩
structure Lk(w:World)(lim b:Nat)(L:List Cl)(p:Addr)(cap m1 m2 m3:Nat)(q:Nat→Qs):Prop where
 kls:G9 w lim b L p cap m1 m2 m3 q
 up:UpL L
 dist:a0L L
 named:a7F L
 sf:z9 K2 L
 sm:z9 G2 L
 pf:l9 w lim L q
 pm:S8 w lim L q
theorem Lk.keep{p:Addr}{cap:Nat}(h:Lk w lim b L p cap m1 m2 m3 q)(hg:w.grownBy w' none)(hl:lim≤w.heap.size):Lk w' lim b L p cap m1 m2 m3 q:=
 ⟨h.kls.keep hg hl,h.up,h.dist,h.named,h.sf,h.sm,fun i hi=>(h.pf i hi).keep hg,h.pm.keep hg⟩
theorem c4c{g:Nat}{t:TypeId}{a0 a1 a2 a3 a4 a5 a6 a7:Value}(h:A3 w g #[a0,a1,a2,a3,a4,a5,a6,a7] t)(v0 v1 v2 v3 v4 v5 v6 v7:Value):
 A3 ((((((((w.setCell ⟨g,0,none⟩ v0).setCell ⟨g,1,none⟩ v1).setCell ⟨g,2,none⟩ v2).setCell ⟨g,3,none⟩ v3).setCell ⟨g,4,none⟩ v4).setCell ⟨g,5,none⟩ v5).setCell ⟨g,6,none⟩ v6).setCell ⟨g,7,none⟩ v7) g #[v0,v1,v2,v3,v4,v5,v6,v7] t:=
 by
 have h0:A3 _ g #[v0,a1,a2,a3,a4,a5,a6,a7] t:=h.set 0 v0;generalize w.setCell ⟨g,0,none⟩ v0=x0 at h0⊢;have h1:A3 _ g #[v0,v1,a2,a3,a4,a5,a6,a7] t:=h0.set 1 v1;generalize x0.setCell ⟨g,1,none⟩ v1=x1 at h1⊢;have h2:A3 _ g #[v0,v1,v2,a3,a4,a5,a6,a7] t:=h1.set 2 v2;generalize x1.setCell ⟨g,2,none⟩ v2=x2 at h2⊢;have h3:A3 _ g #[v0,v1,v2,v3,a4,a5,a6,a7] t:=h2.set 3 v3;generalize x2.setCell ⟨g,3,none⟩ v3=x3 at h3⊢;have h4:A3 _ g #[v0,v1,v2,v3,v4,a5,a6,a7] t:=h3.set 4 v4;generalize x3.setCell ⟨g,4,none⟩ v4=x4 at h4⊢;have h5:A3 _ g #[v0,v1,v2,v3,v4,v5,a6,a7] t:=h4.set 5 v5;generalize x4.setCell ⟨g,5,none⟩ v5=x5 at h5⊢;have h6:A3 _ g #[v0,v1,v2,v3,v4,v5,v6,a7] t:=h5.set 6 v6;generalize x5.setCell ⟨g,6,none⟩ v6=x6 at h6⊢;exact h6.set 7 v7
theorem c3s(w:World)(g:Nat)(v0 v1 v2 v3 v4 v5 v6 v7:Value):
 w.grownBy ((((((((w.setCell ⟨g,0,none⟩ v0).setCell ⟨g,1,none⟩ v1).setCell ⟨g,2,none⟩ v2).setCell ⟨g,3,none⟩ v3).setCell ⟨g,4,none⟩ v4).setCell ⟨g,5,none⟩ v5).setCell ⟨g,6,none⟩ v6).setCell ⟨g,7,none⟩ v7) (some g):=by
 have h0:=A9 w ⟨g,0,none⟩ v0;generalize w.setCell ⟨g,0,none⟩ v0=x0 at h0⊢;have h1:=A9 x0 ⟨g,1,none⟩ v1;generalize x0.setCell ⟨g,1,none⟩ v1=x1 at h1⊢;have h2:=A9 x1 ⟨g,2,none⟩ v2;generalize x1.setCell ⟨g,2,none⟩ v2=x2 at h2⊢;have h3:=A9 x2 ⟨g,3,none⟩ v3;generalize x2.setCell ⟨g,3,none⟩ v3=x3 at h3⊢;have h4:=A9 x3 ⟨g,4,none⟩ v4;generalize x3.setCell ⟨g,4,none⟩ v4=x4 at h4⊢;have h5:=A9 x4 ⟨g,5,none⟩ v5;generalize x4.setCell ⟨g,5,none⟩ v5=x5 at h5⊢;have h6:=A9 x5 ⟨g,6,none⟩ v6;generalize x5.setCell ⟨g,6,none⟩ v6=x6 at h6⊢;have h7:=A9 x6 ⟨g,7,none⟩ v7;exact A1 (A1 (A1 (A1 (A1 (A1 (A1 h0 h1) h2) h3) h4) h5) h6) h7
theorem b2L{r:Option Nat}(h:w.grownBy w' r):w.heap.size≤w'.heap.size:=h.size
def c2V(cs:ByteArray)(op:Nat)(t:Ty):Prop:=op=2∧t=B1
def Op2(i:In):Prop:=i.op=2∨i.op=20
def Me2(m:Me):Prop:=m.handlers.length≤0∧∀i∈m.code,Op2 i
def a7C(w:World)(b:Nat)(L:List Cl)(a:Int)(cs ms:ByteArray)(op:Nat):Prop:=
 Calls prog 273 #[.pointer (some ⟨b,0,none⟩), .agg #[.int .i64 op, .int .i64 a, .string cs, .string ms]] w fun e w'=>w.grownBy w' none∧∃v,e= .returned v∧w'.ownsRow w.heap.size 98 2 v (C6 L ⟨op,a,cs,ms⟩).length ((C6 L ⟨op,a,cs,ms⟩).flatMap C9)
theorem b9l(w:World)(b:Nat)(L:List Cl)(a:Int)(cs ms:ByteArray)(op:Nat)(t:Ty)(ho:c2V cs op t):a7C w b L a cs ms op:=by
 unfold a7C
 have HPT:Hid (C6 L ⟨op,a,cs,ms⟩=[t]):=by
  obtain⟨rfl,rfl⟩:=ho;exact rfl
 have HG0:Hid (w.grownBy (w.alloc (.cells #[.int .i64 op, .int .i64 a, .string cs, .string ms] 120)) none):=A2 _ _ _;have hb:=A3.new w #[.int .i64 op, .int .i64 a, .string cs, .string ms] 120;obtain⟨c0,c1,c2,c3⟩:=hb.q4;clear hb
 all_goals
  obtain⟨rfl,h2⟩:=ho;have HT:Hid (_=_):=h2;clear h2;simp only[Int.natCast_zero,Int.natCast_one,Int.cast_ofNat_Int]at c0 c1 c2 c3 HG0⊢;go_enter func273,ntmps273;go_wp2_with (go_at_call 320;refine(a4O _ _).mono ?_)
  rintro e w1 ⟨rfl,hg1⟩;go_wp2_with (go_at_call 321;refine(b1f _ _).mono ?_;rintro e w9 ⟨rfl,rfl⟩)
  all_goals exact bodyPost_ret (v:= .slice (some ⟨w1.heap.size,0,none⟩) 1 1) (by simp[results,results273,go_sem]) rfl ⟨A1 (A1 HG0.out hg1) (A2 w1 _ none),_,rfl,by
   have ho:=a3W w1 98 2 1 w.heap.size (C9 t) rfl (b2L (A1 HG0.out hg1)) (by unfold maxLen;omega);rw[HPT.out];have e:=HT.out;subst e;simpa[C9,O1,a1q,B1,D7,C5]using ho⟩
theorem b7O(w:World)(b:Nat)(L:List Cl)(a:Int)(cs ms:ByteArray):a7C w b L a cs ms 20:=by
 unfold a7C;have HPT:Hid (C6 L ⟨20,a,cs,ms⟩=[]):=rfl;have HG0:Hid (w.grownBy (w.alloc (.cells #[.int .i64 (20:Nat), .int .i64 a, .string cs, .string ms] 120)) none):=A2 _ _ _;have hb:=A3.new w #[.int .i64 (20:Nat), .int .i64 a, .string cs, .string ms] 120;have c0:=hb.c0;clear hb;simp only[Int.cast_ofNat_Int]at c0 HG0⊢;go_enter func273,ntmps273;go_wp2_with fail
 all_goals exact bodyPost_ret (v:= .slice none 0 0) (by simp[results,results273,go_sem]) rfl ⟨HG0.out,_,rfl,by rw[HPT.out];exact World.ownsRow_nil _ _ _ _⟩
theorem b9m(w:World)(lim b:Nat)(L:List Cl)(p:Addr)(cap m1 m2 m3:Nat)(q:Nat→Qs)(h:Hid (Lk w lim b L p cap m1 m2 m3 q))(hl:lim≤w.heap.size)(i:In)(h2:Op2 i):
 Calls prog 273 #[.pointer (some ⟨b,0,none⟩), .agg #[.int .i64 i.op, .int .i64 i.a, .string i.cls, .string i.mem]] w fun e w'=>w.grownBy w' none∧∃v,e= .returned v∧w'.ownsRow w.heap.size 98 2 v (C6 L i).length ((C6 L i).flatMap C9):=by
 obtain⟨op,a,cs,ms⟩:=i;rcases h2 with h2|h2
 ·have h2:op=2:=h2;subst h2;exact b9l w b L a cs ms 2 B1 ⟨rfl,rfl⟩
 ·have h2:op=20:=h2;subst h2;exact b7O w b L a cs ms
def j8(tn pn ahead most:Nat)(ends:Bool):Value:=if ends then .tuple #[.int .i64 0, .bool (decide (tn≤ahead))]else .tuple #[.int .i64 ((ahead:Int)-tn+pn), .bool (decide (tn≤ahead)&&decide ((ahead:Int)-tn+pn≤most))]
theorem a8s(w:World)(ta pa:Option Addr)(tn tk pn pk ahead most:Nat)(ends:Bool)(h1:tn≤65536)(h2:pn≤65536)(h3:ahead≤65536)(h4:most≤65536):
 Calls prog 275 #[.agg #[.slice ta tn tk, .slice pa pn pk, .bool ends], .int .i64 ahead, .int .i64 most] w fun e w'=>e= .returned (j8 tn pn ahead most ends)∧w.grownBy w' none:=by
 have hg:w.grownBy (w.alloc (.cells #[.slice ta tn tk, .slice pa pn pk, .bool ends] 315)) none:=A2 _ _ _;cases ends with
 |true=>
  by_cases hle:tn≤ahead
  ·have hle':(0:Int)≤(ahead:Int)-tn:=by omega
   go_enter func275,ntmps275;go_wp2_with fail
   all_goals exact bodyPost_ret (v:= .tuple #[.int .i64 0, .bool true]) (by simp[results,results275,go_sem,hle,hle']) rfl ⟨by simp[j8,hle],hg⟩
  ·have hle':¬(0:Int)≤(ahead:Int)-tn:=by omega
   go_enter func275,ntmps275;go_wp2_with fail
   all_goals exact bodyPost_ret (v:= .tuple #[.int .i64 0, .bool false]) (by simp[results,results275,go_sem,hle,hle']) rfl ⟨by simp[j8,hle],hg⟩
 |false=>
  by_cases hle:tn≤ahead
  ·have hle':(0:Int)≤(ahead:Int)-tn:=by omega
   by_cases hm:(ahead:Int)-tn+pn≤most
   ·go_enter func275,ntmps275;go_wp2_with fail
    all_goals exact bodyPost_ret (v:= .tuple #[.int .i64 ((ahead:Int)-tn+pn), .bool true]) (by simp[results,results275,go_sem,hle,hle',hm]) rfl ⟨by simp[j8,hle,hm],hg⟩
   ·go_enter func275,ntmps275;go_wp2_with fail
    all_goals exact bodyPost_ret (v:= .tuple #[.int .i64 ((ahead:Int)-tn+pn), .bool false]) (by simp[results,results275,go_sem,hle,hle',hm]) rfl ⟨by simp[j8,hle,hm],hg⟩
  ·have hle':¬(0:Int)≤(ahead:Int)-tn:=by omega
   go_enter func275,ntmps275;go_wp2_with fail
   all_goals exact bodyPost_ret (v:= .tuple #[.int .i64 ((ahead:Int)-tn+pn), .bool false]) (by simp[results,results275,go_sem,hle,hle']) rfl ⟨by simp[j8,hle],hg⟩
theorem a5i{W w1:World}(hg:W.grownBy w1 none):(∀b o,b<W.heap.size→w1.cell? ⟨b,o,none⟩=W.cell? ⟨b,o,none⟩)∧(∀b o,b<W.heap.size→w1.frozen? ⟨b,o,none⟩=W.frozen? ⟨b,o,none⟩):=
 ⟨fun b o h=>World.cell?_of_block (a:=⟨b,o,none⟩) (hg.block b h (by simp)),fun b o h=>World.frozen?_of_block (a:=⟨b,o,none⟩) (hg.block b h (by simp))⟩
theorem b5w(w:World)(b:Nat)(L:List Cl)(pp:List Ty)(mn rn:ByteArray)(rk mst mlo:Nat)(mco:List In)(mha:List Hd)(pa ca ha:Option Addr)(pn pk cn ck hn hk:Nat)(op:Nat)(a:Int)(cs ms:ByteArray)
 (hop:op=2∨op=20):
 Calls prog 272 #[.pointer (some ⟨b,0,none⟩), .agg #[.string mn, .slice pa pn pk, .int .i64 rk, .string rn, .int .i64 mst, .int .i64 mlo, .slice ca cn ck, .slice ha hn hk], .agg #[.int .i64 op, .int .i64 a, .string cs, .string ms]] w fun e w'=>w.grownBy w' none∧∃v,e= .returned v∧w'.ownsRow w.heap.size 98 2 v (F6 L ⟨mn,pp,⟨rk,rn⟩,mst,mlo,mco,mha⟩ ⟨op,a,cs,ms⟩).length ((F6 L ⟨mn,pp,⟨rk,rn⟩,mst,mlo,mco,mha⟩ ⟨op,a,cs,ms⟩).flatMap C9):=by
 generalize HTT:F6 L ⟨mn,pp,⟨rk,rn⟩,mst,mlo,mco,mha⟩ ⟨op,a,cs,ms⟩=TT;have HT:=A0 HTT;clear HTT;have hg0:w.grownBy ((w.alloc (.cells #[.string mn, .slice pa pn pk, .int .i64 rk, .string rn, .int .i64 mst, .int .i64 mlo, .slice ca cn ck, .slice ha hn hk] 102)).alloc (.cells #[.int .i64 op, .int .i64 a, .string cs, .string ms] 120)) none:=A1 (A2 _ _ _) (A2 _ _ _);have HG0:=A0 hg0;clear hg0;go_enter func272,ntmps272;go_wp2_with (go_at_call 320;refine(a4O _ _).mono ?_)
 rintro e w1 ⟨rfl,hg1⟩;obtain⟨hc1,hf1⟩:=a5i hg1;have hz1:=hg1.size;simp only[World.size_alloc]at hz1;have hy0:w.heap.size<w1.heap.size:=by omega
 have hy1:w.heap.size+1<w1.heap.size:=by omega
 go_wp2_with (go_at_call 267;refine(a1T _ _).mono ?_)
 rintro e w2 ⟨rfl,hg2⟩;obtain⟨hc2,hf2⟩:=a5i hg2;have hz2:=hg2.size;have hx0:w.heap.size<w2.heap.size:=by omega
 have hx1:w.heap.size+1<w2.heap.size:=by omega
 have HW2:Hid (w.grownBy ((w2.alloc (.cells #[.int .i64 1, .string ⟨#[]⟩] 98)).alloc (.cells #[.int .i64 2, .string ⟨#[79,98,106,101,99,116]⟩] 98)) none):=A1 (A1 (A1 (A1 HG0.out hg1) hg2) (A2 _ _ _)) (A2 _ _ _);clear hg1 hg2;go_upto_region 3 with fail
 rcases hop with rfl|rfl
 ·have HN:Hid (TT=[]):=HT.out.symm;go_wp2_with fail
  all_goals exact bodyPost_ret (v:= .slice none 0 0) (by simp[results,results272,go_sem]) rfl ⟨HW2.out,_,rfl,by rw[HN.out];exact World.ownsRow_nil _ _ _ _⟩
 ·skip
  go_wp2_with (go_at_call 324;refine(b4q _ ⟨rk,rn⟩).mono ?_)
  rintro e w3 ⟨hg3,v,rfl,ho⟩;go_wp2_with fail
  all_goals exact bodyPost_ret (v:=v) (by simp[results,results272,go_sem]) rfl ⟨A1 HW2.out hg3,v,rfl,by rw[←HT.out];exact P3 ho (b2L HW2.out)⟩
theorem c0P(w:World):w.drew.heap.size=w.heap.size:=rfl
theorem c2d{α:Type}{sz:Nat}{enc:α→List Value}{a:Option Addr}{xs:List α}(hs:∀x,(enc x).length=sz)(h:B8 w lim sz enc a xs):∀j u,(xs.flatMap enc)[j]? =some u→∃ad,a=some ad∧w.cell? (ad.add j)=some u:=by
 intro j u hj
 have hlen:(xs.flatMap enc).length=xs.length*sz:=by
  clear h hj;induction xs with
  |nil=>simp
  |cons x l ih=>rw[List.flatMap_cons,List.length_append,hs,ih,List.length_cons,Nat.succ_mul];omega
 have hjl:=(List.getElem?_eq_some_iff.1 hj).1;rw[hlen]at hjl
 have hsz:0<sz:=by
  rcases Nat.eq_zero_or_pos sz with e|e
  ·subst e;simp at hjl
  ·exact e
 have hq:=Nat.div_lt_of_lt_mul (by rw[Nat.mul_comm];exact hjl);have hr:j % sz<sz:=Nat.mod_lt _ hsz;have he:=(Nat.div_add_mod' j sz).symm;obtain⟨p',e1,_,h3⟩:=h (j/sz) hq;refine⟨p',e1,?_⟩;have h5:=a0T enc sz hs xs (j/sz) hq (j % sz) hr;rw[←he]at h5;rw[h5]at hj;have h6:=h3 (j % sz) u hj;rw[←he]at h6;exact h6
structure a4n(L:List Cl)(i:In):Prop where
 cls:i.cls.size≤maxLen
 mem:i.mem.size≤maxLen
 call:i.op=19→∃k,L3 L i.cls i.mem=some k
 few:(a0V L i).params.length≤65536
 two:Op2 i
theorem b7B(w:World)(lim b:Nat)(L:List Cl)(p:Addr)(cap m1 m2 m3:Nat)(q:Nat→Qs)(h:Hid (Lk w lim b L p cap m1 m2 m3 q))(hl:lim≤w.heap.size)(m:Me)(pa ca ha:Option Addr)(pk ck hk:Nat)(i:In)(hi:a4n L i):
 Calls prog 272 #[.pointer (some ⟨b,0,none⟩), .agg (mV m pa pk ca ck ha hk), .agg #[.int .i64 i.op, .int .i64 i.a, .string i.cls, .string i.mem]] w fun e w'=>w.grownBy w' none∧∃v,e= .returned v∧w'.ownsRow w.heap.size 98 2 v (F6 L m i).length ((F6 L m i).flatMap C9):=by
 obtain⟨op,a,cs,ms⟩:=i;obtain⟨mn,mp,⟨rk,rn⟩,mst,mlo,mco,mha⟩:=m;exact b5w w b L mp mn rn rk mst mlo mco mha pa ca ha _ pk _ ck _ hk op a cs ms hi.two
end Kx
end
end Go.Proofs.YtdhophglnhcjbaaGreatDoor
