/- P05: a part of the proof that the last text tells. -/
import Derived.Test.YtdhophglnhcjbaaGreatDoorP04
import Derived.Test.YtdhophglnhcjbaaGreatDoorP01
set_option linter.all false
namespace Go.Proofs.YtdhophglnhcjbaaGreatDoor
open Go.RowKit Go.Shelf Cf
namespace Kx
attribute [local go_sem] Oper.semAt_some
set_option maxRecDepth 100000 in
set_option maxHeartbeats 1000000 in
theorem b6D(F:Fence)(n:Nat)(hF:F.fn 254)(hro:F.round=none)(hn:1≤n)(l n₀ b1 b2 lim b:Nat)(L:List Cl)(p:Addr)(cap m1 m2 m3:Nat)(q:Nat→Qs)(nm:ByteArray)(hnm:nm.size≤maxLen)(mu:World→Nat)
 (J Jx:List Nat→World→Prop)
 (hJa:∀pre A B,J pre A→A.grownBy B none→J pre B) (hJb:∀pre A B,Jx pre A→A.grownBy B none→Jx pre B)
 (hmu:∀pre W,J pre W→pre.length<L.length∧mu W+pre.length=L.length)
 (hY:∀pre x W,x<L.length→J pre W→YieldAt F (n-1) Tryz.prog l #[a2d L q x] W fun e W'=>
   (e= .returned (.bool true)∧J (pre++ [x]) W'∧KpU n₀ b1 W W')∨(e= .returned (.bool false)∧Jx (pre++ [x]) W'))
 (W:World) (hb1:W.cell? ⟨b1,0,none⟩=some (.pointer (some ⟨b,0,none⟩))) (hb2:W.cell? ⟨b2,0,none⟩=some (.string nm)) (hK:Hid (I9 W lim b L p cap m1 m2 m3 q)) (hlim:lim≤n₀) (h0:J [] W):
 CallsIn F n Tryz.prog 254 #[.func (.yield l) #[] #[], .pointer (some ⟨b1,0,none⟩), .pointer (some ⟨b2,0,none⟩)] W fun e W'=>(∃v,e= .returned v)∧
  ((∃ys,ys=D8 L L.length nm∧J ys W')∨(∃pre,pre<+:D8 L L.length nm∧Jx pre W')):=by
 have c1:=hK.out.c1;obtain⟨v5,hv5⟩:∃v,v=E2 L nm:=⟨_,rfl⟩
 obtain⟨v4,hv4⟩:∃v,v=(C5 L nm).getD 0:=⟨_,rfl⟩
 have hrun:=fun k:Nat=>a5F (w:=W.drewN k) hK.out.n1 nm hnm
 rw[←hv5,←hv4]at hrun;have HV5:=A0 hv5;have HV4:=A0 hv4;clear hv5 hv4;obtain⟨Ffn,Fd,Fa,Fr⟩:=F;obtain rfl:Fr=none:=hro;refine callsIn_of_wp Tryz.func254 rfl hF ?_ rfl;simp only[Tryz.ntmps254,List.size_toArray,List.length_cons,List.length_nil,Nat.reduceAdd,Nat.reduceSub,Array.replicate_succ,Array.replicate_zero,List.push_toArray,List.append_toArray,List.nil_append,List.cons_append];gi_wp2
 gi_quiet (fail)
 gi_wp2
 have hJ0:=hJa [] W _ h0 (F0 W nq none);have HK0:=A0 (hK.out.drewN nq);have hb1':(W.drewN nq).cell? ⟨b1,0,none⟩=some (.pointer (some ⟨b,0,none⟩)):=hb1;clear hb1 hb2 h0 hK c1 hrun
 gi_loopw [4,5] (fun u4 u5 wr=>∃(pre:List Nat) (nm':ByteArray),J pre wr∧D8 L L.length nm=pre++D8 L (L.length-pre.length) nm'∧nm'.size≤maxLen∧u4= .int .i64 ((C5 L nm').getD 0:Nat)∧u5= .bool (E2 L nm')∧I9 wr lim b L p cap m1 m2 m3 q∧wr.cell? ⟨b1,0,none⟩=some (.pointer (some ⟨b,0,none⟩)))
  (fun _ _ wz=>mu wz)
 case atStart=>exact⟨[],nm,hJ0,rfl,hnm,by rw[HV4.out],by rw[HV5.out],HK0.out,hb1'⟩
 case round=>
  clear hJ0 HK0 hb1' HV4 HV5;obtain⟨pre,nm',hJp,hup,hns,rfl,rfl,hkl,hb1⟩:=hrel;have HK:=A0 hkl;have HUP:=A0 hup;have hml:=hmu pre wr hJp;have HML:=A0 hml.2
  have hus:D8 L (L.length-pre.length) nm'=match C5 L nm' with|none=> []|some i=>i::D8 L (L.length-(pre.length+1)) (cl L i).super:=by
   obtain⟨k,hk⟩:∃k,L.length-pre.length=k+1:=⟨L.length-pre.length-1,by omega⟩
   rw[hk,show L.length-(pre.length+1)=k from by omega];rfl
  clear hml;clear hkl hup;cases hf:C5 L nm' with
  |none=>
   have hv5:E2 L nm'=false:=by unfold E2;rw[hf];rfl
   rw[hf]at hus;have HS:Hid (D8 L (L.length-pre.length) nm'=[]):=hus;rw[hv5];clear hus;gi_wp2
   refine⟨fun _ h=>(by cases h),?_⟩;gi_wp2
   go_end0;exact⟨⟨_,rfl⟩, .inl ⟨pre,by rw[HUP.out,HS.out,List.append_nil],hJp⟩⟩
  |some i=>
   have hv5:E2 L nm'=true:=by unfold E2;rw[hf];rfl
   have hi:=(L4 hf).1;rw[hf]at hus;have HS:Hid (D8 L (L.length-pre.length) nm'=i::D8 L (L.length-(pre.length+1)) (cl L i).super):=hus;obtain⟨fn,tmps,assign,body,hy,hR⟩:=hY pre i wr hi hJp;have hns2:=(HK.out.names i hi).2;have hpc:=HK.out.row i hi;have f0:wr.cell? (p.add (i*4))=some (.string (cl L i).name):=hpc 0 _ rfl;have f1:wr.cell? ⟨(p.add (i*4)).block,(p.add (i*4)).off+1,none⟩=some (.string (cl L i).super):=by rw[B9 p (i*4) 0];exact hpc 1 _ rfl
   have f2:wr.cell? ⟨(p.add (i*4)).block,(p.add (i*4)).off+2,none⟩=some (.slice (q i).fa (cl L i).fields.length (q i).fk):=by rw[B9 p (i*4) 1];exact hpc 2 _ rfl
   have f3:wr.cell? ⟨(p.add (i*4)).block,(p.add (i*4)).off+3,none⟩=some (.slice (q i).ma (cl L i).methods.length (q i).mc):=by rw[B9 p (i*4) 2];exact hpc 3 _ rfl
   have c0:=HK.out.c0;rw[hv5];simp only[Option.getD_some];clear hpc hus;have hy':(Instr.yield l #[.agg #[.string (cl L i).name, .string (cl L i).super, .slice (q i).fa (cl L i).fields.length (q i).fk, .slice (q i).ma (cl L i).methods.length (q i).mc]]).run Tryz.prog wr= .ok (.round l fn tmps assign body) wr:=hy;clear hy;gi_wp2
   refine hR.mono ?_;rintro e W3 (⟨rfl,hJ3,hk3,hk4⟩|⟨rfl,hJx3⟩)
   ·have HK3:=A0 (HK.out.below hk3 hlim);have hb3:W3.cell? ⟨b1,0,none⟩=some (.pointer (some ⟨b,0,none⟩)):=by rw[World.cell?_of_block (w:=wr) hk4];exact hb1
    have c03:=HK3.out.c0;have c13:=HK3.out.c1;have f13:W3.cell? ⟨(p.add (i*4)).block,(p.add (i*4)).off+1,none⟩=some (.string (cl L i).super):=by rw[B9 p (i*4) 0];exact HK3.out.row i hi 1 _ rfl
    obtain⟨sp,hsp⟩:∃sp,sp=(cl L i).super:=⟨_,rfl⟩
    rw[←hsp]at f13 hns2;obtain⟨v52,hv52⟩:∃v,v=E2 L sp:=⟨_,rfl⟩
    obtain⟨v42,hv42⟩:∃v,v=(C5 L sp).getD 0:=⟨_,rfl⟩
    have hrun:=fun k:Nat=>a5F (w:=W3.drewN k) HK3.out.n1 sp hns2
    rw[←hv52,←hv42]at hrun;have HV5:=A0 hv52;have HV4:=A0 hv42;have HSP:=A0 hsp;clear hv52 hv42 hsp f0 f1 f2 f3 c0 hk3 hk4 hb1;gi_wp2
    gi_quiet (fail)
    go_roundw
    case rel=>
     exact⟨.int .i64 v42, .bool v52,_,_,_,_,_,_,_,_,_,_,_,_,_,_,_,_,_,_,_,_,_,_,_,_,_,_,_,_,⟨pre++ [i],sp,hJa _ _ _ hJ3 (F0 _ _ _),by rw[HUP.out,HS.out,HSP.out,List.length_append,List.length_singleton];simp,hns2,by rw[HV4.out],by rw[HV5.out],HK3.out.drewN _,hb3⟩,rfl⟩
    case measure=>
     have h1:=hmu (pre++ [i]) _ (hJa _ _ _ hJ3 (F0 W3 nq none));have h2:=HML.out;simp only[List.length_append,List.length_singleton]at h1;show mu (W3.drewN nq)<mu wr;omega
   ·gi_wp2
    go_end0;exact⟨⟨_,rfl⟩, .inr ⟨pre++ [i],⟨D8 L (L.length-(pre.length+1)) (cl L i).super,by rw[HUP.out,HS.out];simp⟩,hJx3⟩⟩
theorem b7W(F:Fence)(n:Nat)(hF:F.fn 254)(hro:F.round=none)(hn:1≤n)(n₀ b1 b2 lim b:Nat)(L:List Cl)(p:Addr)(cap m1 m2 m3:Nat)(q:Nat→Qs)(nm:ByteArray)(hnm:nm.size≤maxLen)(w:World)
 (h1:b1<w.heap.size) (h2:b2<w.heap.size) (hc1:w.cell? ⟨b1,0,none⟩=some (.pointer (some ⟨b,0,none⟩))) (hc2:w.cell? ⟨b2,0,none⟩=some (.string nm)) (hK:Hid (I9 w lim b L p cap m1 m2 m3 q)) (hlim:lim≤n₀) (hn0:n₀≤w.heap.size):
 b1e F n Tryz.prog 254 #[.pointer (some ⟨b1,0,none⟩), .pointer (some ⟨b2,0,none⟩)] (fun i:Ci L=> #[a2d L q i.1]) (KpU n₀ b1) (fun ys=>X2 ys=D8 L L.length nm) (fun pre=>X2 pre<+:D8 L L.length nm) L.length w:=fun l mu J Jx W hW hJ hJx hmu hY h0=>by
 refine(b6D F n hF hro hn l n₀ b1 b2 lim b L p cap m1 m2 m3 q nm hnm mu (fun pre W=>∃pr:List (Ci L),X2 pr=pre∧J pr W) (fun pre W=>∃pr:List (Ci L),X2 pr=pre∧Jx pr W)
  (fun pre A B hj hg=>by obtain⟨pr,e,hj⟩:=hj;exact⟨pr,e,hJ pr A B none hj hg (fun r e=>by cases e)⟩) (fun pre A B hj hg=>by obtain⟨pr,e,hj⟩:=hj;exact⟨pr,e,hJx pr A B none hj hg (fun r e=>by cases e)⟩)
  (fun pre W hj=>by obtain⟨pr,rfl,hj⟩:=hj;simpa[X2]using hmu pr W hj)
  (fun pre x W1 hx hj=>by
    obtain⟨pr,rfl,hj⟩:=hj;refine(hY pr ⟨x,hx⟩ W1 hj).mono (fun e W' hr=> ?_);rcases hr with⟨h1,h2,h3⟩|⟨h1,h2⟩
    ·exact .inl ⟨h1,⟨_,by simp[X2],h2⟩,h3⟩
    ·exact .inr ⟨h1,⟨_,by simp[X2],h2⟩⟩) W
  ((hW.cell (p:=⟨b1,0,none⟩) h1).trans hc1) ((hW.cell (p:=⟨b2,0,none⟩) h2).trans hc2) (hK.out.below hW (Nat.le_trans hlim hn0)) hlim ⟨[],rfl,h0⟩).mono ?_
 rintro e W' ⟨hv,⟨ys,rfl,pr,he,hj⟩|⟨pre,hp,pr,rfl,hj⟩⟩
 ·exact⟨hv, .inl ⟨pr,he,hj⟩⟩
 ·exact⟨hv, .inr ⟨pr,hp,hj⟩⟩
attribute [local go_sem] Oper.semAt_some
theorem a9L(l:List Cl):∀(k:Nat) (n:ByteArray),(D8 l k n).length≤k
 |0,_=>Nat.le_refl _
 |k+1,n=>by
  show(match C5 l n with|none=> []|some i=>i::D8 l k (cl l i).super).length≤k+1;cases C5 l n with
  |none=>exact Nat.zero_le _
  |some i=>have:=a9L l k (cl l i).super;simp;omega
def c0H(A:Act)(W:World):Exit→Act→World→Prop
 | .normal,a,w=>a=A∧w=W
 | .panic _,_,_=>False
 | .outgrown,_,_=>False
 | .ret,_,_=>False
 | .exit _,_,_=>False
 | .goto _,_,_=>False
variable {B k lim m n:Nat}
variable {a:Act}
variable {W w w':World}
theorem b7T{F:Fence}{P:Program}{c:Code}{Q:Exit→Act→World→Prop}(A:Act)(W:World)(h:c.wpIn F n P (c0H A W) a w)(hQ:Q .normal A W):c.wpIn F n P Q a w:=
 wpIn_mono h (fun e a' w' hh=>by
  cases e with
  |normal=>obtain⟨h2,h3⟩:=hh;subst h2 h3;exact hQ
  |panic ch=>exact hh.elim
  |outgrown=>exact hh.elim
  |ret=>exact hh.elim
  |exit id=>exact hh.elim
  |goto id=>exact hh.elim)
theorem b4Y{a:World}(h:Below B a W):Below B a W.drew:=⟨h.os,h.tape,h.output,h.size,h.block⟩
def a8b(B:Nat)(W:World):Nat:=match W.cell? ⟨B,0,none⟩with|some (.int .i64 v)=>v.toNat|_=>0
variable {t:TypeId}
theorem b8o(h:A3 W B #[.int .i64 (n:Int)] t):a8b B W=n:=by
 unfold a8b;rw[h.cell 0 _ rfl];simp
theorem a1y{Fr:(Nat→Value)→Act}(h:a=Fr (fun k=>a.tmps.getD k undef)):∃t,a=Fr t:=⟨_,h⟩
set_option maxRecDepth 100000 in
set_option maxHeartbeats 2000000 in
theorem b2O(w:World)(lim b:Nat)(L:List Cl)(p:Addr)(cap m1 m2 m3:Nat)(q:Nat→Qs)(h:Hid (I9 w lim b L p cap m1 m2 m3 q))(hl:lim≤w.heap.size)(i:Nat)(hi:i<L.length):
 Calls Tryz.prog 160 #[.pointer (some ⟨b,0,none⟩), .int .i64 i] w fun e w'=>e= .returned (.bool (loP L i))∧w.grownBy w' none:=by
 have hsm:=h.out.small;obtain⟨nL,hnL⟩:∃nL,nL=L.length:=⟨_,rfl⟩
 obtain⟨sp,hsp⟩:∃sp,sp=(cl L i).super:=⟨_,rfl⟩
 obtain⟨nm,hnm⟩:∃nm,nm=(cl L i).name:=⟨_,rfl⟩
 have HSP:=A0 hsp;have HNM:=A0 hnm;have HNL:=A0 hnL;have hns:=(h.out.names i hi).2;rw[←hsp]at hns
 have hcW:∀W:World,Below w.heap.size w W→W.cell? ⟨b,0,none⟩=some (.slice (some p) nL cap)∧W.cell? ⟨(p.add (i*4)).block,(p.add (i*4)).off+1,none⟩=some (.string sp)∧W.cell? (p.add (i*4))=some (.string nm):=fun W hW=>by
  have HK:=h.out.below hW hl;refine⟨by rw[hnL];exact HK.c0,by rw[B9 p (i*4) 0,hsp];exact HK.row i hi 1 _ rfl,by rw[hnm];exact HK.row i hi 0 _ rfl⟩
 have hi':i<nL:=by omega
 have hsm':nL≤65536:=by omega
 have HCW:=A0 hcW;clear hnL hsp hnm hcW;have hw1:=HCW.out ((((w.alloc (.cells #[.pointer (some ⟨b,0,none⟩)] 156)).alloc (.cells #[.int .i64 i] 3)).alloc (.cells #[.bool false] 4))) ((((Below.refl _ w).alloc (Nat.le_refl _) _).alloc (by simp) _).alloc (by simp;omega) _);have hw2:=HCW.out (((((w.alloc (.cells #[.pointer (some ⟨b,0,none⟩)] 156)).alloc (.cells #[.int .i64 i] 3)).alloc (.cells #[.bool false] 4)).alloc (.cells #[.int .i64 (nL:Int)] 3))) (((((Below.refl _ w).alloc (Nat.le_refl _) _).alloc (by simp) _).alloc (by simp;omega) _).alloc (by simp;omega) _);obtain⟨ca0,ca1,ca2⟩:=hw1;obtain⟨cb0,cb1,cb2⟩:=hw2;refine(callsIn_wide (n:=9)).1 ?_;refine callsIn_of_wp_marks Tryz.func160 rfl trivial ?_ rfl;simp only[Tryz.ntmps160,List.size_toArray,List.length_cons,List.length_nil,Nat.reduceAdd,Nat.reduceSub,Array.replicate_succ,Array.replicate_zero,List.push_toArray,List.append_toArray,List.nil_append,List.cons_append];have hmix:Tryz.prog.follows .mixedOrders=true:=by kernel_rfl
 gi_wp2
 refine b7T {tmps:= #[.pointer (some ⟨b,0,none⟩), .int .i64 (i:Int), .pointer (some ⟨w.heap.size,0,none⟩), .pointer (some ⟨w.heap.size+1,0,none⟩), .pointer (some ⟨w.heap.size+1+1,0,none⟩), .pointer (some ⟨w.heap.size+1+1+1,0,none⟩),undef, .pointer (some ⟨b,0,none⟩), .pointer (some ⟨b,0,none⟩), .pointer (some ⟨b,0,none⟩), .slice (some p) nL cap, .int .i64 (nL:Int), .pointer (some ⟨b,0,none⟩), .pointer (some ⟨b,0,none⟩), .pointer (some ⟨b,0,none⟩), .pointer (some ⟨b,0,none⟩), .slice (some p) nL cap, .int .i64 (i:Int), .pointer (some (p.add (i*4))), .pointer (some ⟨(p.add (i*4)).block,(p.add (i*4)).off+1,none⟩), .string sp, .func (.func 254) #[] #[.pointer (some ⟨w.heap.size+1+1+1+1,0,none⟩), .pointer (some ⟨w.heap.size+1+1+1+1+1,0,none⟩)],undef,undef,undef,undef,undef,undef,undef,undef,undef,undef,undef,undef,undef,undef,undef,undef],defers:=[]} ((((((w.alloc (.cells #[.pointer (some ⟨b,0,none⟩)] 156)).alloc (.cells #[.int .i64 (i:Int)] 3)).alloc (.cells #[.bool false] 4)).alloc (.cells #[.int .i64 (nL:Int)] 3)).alloc (.cells #[.pointer (some ⟨b,0,none⟩)] 156)).alloc (.cells #[.string sp] 9)).drew ?reg ?cont
 case reg=>
  gi_region_with_o (refine⟨trivial,?_⟩;gi_at_call 167;refine(a4t _ _ trivial rfl _ _ _).mono ?_;rintro e w' ⟨rfl,rfl⟩)
  all_goals exact⟨rfl,rfl⟩
 clear hmix ca0 ca1 ca2 cb0 cb1 cb2;gi_wp2
 have hB0:Below w.heap.size w ((((((w.alloc (.cells #[.pointer (some ⟨b,0,none⟩)] 156)).alloc (.cells #[.int .i64 (i:Int)] 3)).alloc (.cells #[.bool false] 4)).alloc (.cells #[.int .i64 (nL:Int)] 3)).alloc (.cells #[.pointer (some ⟨b,0,none⟩)] 156)).alloc (.cells #[.string sp] 9)).drew:=b4Y (((((((Below.refl _ w).alloc (Nat.le_refl _) _).alloc (by simp) _).alloc (by simp;omega) _).alloc (by simp;omega) _).alloc (by simp;omega) _).alloc (by simp;omega) _);have hsz:((((((w.alloc (.cells #[.pointer (some ⟨b,0,none⟩)] 156)).alloc (.cells #[.int .i64 (i:Int)] 3)).alloc (.cells #[.bool false] 4)).alloc (.cells #[.int .i64 (nL:Int)] 3)).alloc (.cells #[.pointer (some ⟨b,0,none⟩)] 156)).alloc (.cells #[.string sp] 9)).drew.heap.size=w.heap.size+6:=by simp[World.drew]
 have k0:=((((((A3.new w #[.pointer (some ⟨b,0,none⟩)] 156).keep (A2 _ (.cells #[.int .i64 (i:Int)] 3) none) (by simp)).keep (A2 _ (.cells #[.bool false] 4) none) (by simp)).keep (A2 _ (.cells #[.int .i64 (nL:Int)] 3) none) (by simp)).keep (A2 _ (.cells #[.pointer (some ⟨b,0,none⟩)] 156) none) (by simp)).keep (A2 _ (.cells #[.string sp] 9) none) (by simp)).keep (B8 _ none) (by simp);have k1:=(((((A3.new (w.alloc (.cells #[.pointer (some ⟨b,0,none⟩)] 156)) #[.int .i64 (i:Int)] 3).keep (A2 _ (.cells #[.bool false] 4) none) (by simp)).keep (A2 _ (.cells #[.int .i64 (nL:Int)] 3) none) (by simp)).keep (A2 _ (.cells #[.pointer (some ⟨b,0,none⟩)] 156) none) (by simp)).keep (A2 _ (.cells #[.string sp] 9) none) (by simp)).keep (B8 _ none) (by simp);have k2:=((((A3.new ((w.alloc (.cells #[.pointer (some ⟨b,0,none⟩)] 156)).alloc (.cells #[.int .i64 (i:Int)] 3)) #[.bool false] 4).keep (A2 _ (.cells #[.int .i64 (nL:Int)] 3) none) (by simp)).keep (A2 _ (.cells #[.pointer (some ⟨b,0,none⟩)] 156) none) (by simp)).keep (A2 _ (.cells #[.string sp] 9) none) (by simp)).keep (B8 _ none) (by simp);have k3:=(((A3.new (((w.alloc (.cells #[.pointer (some ⟨b,0,none⟩)] 156)).alloc (.cells #[.int .i64 (i:Int)] 3)).alloc (.cells #[.bool false] 4)) #[.int .i64 (nL:Int)] 3).keep (A2 _ (.cells #[.pointer (some ⟨b,0,none⟩)] 156) none) (by simp)).keep (A2 _ (.cells #[.string sp] 9) none) (by simp)).keep (B8 _ none) (by simp);have k4:=((A3.new ((((w.alloc (.cells #[.pointer (some ⟨b,0,none⟩)] 156)).alloc (.cells #[.int .i64 (i:Int)] 3)).alloc (.cells #[.bool false] 4)).alloc (.cells #[.int .i64 (nL:Int)] 3)) #[.pointer (some ⟨b,0,none⟩)] 156).keep (A2 _ (.cells #[.string sp] 9) none) (by simp)).keep (B8 _ none) (by simp);have k5:=(A3.new (((((w.alloc (.cells #[.pointer (some ⟨b,0,none⟩)] 156)).alloc (.cells #[.int .i64 (i:Int)] 3)).alloc (.cells #[.bool false] 4)).alloc (.cells #[.int .i64 (nL:Int)] 3)).alloc (.cells #[.pointer (some ⟨b,0,none⟩)] 156)) #[.string sp] 9).keep (B8 _ none) (by simp);simp only[World.size_alloc]at k1 k2 k3 k4 k5;obtain⟨W0,hW0⟩:∃W0,((((((w.alloc (.cells #[.pointer (some ⟨b,0,none⟩)] 156)).alloc (.cells #[.int .i64 (i:Int)] 3)).alloc (.cells #[.bool false] 4)).alloc (.cells #[.int .i64 (nL:Int)] 3)).alloc (.cells #[.pointer (some ⟨b,0,none⟩)] 156)).alloc (.cells #[.string sp] 9)).drew=W0:=⟨_,rfl⟩
 rw[hW0]at hB0 hsz k0 k1 k2 k3 k4 k5⊢;clear hW0;have HK0:=A0 (h.out.below hB0 hl)
 refine b4n rfl (by omega) (gf:=254) (lb:= #[.pointer (some ⟨w.heap.size+1+1+1+1,0,none⟩), .pointer (some ⟨w.heap.size+1+1+1+1+1,0,none⟩)]) rfl trivial (enters_of Tryz.func254 (by kernel_rfl) rfl)
  (b7W _ _ trivial rfl (by omega) w.heap.size (w.heap.size+1+1+1+1) (w.heap.size+1+1+1+1+1) lim b L p cap m1 m2 m3 q sp hns W0 (by omega) (by omega) (k4.cell 0 _ rfl) (k5.cell 0 _ rfl) HK0 hl (by omega)) a4T (a4U (by omega) (by omega)) (Below.refl _ _) (fun _=>rfl) (a8b (w.heap.size+1+1+1))
  (fun pre W=>((∀k∈pre,(cl L k.1).name≠nm)∧pre.length<L.length∧A3 W (w.heap.size+1+1+1) #[.int .i64 ((L.length-pre.length:Nat):Int)] 3∧A3 W (w.heap.size) #[.pointer (some ⟨b,0,none⟩)] 156∧A3 W (w.heap.size+1) #[.int .i64 (i:Int)] 3∧A3 W (w.heap.size+1+1) #[.bool false] 4∧A3 W (w.heap.size+1+1+1+1+1) #[.string sp] 9)∧Below w.heap.size w W)
  (fun d pre W=>(((d= .ret∧∃k∈pre,(cl L k.1).name=nm)∨(d= .exit 0∧pre.length=L.length∧∀k∈pre,(cl L k.1).name≠nm))∧∃v,(d= .ret→v=true)∧A3 W (w.heap.size+1+1) #[.bool v] 4)∧Below w.heap.size w W)
  (OwnFrom.and (fun s X Y row hs hg hr=>⟨hs.1,hs.2.1,Own.from (M8 _ _ _) _ () X Y row hs.2.2.1 hg hr,Own.from (M8 _ _ _) _ () X Y row hs.2.2.2.1 hg hr,Own.from (M8 _ _ _) _ () X Y row hs.2.2.2.2.1 hg hr,Own.from (M8 _ _ _) _ () X Y row hs.2.2.2.2.2.1 hg hr,Own.from (M8 _ _ _) _ () X Y row hs.2.2.2.2.2.2 hg hr⟩) (ownFrom_below (Nat.le_refl _) (by omega)))
  (fun d=>OwnFrom.and (fun s X Y row hs hg hr=>by obtain⟨h1,v,h2,h3⟩:=hs;exact⟨h1,v,h2,Own.from (M8 _ _ _) _ () X Y row h3 hg hr⟩) (ownFrom_below (Nat.le_refl _) (by omega)))
  (fun pre W hI=>⟨hI.1.2.1,by rw[b8o hI.1.2.2.1];have:=hI.1.2.1;omega⟩)
  ⟨⟨by simp,by simp;omega,by rw[List.length_nil,Nat.sub_zero,←HNL.out];exact k3,k0,k1,k2,k5⟩,hB0⟩
  (fun x a' W=>∃Bx:Nat,w.heap.size+6≤Bx∧A3 W Bx #[.string (cl L x.1).name, .string (cl L x.1).super, .slice (q x.1).fa (cl L x.1).fields.length (q x.1).fk, .slice (q x.1).ma (cl L x.1).methods.length (q x.1).mc] 44∧∃t:Nat→Value,a'={tmps:= #[t 0,t 1, .pointer (some ⟨w.heap.size,0,none⟩), .pointer (some ⟨w.heap.size+1,0,none⟩), .pointer (some ⟨w.heap.size+1+1,0,none⟩), .pointer (some ⟨w.heap.size+1+1+1,0,none⟩), .pointer (some ⟨Bx,0,none⟩),t 7,t 8,t 9,t 10,t 11,t 12,t 13,t 14,t 15,t 16,t 17,t 18,t 19,t 20,t 21,t 22,t 23,t 24,t 25,t 26,t 27,t 28,t 29,t 30,t 31,t 32,t 33,t 34,t 35,t 36,t 37],defers:=[]})
  (fun x a' _ X Y row hs hg hr=>by obtain⟨Bx,h1,h2,h3⟩:=hs;exact⟨Bx,h1,M8 Bx _ _ () X Y row h2 hg (fun r e=>(hr r e).2),h3⟩)
  ?assign ?body ?done ?stop
 case assign=>
  rintro l pre x W K ⟨⟨hne,hlt,hk3,hk0,hk1,hk2,hk5⟩,hB1⟩ hK;dsimp only[a2d,F8];gi_wp2
  have h3:=hk5.lt;exact hK _ _ ((KeepsOthers.alloc _ _).from _) ⟨(Below.refl _ W).alloc hB1.size _,Below.heap_alloc W _ _ (by omega)⟩ ⟨⟨hne,hlt,hk3.keep (A2 _ _ none) (by simp),hk0.keep (A2 _ _ none) (by simp),hk1.keep (A2 _ _ none) (by simp),hk2.keep (A2 _ _ none) (by simp),hk5.keep (A2 _ _ none) (by simp)⟩,hB1.alloc hB1.size _⟩ ⟨W.heap.size,by omega,A3.new W _ _,a1y rfl⟩
 case body=>
  rintro l pre x a' W ⟨⟨hne,hlt,hk3,hk0,hk1,hk2,hk5⟩,hB1⟩ ⟨Bx,hBx,hbx,t,rfl⟩;have hl5:=hk5.lt;obtain⟨m,hm⟩:∃m,m=L.length-pre.length:=⟨_,rfl⟩
  have hm0:0<m:=by omega
  have hmb:m≤65536:=by omega
  rw[←hm]at hk3;have HM:=A0 hm;have HLT:=A0 hlt;clear hm hlt;obtain⟨c0,c1,c2⟩:=HCW.out W hB1;have cx:=hbx.cell 0 _ rfl;have d0:=hk0.cell 0 _ rfl;have d1:=hk1.cell 0 _ rfl;have d2:=hk2.cell 0 _ rfl;have fr2:=hk2.frozen 0;have d3:=hk3.cell 0 _ rfl;have fr3:=hk3.frozen 0;have l0:=hk0.lt;have l1:=hk1.lt;have l2:=hk2.lt;have l3:=hk3.lt;obtain⟨xn,hxn⟩:∃xn,xn=(cl L x.1).name:=⟨_,rfl⟩
  have HXN:=A0 hxn;rw[←hxn]at cx;clear hxn;by_cases hxe:xn=nm
  ·subst hxe;gi_wp2
   refine a2Q rfl (by kernel_rfl) (by kernel_rfl) (by kernel_rfl) ?_;repeat (gi_big_quiet_step (fail))
   refine wpQuietIn_nil ?_;intro _ hw';obtain⟨nq,hw''⟩:=hw';subst hw'';gi_wp2
   exact⟨(a2R _ _ _).trans ((KeepsOthers.setCell _ _ _).from _),⟨.inl ⟨rfl,x,by simp,HXN.out.symm⟩,true,fun _=>rfl,A3.set (w:=W.drewN nq) hk2 0 (.bool true)⟩,(a1i hB1 nq).setCell (p:=⟨w.heap.size+1+1,0,none⟩) (by simp;omega) _⟩
  ·have hbn:=j4 hxe;by_cases hm1:m=1
   ·subst hm1;gi_wp2
    refine a2Q rfl (by kernel_rfl) (by kernel_rfl) (by kernel_rfl) ?_;repeat (gi_big_quiet_step (fail))
    refine wpQuietIn_nil ?_;intro _ hw';obtain⟨nq,hw''⟩:=hw';subst hw'';gi_wp2
    exact⟨(a2R _ _ _).trans ((KeepsOthers.setCell _ _ _).from _),⟨.inr ⟨rfl,by have:=HM.out;have:=HLT.out;simp;omega,fun k hk=>(List.mem_append.1 hk).elim (hne k) (fun e=>by simp at e;subst e;rw[←HXN.out];exact hxe)⟩,false,(fun e=>by cases e),A3.keep (w:=W.drewN nq) hk2 (A6 _ ⟨w.heap.size+1+1+1,0,none⟩ _) (by first|(simp;done)|(simp;omega))⟩,(a1i hB1 nq).setCell (p:=⟨w.heap.size+1+1+1,0,none⟩) (by first|(simp;done)|(simp;omega)) _⟩
   ·have hm2:(((m:Int)-1)==0)=false:=by simp;omega
    gi_wp2
    refine a2Q rfl (by kernel_rfl) (by kernel_rfl) (by kernel_rfl) ?_;repeat (gi_big_quiet_step (fail))
    refine wpQuietIn_nil ?_;intro _ hw';obtain⟨nq,hw''⟩:=hw';subst hw'';gi_wp2
    have e3:((m:Int)-1)=((L.length-(pre++ [x]).length:Nat):Int):=by have:=HM.out;simp;omega
    exact⟨(a2R _ _ _).trans ((KeepsOthers.setCell _ _ _).from _),⟨(a1i (Below.refl _ W) nq).setCell (p:=⟨w.heap.size+1+1+1,0,none⟩) (by first|(simp;done)|(simp;omega)) _,heap_setCell_other _ _ _ _ (by first|(simp;done)|(simp;omega))⟩,
     ⟨fun k hk=>(List.mem_append.1 hk).elim (hne k) (fun e=>by simp at e;subst e;rw[←HXN.out];exact hxe),by have:=HM.out;simp;omega,e3▸(A3.set (w:=W.drewN nq) hk3 0 (.int .i64 ((m:Int)-1))),
      A3.keep (w:=W.drewN nq) hk0 (A6 _ ⟨w.heap.size+1+1+1,0,none⟩ _) (by first|(simp;done)|(simp;omega)),A3.keep (w:=W.drewN nq) hk1 (A6 _ ⟨w.heap.size+1+1+1,0,none⟩ _) (by first|(simp;done)|(simp;omega)),A3.keep (w:=W.drewN nq) hk2 (A6 _ ⟨w.heap.size+1+1+1,0,none⟩ _) (by first|(simp;done)|(simp;omega)),A3.keep (w:=W.drewN nq) hk5 (A6 _ ⟨w.heap.size+1+1+1,0,none⟩ _) (by first|(simp;done)|(simp;omega))⟩,
     (a1i hB1 nq).setCell (p:=⟨w.heap.size+1+1+1,0,none⟩) (by first|(simp;done)|(simp;omega)) _⟩
 case done=>
  rintro D ys W hD hys ⟨⟨hne,hlt,hk3,hk0,hk1,hk2,hk5⟩,hB1⟩ hK;have cr:=hk2.cell 0 _ rfl;have fr:=hk2.frozen 0;gi_wp2
  have hK':=(KeepsOthers.setCell W ⟨w.heap.size+1+1,0,none⟩ (.bool false)).same D _ hK rfl;refine⟨by simp, .inl ⟨_,_,rfl,run_takeDeferred hK',?_⟩⟩;have hb5:=(hk2.set 0 (.bool false)).keep (grownBy_putObj' _ D (.deferred none)) (by simp;omega);have hc5:=hb5.cell 0 _ rfl
  have hf:loP L i=false:=by
   unfold loP;rw[List.any_eq_false,←HSP.out,←hys,←HNM.out];intro k hk;obtain⟨k',hk',rfl⟩:=List.mem_map.1 hk;simpa using hne k' hk'
  rw[hf];exact⟨.bool false,by simp[results,Tryz.results160,go_sem,hc5],rfl,t6 ((hB1.setCell (p:=⟨w.heap.size+1+1,0,none⟩) (by simp;omega) _).grown (grownBy_putObj' _ D _) (by simp;exact hB1.size) (fun k e=>by cases e;omega))⟩
 case stop=>
  rintro D d pre W hD hpre ⟨⟨hcase,v,hv,hk2⟩,hB1⟩ hK;rcases hcase with⟨rfl,k,hk,hkn⟩|⟨rfl,hpl,hne⟩
  ·obtain rfl:=hv rfl;have cr:=hk2.cell 0 _ rfl;gi_wp2
   refine⟨by simp, .inl ⟨_,_,rfl,run_takeDeferred hK,?_⟩⟩;have hb5:=hk2.keep (grownBy_putObj' _ D (.deferred none)) (by simp;omega);have hc5:=hb5.cell 0 _ rfl
   have hf:loP L i=true:=by
    unfold loP;rw[List.any_eq_true,←HSP.out,←HNM.out];exact⟨k.1,hpre.subset (List.mem_map.2 ⟨k,hk,rfl⟩),by simpa using hkn⟩
   rw[hf];exact⟨.bool true,by simp[results,Tryz.results160,go_sem,hc5],rfl,t6 (hB1.grown (grownBy_putObj' _ D _) hB1.size (fun k e=>by cases e;omega))⟩
  ·have cr:=hk2.cell 0 _ rfl;have fr:=hk2.frozen 0;gi_wp2
   have hK':=(KeepsOthers.setCell W ⟨w.heap.size+1+1,0,none⟩ (.bool false)).same D _ hK rfl;refine⟨by simp, .inl ⟨_,_,rfl,run_takeDeferred hK',?_⟩⟩;have hb5:=(hk2.set 0 (.bool false)).keep (grownBy_putObj' _ D (.deferred none)) (by simp;omega);have hc5:=hb5.cell 0 _ rfl
   have hf:loP L i=false:=by
    have hy:X2 pre=D8 L L.length sp:=hpre.eq_of_length (by
     have h1:=hpre.length_le;have h2:=a9L L L.length sp;have h3:(X2 pre).length=L.length:=by unfold X2;rw[List.length_map];exact hpl
     omega)
    unfold loP;rw[List.any_eq_false,←HSP.out,←hy,←HNM.out];intro k hk;obtain⟨k',hk',rfl⟩:=List.mem_map.1 hk;simpa using hne k' hk'
   rw[hf];exact⟨.bool false,by simp[results,Tryz.results160,go_sem,hc5],rfl,t6 ((hB1.setCell (p:=⟨w.heap.size+1+1,0,none⟩) (by simp;omega) _).grown (grownBy_putObj' _ D _) (by simp;exact hB1.size) (fun k e=>by cases e;omega))⟩
attribute [local go_sem] Oper.semAt_some
def a2I(L:List Cl)(i k r:Nat):Bool:=match a1w (cl L k) ((cl L i).methods.getD r K8).name with|none=>false|some o=> !a0B ((cl L i).methods.getD r K8) o
variable {c:Cl}
theorem b4s{n:ByteArray}(h:N8 c n=none):a1w c n=none:=by
 unfold N8 at h;unfold a1w;rw[List.find?_eq_none];intro m hm;have:=List.findIdx?_eq_none_iff.1 h m hm;simpa using this
theorem b4r{n:ByteArray}{f:Nat}(h:N8 c n=some f):a1w c n=some (c.methods.getD f K8):=by
 unfold N8 at h;obtain⟨h1,h2,h3⟩:=List.findIdx?_eq_some_iff_getElem.1 h;unfold a1w;rw[List.find?_eq_some_iff_getElem];refine⟨by rw[List.getD_eq_getElem?_getD,List.getElem?_eq_getElem h1];exact h2,f,h1,by rw[List.getD_eq_getElem?_getD,List.getElem?_eq_getElem h1];rfl,fun j hj=>by simpa using h3 j hj⟩
theorem b0P(L:List Cl)(i:Nat):ovP L i=(up L (cl L i).super).any fun k=>(List.range (cl L i).methods.length).any (a2I L i k):=by
 unfold ovP;refine a3G fun k _=> ?_
 exact(a9N (fun m:Me=>match a1w (cl L k) m.name with|none=>false|some o=> !a0B m o) K8 _).symm
theorem a6E(h:w.grownBy w' none):Below w.heap.size w w':=⟨h.os,h.tape,h.output,h.size,fun k hk=>h.block k hk (by simp)⟩
theorem b2W(h:w.grownBy w' none)(hB:B≤w.heap.size):Below B w w':=(a6E h).mono hB
theorem b3s{L:List Cl}{q:Nat→Qs}(h:O9 w lim L q)(hb:Below B w w')(hl:lim≤B):O9 w' lim L q:=fun i hi j hj=>by
 obtain⟨p,pa,ca,ha,pk,ck,hk,h1,h2,h3,h4,h5,h6⟩:=h i hi j hj;exact⟨p,pa,ca,ha,pk,ck,hk,h1,h2,a1h h3 hb hl,a1h h4 hb hl,a1h h5 hb hl,fun r u hu=>(hb.cell (by rw[a1l];omega)).trans (h6 r u hu)⟩
set_option maxRecDepth 100000 in
set_option maxHeartbeats 4000000 in
theorem b1Z(w:World)(lim b:Nat)(L:List Cl)(p:Addr)(cap m1 m2 m3:Nat)(q:Nat→Qs)(h:Hid (I9 w lim b L p cap m1 m2 m3 q))(hl:lim≤w.heap.size)(hU:Hid (UpL L))(hD:Hid (t9 L))(hZm:Hid (l5 G2 L))(hZ:Hid (SzL L))(hP:Hid (O9 w lim L q))(i:Nat)(hi:i<L.length):
 Calls Tryz.prog 163 #[.pointer (some ⟨b,0,none⟩), .int .i64 i] w fun e w'=>e= .returned (.bool (ovP L i))∧w.grownBy w' none:=by
 obtain⟨ci,hci⟩:∃ci,ci=cl L i:=⟨_,rfl⟩
 obtain⟨nM,hnM⟩:∃nM,nM=ci.methods.length:=⟨_,rfl⟩
 have HCI:=A0 hci;have HNM:=A0 hnM;have hns:ci.super.size≤maxLen:=by rw[hci];exact(h.out.names i hi).2
 have hnl:nM≤65536:=by rw[hnM,hci];exact(hZ.out i hi).2.2.2
 have hcW:∀W:World,Below w.heap.size w W→W.cell? ⟨b,0,none⟩=some (.slice (some p) L.length cap)∧W.cell? (p.add (i*4))=some (.string ci.name)∧W.cell? ⟨(p.add (i*4)).block,(p.add (i*4)).off+1,none⟩=some (.string ci.super)∧W.cell? ⟨(p.add (i*4)).block,(p.add (i*4)).off+2,none⟩=some (.slice (q i).fa ci.fields.length (q i).fk)∧W.cell? ⟨(p.add (i*4)).block,(p.add (i*4)).off+3,none⟩=some (.slice (q i).ma nM (q i).mc):=fun W hW=>by
  have HK:=h.out.below hW hl;refine⟨HK.c0,by rw[hci];exact HK.row i hi 0 _ rfl,by rw[B9 p (i*4) 0,hci];exact HK.row i hi 1 _ rfl,by rw[B9 p (i*4) 1,hci];exact HK.row i hi 2 _ rfl,by rw[B9 p (i*4) 2,hnM,hci];exact HK.row i hi 3 _ rfl⟩
 obtain⟨ca0,ca1,ca2,ca3,ca4⟩:=hcW ((w.alloc (.cells #[.pointer (some ⟨b,0,none⟩)] 156)).alloc (.cells #[.bool false] 4)) ((((Below.refl _ w).alloc (Nat.le_refl _) _).alloc (by simp) _));clear hci hnM hcW;refine(callsIn_wide (n:=9)).1 ?_;refine callsIn_of_wp_marks Tryz.func163 rfl trivial ?_ rfl;simp only[Tryz.ntmps163,List.size_toArray,List.length_cons,List.length_nil,Nat.reduceAdd,Nat.reduceSub,Array.replicate_succ,Array.replicate_zero,List.push_toArray,List.append_toArray,List.nil_append,List.cons_append];gi_wp2_with (refine⟨trivial,?_⟩;gi_at_call 167;refine(a4t _ _ trivial rfl _ _ _).mono ?_;rintro e w' ⟨rfl,rfl⟩)
 have hB0:Below w.heap.size w (((((w.alloc (.cells #[.pointer (some ⟨b,0,none⟩)] 156)).alloc (.cells #[.bool false] 4)).alloc (.cells #[.string ci.name, .string ci.super, .slice (q i).fa ci.fields.length (q i).fk, .slice (q i).ma nM (q i).mc] 44)).alloc (.cells #[.pointer (some ⟨b,0,none⟩)] 156)).alloc (.cells #[.string ci.super] 9)):=(((((Below.refl _ w).alloc (Nat.le_refl _) _).alloc (by simp) _).alloc (by simp;omega) _).alloc (by simp;omega) _).alloc (by simp;omega) _;have hsz:(((((w.alloc (.cells #[.pointer (some ⟨b,0,none⟩)] 156)).alloc (.cells #[.bool false] 4)).alloc (.cells #[.string ci.name, .string ci.super, .slice (q i).fa ci.fields.length (q i).fk, .slice (q i).ma nM (q i).mc] 44)).alloc (.cells #[.pointer (some ⟨b,0,none⟩)] 156)).alloc (.cells #[.string ci.super] 9)).heap.size=w.heap.size+5:=by simp
 have k0:=((((A3.new w #[.pointer (some ⟨b,0,none⟩)] 156).keep (A2 _ (.cells #[.bool false] 4) none) (by simp)).keep (A2 _ (.cells #[.string ci.name, .string ci.super, .slice (q i).fa ci.fields.length (q i).fk, .slice (q i).ma nM (q i).mc] 44) none) (by simp)).keep (A2 _ (.cells #[.pointer (some ⟨b,0,none⟩)] 156) none) (by simp)).keep (A2 _ (.cells #[.string ci.super] 9) none) (by simp);have k1:=(((A3.new (w.alloc (.cells #[.pointer (some ⟨b,0,none⟩)] 156)) #[.bool false] 4).keep (A2 _ (.cells #[.string ci.name, .string ci.super, .slice (q i).fa ci.fields.length (q i).fk, .slice (q i).ma nM (q i).mc] 44) none) (by simp)).keep (A2 _ (.cells #[.pointer (some ⟨b,0,none⟩)] 156) none) (by simp)).keep (A2 _ (.cells #[.string ci.super] 9) none) (by simp);have k2:=((A3.new ((w.alloc (.cells #[.pointer (some ⟨b,0,none⟩)] 156)).alloc (.cells #[.bool false] 4)) #[.string ci.name, .string ci.super, .slice (q i).fa ci.fields.length (q i).fk, .slice (q i).ma nM (q i).mc] 44).keep (A2 _ (.cells #[.pointer (some ⟨b,0,none⟩)] 156) none) (by simp)).keep (A2 _ (.cells #[.string ci.super] 9) none) (by simp);have k3:=(A3.new (((w.alloc (.cells #[.pointer (some ⟨b,0,none⟩)] 156)).alloc (.cells #[.bool false] 4)).alloc (.cells #[.string ci.name, .string ci.super, .slice (q i).fa ci.fields.length (q i).fk, .slice (q i).ma nM (q i).mc] 44)) #[.pointer (some ⟨b,0,none⟩)] 156).keep (A2 _ (.cells #[.string ci.super] 9) none) (by simp);have k4:=A3.new ((((w.alloc (.cells #[.pointer (some ⟨b,0,none⟩)] 156)).alloc (.cells #[.bool false] 4)).alloc (.cells #[.string ci.name, .string ci.super, .slice (q i).fa ci.fields.length (q i).fk, .slice (q i).ma nM (q i).mc] 44)).alloc (.cells #[.pointer (some ⟨b,0,none⟩)] 156)) #[.string ci.super] 9;simp only[World.size_alloc]at k1 k2 k3 k4;obtain⟨W0,hW0⟩:∃W0,((((w.alloc (.cells #[.pointer (some ⟨b,0,none⟩)] 156)).alloc (.cells #[.bool false] 4)).alloc (.cells #[.string ci.name, .string ci.super, .slice (q i).fa ci.fields.length (q i).fk, .slice (q i).ma nM (q i).mc] 44)).alloc (.cells #[.pointer (some ⟨b,0,none⟩)] 156)).alloc (.cells #[.string ci.super] 9)=W0:=⟨_,rfl⟩
 rw[hW0]at hB0 hsz k0 k1 k2 k3 k4⊢;clear hW0 ca0 ca1 ca2 ca3 ca4;have HK0:=A0 (h.out.below hB0 hl)
 refine wpIn_rangeFunc_ownH rfl (by omega) (gf:=254) (lb:= #[.pointer (some ⟨w.heap.size+1+1+1,0,none⟩), .pointer (some ⟨w.heap.size+1+1+1+1,0,none⟩)]) rfl trivial (enters_of Tryz.func254 (by kernel_rfl) rfl)
  (a5z _ _ trivial rfl (by omega) w.heap.size (w.heap.size+1+1+1) (w.heap.size+1+1+1+1) lim b L p cap m1 m2 m3 q ci.super hns hU W0 (by omega) (by omega) (k3.cell 0 _ rfl) (k4.cell 0 _ rfl) HK0 hl (by omega)) a4T (a4U (by omega) (by omega)) (Below.refl _ _) (fun _=>rfl)
  (fun pre W=>((∀k∈pre,∀r,r<nM→a2I L i k.1 r=false)∧A3 W (w.heap.size) #[.pointer (some ⟨b,0,none⟩)] 156∧A3 W (w.heap.size+1) #[.bool false] 4∧A3 W (w.heap.size+1+1) #[.string ci.name, .string ci.super, .slice (q i).fa ci.fields.length (q i).fk, .slice (q i).ma nM (q i).mc] 44∧A3 W (w.heap.size+1+1+1+1) #[.string ci.super] 9)∧Below w.heap.size w W)
  (fun d pre W=>(d= .ret∧(∃k∈pre,∃r,r<nM∧a2I L i k.1 r=true)∧A3 W (w.heap.size+1) #[.bool true] 4)∧Below w.heap.size w W)
  (OwnFrom.and (fun s X Y row hs hg hr=>⟨hs.1,Own.from (M8 _ _ _) _ () X Y row hs.2.1 hg hr,Own.from (M8 _ _ _) _ () X Y row hs.2.2.1 hg hr,Own.from (M8 _ _ _) _ () X Y row hs.2.2.2.1 hg hr,Own.from (M8 _ _ _) _ () X Y row hs.2.2.2.2 hg hr⟩) (ownFrom_below (Nat.le_refl _) (by omega)))
  (fun d=>OwnFrom.and (fun s X Y row hs hg hr=>⟨hs.1,hs.2.1,Own.from (M8 _ _ _) _ () X Y row hs.2.2 hg hr⟩) (ownFrom_below (Nat.le_refl _) (by omega)))
  ⟨⟨by simp,k0,k1,k2,k4⟩,hB0⟩
  (fun x a' W=>∃Bx:Nat,w.heap.size+5≤Bx∧A3 W Bx #[.string (cl L x.1).name, .string (cl L x.1).super, .slice (q x.1).fa (cl L x.1).fields.length (q x.1).fk, .slice (q x.1).ma (cl L x.1).methods.length (q x.1).mc] 44∧∃t:Nat→Value,a'={tmps:= #[t 0,t 1, .pointer (some ⟨w.heap.size,0,none⟩),t 3, .pointer (some ⟨w.heap.size+1,0,none⟩), .pointer (some ⟨w.heap.size+1+1,0,none⟩), .pointer (some ⟨Bx,0,none⟩),t 7,t 8,t 9,t 10,t 11,t 12,t 13,t 14,t 15,t 16,t 17,t 18,t 19,t 20,t 21,t 22,t 23,t 24,t 25,t 26,t 27,t 28,t 29,t 30,t 31,t 32,t 33,t 34,t 35,t 36,t 37,t 38,t 39,t 40,t 41,t 42,t 43,t 44,t 45,t 46],defers:=[]})
  (fun x a' _ X Y row hs hg hr=>by obtain⟨Bx,h1,h2,h3⟩:=hs;exact⟨Bx,h1,M8 Bx _ _ () X Y row h2 hg (fun r e=>(hr r e).2),h3⟩)
  ?assign ?body ?done ?stop
 case assign=>
  rintro l pre x W K ⟨⟨hne,hk0,hk1,hk2,hk4⟩,hB1⟩ hK;dsimp only[a2d,F8];gi_wp2
  have h3:=hk4.lt;exact hK _ _ ((KeepsOthers.alloc _ _).from _) ⟨(Below.refl _ W).alloc hB1.size _,Below.heap_alloc W _ _ (by omega)⟩ ⟨⟨hne,hk0.keep (A2 _ _ none) (by simp),hk1.keep (A2 _ _ none) (by simp),hk2.keep (A2 _ _ none) (by simp),hk4.keep (A2 _ _ none) (by simp)⟩,hB1.alloc hB1.size _⟩ ⟨W.heap.size,by omega,A3.new W _ _,a1y rfl⟩
 case body=>
  rintro l pre x a' W hl2 _ ⟨⟨hne,hk0,hk1,hk2,hk4⟩,hB1⟩ ⟨Bx,hBx,hbx,t,rfl⟩ hlt;have hl4:=hk4.lt;have c2:=hk2.cell 3 _ rfl;gi_wp2
  gi_loopw [26] (fun u wx=>∃j:Nat,j≤nM∧u= .int .i64 j∧W.grownBy wx none∧∀r,r<j→a2I L i x.1 r=false) (fun u _=>nM-(intOf u).toNat)
  case atStart=>exact⟨0,Nat.zero_le _,rfl,G1 _ _,fun r hr=>by omega⟩
  case round=>
   obtain⟨j,hj,rfl,hgr,hv⟩:=hrel;have HGR:=A0 hgr;have HV:=A0 hv;have HBW:=A0 (hB1.trans ((a6E hgr).mono hB1.size));clear hgr hv;by_cases hlj:j<nM
   ·have HKr:=A0 (h.out.below HBW.out hl);have HPr:=A0 (b3s hP.out HBW.out hl);have hjm:j<(cl L i).methods.length:=by rw[←HCI.out,←HNM.out];exact hlj
    obtain⟨pm,pa,ca,ha,pk,ck,hk,e1,e2,e3,e4,e5,e6⟩:=HPr.out i hi j hjm;obtain⟨md,hmd⟩:∃md,md=(cl L i).methods.getD j K8:=⟨_,rfl⟩
    rw[←hmd]at e3 e4 e5 e6;have f0:wr.cell? (pm.add (j*8))=some (.string md.name):=e6 0 _ rfl;have f1:wr.cell? ⟨(pm.add (j*8)).block,(pm.add (j*8)).off+1,none⟩=some (.slice pa md.params.length pk):=by rw[B9 pm (j*8) 0];exact e6 1 _ rfl
    have f2:wr.cell? ⟨(pm.add (j*8)).block,(pm.add (j*8)).off+2,none⟩=some (.int .i64 md.ret.kind):=by rw[B9 pm (j*8) 1];exact e6 2 _ rfl
    have f3:wr.cell? ⟨(pm.add (j*8)).block,(pm.add (j*8)).off+3,none⟩=some (.string md.ret.name):=by rw[B9 pm (j*8) 2];exact e6 3 _ rfl
    have f4:wr.cell? ⟨(pm.add (j*8)).block,(pm.add (j*8)).off+4,none⟩=some (.int .i64 md.stack):=by rw[B9 pm (j*8) 3];exact e6 4 _ rfl
    have f5:wr.cell? ⟨(pm.add (j*8)).block,(pm.add (j*8)).off+5,none⟩=some (.int .i64 md.locals):=by rw[B9 pm (j*8) 4];exact e6 5 _ rfl
    have f6:wr.cell? ⟨(pm.add (j*8)).block,(pm.add (j*8)).off+6,none⟩=some (.slice ca md.code.length ck):=by rw[B9 pm (j*8) 5];exact e6 6 _ rfl
    have f7:wr.cell? ⟨(pm.add (j*8)).block,(pm.add (j*8)).off+7,none⟩=some (.slice ha md.handlers.length hk):=by rw[B9 pm (j*8) 6];exact e6 7 _ rfl
    have hmz:a4Y md:=by rw[hmd];exact(hZ.out i hi).1 j hjm
    have hmn:md.name.size≤maxLen:=by
     refine(hZm.out (cl L i) (by rw[U3 hi];exact List.getElem_mem hi)).2 md.name ?_;unfold G2;exact List.mem_map.2 ⟨md,by rw[hmd,List.getD_eq_getElem?_getD,List.getElem?_eq_getElem hjm];exact List.getElem_mem hjm,rfl⟩
    have hxn:=(h.out.names x.1 x.2).1;obtain⟨xn,hxn2⟩:∃xn,xn=(cl L x.1).name:=⟨_,rfl⟩
    have HR3:=A0 e3;have HBD:Hid (a2I L i x.1 j=match a1w (cl L x.1) md.name with|none=>false|some o=> !a0B md o):=by unfold Hid a2I;rw[←hmd]
    have hW1g:∀ob,wr.grownBy (wr.alloc ob) none:=fun ob=>A2 _ _ _
    have HK1:Hid (I9 (wr.alloc (.cells (mV md pa pk ca ck ha hk) 102)) lim b L p cap m1 m2 m3 q):=HKr.out.keep (hW1g _) (Nat.le_trans hl HBW.out.size);have HP1:Hid (O9 (wr.alloc (.cells (mV md pa pk ca ck ha hk) 102)) lim L q):=HPr.out.keep (hW1g _);have hl1:lim≤(wr.alloc (.cells (mV md pa pk ca ck ha hk) 102)).heap.size:=by have:=HBW.out.size;simp;omega
    have hBm0:=A3.new wr (mV md pa pk ca ck ha hk) 102;have c0r:=((hk0.keep HGR.out (by simp)).keep (A2 wr (.cells (mV md pa pk ca ck ha hk) 102) none) (by simp)).c0;have cxr:=((hbx.keep HGR.out (by simp)).keep (A2 wr (.cells (mV md pa pk ca ck ha hk) 102) none) (by simp)).c0;have cmr:=hBm0.c0;have hk1r:=hk1.keep HGR.out (by simp);have hlr:=HGR.out.size;have hlx:=hbx.lt;have hl0:=hk0.lt;have hl1b:=hk1.lt;rw[←hxn2]at cxr hxn
    have hwn:a1z L xn md.name=(N8 (cl L x.1) md.name).map fun f=>(x.1,f):=by
     unfold a1z;rw[hxn2,a5q hD.out x.2];rfl
    have HXN:=A0 hxn2;clear hxn2;rw[e1]at*
    cases hmi:N8 (cl L x.1) md.name with
    |none=>
     have HNB:Hid (a2I L i x.1 j=false):=by unfold Hid;rw[HBD.out,b4s hmi]
     rw[hmi]at hwn;simp only[Option.map_none]at hwn;have HWN:=A0 hwn;clear hwn hmi hmd e3 e4 e5 e6 e1;gi_wp2_with (first|(refine⟨trivial,?_⟩;gi_at_call 69;refine(CallsIn.inRound l (callsIn_wide.2 (a4p _ lim b L p cap m1 m2 m3 q HK1 hl1 hD hZm HP1 xn md.name hxn hmn))).mono ?_;rintro e w2 ⟨hg2,hq2⟩;rw[HWN.out]at hq2;unfold a2c at hq2;dsimp only at hq2;subst hq2)|(refine⟨trivial,?_⟩))
     go_roundw
     case rel=>exact⟨j+1,by omega,by go_num,A1 (A1 (A1 HGR.out (A2 _ _ none)) hg2) (A2 _ _ none),fun r hr=>by
      rcases Nat.lt_or_ge r j with h1|h1
      ·exact HV.out r h1
      ·obtain rfl:r=j:=by omega
       exact HNB.out⟩
     case measure=>simp[intOf];omega
    |some fx=>
     have hfl:=b1p hmi;have hmoz:a4Y (g9 L (x.1,fx)):=(hZ.out x.1 x.2).1 fx hfl;have HBD2:Hid (a2I L i x.1 j= !a0B md (g9 L (x.1,fx))):=by unfold Hid;rw[HBD.out,b4r hmi];rfl
     rw[hmi]at hwn;simp only[Option.map_some]at hwn;have HWN:=A0 hwn;clear hwn hmi hmd e3 e4 e5 e6 e1;generalize hmo:g9 L (x.1,fx)=mo at hmoz HBD2;have HMO:=A0 hmo;obtain⟨av,hav⟩:∃av,av=a0B md mo:=⟨_,rfl⟩
     have HAV:=A0 hav;clear hmo hav;cases av with
     |true=>
      gi_wp2_with (first
       |(refine⟨trivial,?_⟩
         gi_at_call 249
         refine(CallsIn.inRound l (callsIn_wide.2 (a9O _ lim lim md mo pa ca ha pa2 ca2 ha2 pk ck hk pk2 ck2 hk2' HRa HRb hmz.2.2.2.1 hmoz.2.2.2.1))).mono ?_;rintro e w4 ⟨rfl,hg4⟩;rw[←HAV.out];have HGE:=A0 (A1 HGG.out hg4);have HK14:=A0 (hk1.keep HGE.out (by simp));have r0:=HK14.out.c0;have z0:=HK14.out.frozen 0)
       |(refine⟨trivial,?_⟩
         gi_at_call 69
         refine(CallsIn.inRound l (callsIn_wide.2 (a4p _ lim b L p cap m1 m2 m3 q HK1 hl1 hD hZm HP1 xn md.name hxn hmn))).mono ?_;rintro e w2 ⟨hg2,hq2⟩;rw[HWN.out]at hq2;unfold a2c at hq2;dsimp only at hq2;rw[HMO.out]at hq2;obtain⟨pa2,ca2,ha2,pk2,ck2,hk2',he2,r1,r2,r3⟩:=hq2;unfold mv at he2;subst he2;have HRa:Hid (C0 (w2.alloc (.cells (mV mo pa2 pk2 ca2 ck2 ha2 hk2') 102)) lim 2 C1 pa md.params):=((HR3.out.keep (A2 wr (.cells (mV md pa pk ca ck ha hk) 102) none)).keep hg2).keep (A2 _ _ none);have HRb:Hid (C0 (w2.alloc (.cells (mV mo pa2 pk2 ca2 ck2 ha2 hk2') 102)) lim 2 C1 pa2 mo.params):=(r1.keep hg2).keep (A2 _ _ none);have hBm:=(hBm0.keep hg2 (by simp)).keep (A2 w2 (.cells (mV mo pa2 pk2 ca2 ck2 ha2 hk2') 102) none) (by simp);have hBo:=A3.new w2 (mV mo pa2 pk2 ca2 ck2 ha2 hk2') 102;have d0:=hBm.cell 0 _ rfl;have d1:=hBm.cell 1 _ rfl;have d2:=hBm.cell 2 _ rfl;have d3:=hBm.cell 3 _ rfl;have d4:=hBm.cell 4 _ rfl;have d5:=hBm.cell 5 _ rfl;have d6:=hBm.cell 6 _ rfl;have d7:=hBm.cell 7 _ rfl;have g0:=hBo.cell 0 _ rfl;have g1:=hBo.cell 1 _ rfl;have g2:=hBo.cell 2 _ rfl;have g3:=hBo.cell 3 _ rfl;have g4:=hBo.cell 4 _ rfl;have g5:=hBo.cell 5 _ rfl;have g6:=hBo.cell 6 _ rfl;have g7:=hBo.cell 7 _ rfl;have HGG:Hid (W.grownBy (w2.alloc (.cells (mV mo pa2 pk2 ca2 ck2 ha2 hk2') 102)) none):=A1 (A1 (A1 HGR.out (A2 _ _ none)) hg2) (A2 _ _ none);clear hBm hBo;dsimp only))
      go_roundw
      case rel=>exact⟨j+1,by omega,by go_num,HGE.out,fun r hr=>by
       rcases Nat.lt_or_ge r j with h1|h1
       ·exact HV.out r h1
       ·obtain rfl:r=j:=by omega
        rw[HBD2.out,←HAV.out];rfl⟩
      case measure=>simp[intOf];omega
     |false=>
      gi_wp2_with (first
       |(refine⟨trivial,?_⟩
         gi_at_call 249
         refine(CallsIn.inRound l (callsIn_wide.2 (a9O _ lim lim md mo pa ca ha pa2 ca2 ha2 pk ck hk pk2 ck2 hk2' HRa HRb hmz.2.2.2.1 hmoz.2.2.2.1))).mono ?_;rintro e w4 ⟨rfl,hg4⟩;rw[←HAV.out];have HGE:=A0 (A1 HGG.out hg4);have HK14:=A0 (hk1.keep HGE.out (by simp));have r0:=HK14.out.c0;have z0:=HK14.out.frozen 0)
       |(refine⟨trivial,?_⟩
         gi_at_call 69
         refine(CallsIn.inRound l (callsIn_wide.2 (a4p _ lim b L p cap m1 m2 m3 q HK1 hl1 hD hZm HP1 xn md.name hxn hmn))).mono ?_;rintro e w2 ⟨hg2,hq2⟩;rw[HWN.out]at hq2;unfold a2c at hq2;dsimp only at hq2;rw[HMO.out]at hq2;obtain⟨pa2,ca2,ha2,pk2,ck2,hk2',he2,r1,r2,r3⟩:=hq2;unfold mv at he2;subst he2;have HRa:Hid (C0 (w2.alloc (.cells (mV mo pa2 pk2 ca2 ck2 ha2 hk2') 102)) lim 2 C1 pa md.params):=((HR3.out.keep (A2 wr (.cells (mV md pa pk ca ck ha hk) 102) none)).keep hg2).keep (A2 _ _ none);have HRb:Hid (C0 (w2.alloc (.cells (mV mo pa2 pk2 ca2 ck2 ha2 hk2') 102)) lim 2 C1 pa2 mo.params):=(r1.keep hg2).keep (A2 _ _ none);have hBm:=(hBm0.keep hg2 (by simp)).keep (A2 w2 (.cells (mV mo pa2 pk2 ca2 ck2 ha2 hk2') 102) none) (by simp);have hBo:=A3.new w2 (mV mo pa2 pk2 ca2 ck2 ha2 hk2') 102;have d0:=hBm.cell 0 _ rfl;have d1:=hBm.cell 1 _ rfl;have d2:=hBm.cell 2 _ rfl;have d3:=hBm.cell 3 _ rfl;have d4:=hBm.cell 4 _ rfl;have d5:=hBm.cell 5 _ rfl;have d6:=hBm.cell 6 _ rfl;have d7:=hBm.cell 7 _ rfl;have g0:=hBo.cell 0 _ rfl;have g1:=hBo.cell 1 _ rfl;have g2:=hBo.cell 2 _ rfl;have g3:=hBo.cell 3 _ rfl;have g4:=hBo.cell 4 _ rfl;have g5:=hBo.cell 5 _ rfl;have g6:=hBo.cell 6 _ rfl;have g7:=hBo.cell 7 _ rfl;have HGG:Hid (W.grownBy (w2.alloc (.cells (mV mo pa2 pk2 ca2 ck2 ha2 hk2') 102)) none):=A1 (A1 (A1 HGR.out (A2 _ _ none)) hg2) (A2 _ _ none);clear hBm hBo;dsimp only))
      exact⟨(KeepsFrom.of_grownBy HGE.out (fun k e=>by cases e)).trans ((KeepsOthers.setCell _ _ _).from _),⟨rfl,⟨x,by simp,j,hlj,by rw[HBD2.out,←HAV.out];rfl⟩,HK14.out.set 0 (.bool true)⟩,(hB1.trans ((a6E HGE.out).mono hB1.size)).setCell (p:=⟨w.heap.size+1,0,none⟩) (by simp) _⟩
   ·have hjn:j=nM:=by omega
    subst hjn;gi_wp2
    exact⟨KeepsFrom.of_grownBy HGR.out (fun k e=>by cases e),⟨b2W HGR.out hB1.size,HGR.out.block _ (by omega) (by simp)⟩,⟨fun k hk=>(List.mem_append.1 hk).elim (hne k) (fun e=>by simp at e;subst e;exact HV.out),hk0.keep HGR.out (by simp),hk1.keep HGR.out (by simp),hk2.keep HGR.out (by simp),hk4.keep HGR.out (by simp)⟩,HBW.out⟩
 case done=>
  rintro D ys W hD hys ⟨⟨hne,hk0,hk1,hk2,hk4⟩,hB1⟩ hK;have cr:=hk1.cell 0 _ rfl;have fr:=hk1.frozen 0;gi_wp2
  have hK':=(KeepsOthers.setCell W ⟨w.heap.size+1,0,none⟩ (.bool false)).same D _ hK rfl;refine⟨by simp, .inl ⟨_,_,rfl,run_takeDeferred hK',?_⟩⟩;have hb5:=(hk1.set 0 (.bool false)).keep (grownBy_putObj' _ D (.deferred none)) (by simp;omega);have hc5:=hb5.cell 0 _ rfl
  have hf:ovP L i=false:=by
   rw[b0P,List.any_eq_false,←HCI.out,←hys,←HNM.out];intro k hk;obtain⟨k',hk',rfl⟩:=List.mem_map.1 hk;rw[Bool.not_eq_true,List.any_eq_false];intro r hr;rw[hne k' hk' r (List.mem_range.1 hr)];simp
  rw[hf];exact⟨.bool false,by simp[results,Tryz.results163,go_sem,hc5],rfl,t6 ((hB1.setCell (p:=⟨w.heap.size+1,0,none⟩) (by simp) _).grown (grownBy_putObj' _ D _) (by simp;exact hB1.size) (fun k e=>by cases e;omega))⟩
 case stop=>
  rintro D d pre W hD hpre ⟨⟨rfl,⟨k,hk,r,hr,hkr⟩,hk1⟩,hB1⟩ hK;have cr:=hk1.cell 0 _ rfl;gi_wp2
  refine⟨by simp, .inl ⟨_,_,rfl,run_takeDeferred hK,?_⟩⟩;have hb5:=hk1.keep (grownBy_putObj' _ D (.deferred none)) (by simp;omega);have hc5:=hb5.cell 0 _ rfl
  have hf:ovP L i=true:=by
   rw[b0P,List.any_eq_true,←HCI.out];refine⟨k.1,hpre.subset (List.mem_map.2 ⟨k,hk,rfl⟩),?_⟩;rw[List.any_eq_true];exact⟨r,List.mem_range.2 (by rw[←HNM.out];exact hr),hkr⟩
  rw[hf];exact⟨.bool true,by simp[results,Tryz.results163,go_sem,hc5],rfl,t6 (hB1.grown (grownBy_putObj' _ D _) hB1.size (fun k e=>by cases e;omega))⟩
structure Am(w:World)(B b:Nat)(v:Value)(m1 m2 m3 n1 n2 n3:Nat)(D1 D2 D3:DK)(nr:Nat)(rows:List Value):Prop where
 blk:A3 w b #[v, .map (some m1), .map (some m2), .map (some m3)] 151
 own:w.ownsRow B 44 4 v nr rows
 o1:w.ownsMap (H:=Unit) Tryz.prog 9 (plainElem Tryz.prog 3) m1 n1 D1
 o2:w.ownsMap (H:=Unit) Tryz.prog 255 (plainElem Tryz.prog 3) m2 n2 D2
 o3:w.ownsMap (H:=Unit) Tryz.prog 255 (plainElem Tryz.prog 3) m3 n3 D3
 d12:m1≠m2
 d13:m1≠m3
 d23:m2≠m3
 low:B≤b∧B≤m1∧B≤m2∧B≤m3
variable {D:DK}
variable {R:Value→Option (DK×List MemPlace)}
theorem a1T(h:w.ownsMap (H:=Unit) Tryz.prog k R m n D){b:Nat}{cs:Array Value}(hb:A3 w b cs t):m≠b:=by
 obtain⟨es,clock,h1,-⟩:=h;rintro rfl;rw[show w.heap[m]? =some (.cells cs t (0,0))from hb]at h1;cases h1
theorem a3Q(h:w.ownsMap (H:=Unit) Tryz.prog k R m n D){base e sz l:Nat}{v:Value}{xs:List Value}(ho:w.ownsRow base e sz v l xs):v.ownBlock≠some m:=by
 obtain⟨es,clock,h1,-⟩:=h;rcases ho.2 with⟨rfl,-⟩|⟨g,cap,cur,rfl,-,hg,-⟩
 ·simp[Value.ownBlock]
 ·simp only[Value.ownBlock,ne_eq,Option.some.injEq];rintro rfl;rw[h1]at hg;cases hg
theorem PM.below{a:Option Addr}{ms:List Me}(h:PM w lim a ms)(hb:Below B w w')(hl:lim≤B):PM w' lim a ms:=fun j hj=>by
 obtain⟨p,pa,ca,ha,pk,ck,hk,h1,h2,h3,h4,h5,h6⟩:=h j hj;exact⟨p,pa,ca,ha,pk,ck,hk,h1,h2,a1h h3 hb hl,a1h h4 hb hl,a1h h5 hb hl,fun r u hu=>(hb.cell (by rw[a1l];omega)).trans (h6 r u hu)⟩
section
variable{w w':World}{B b m1 m2 m3 n1 n2 n3 nr n':Nat}{v:Value}{D1 D2 D3 D':DK}{rows:List Value}
theorem Am.keep(h:Am w B b v m1 m2 m3 n1 n2 n3 D1 D2 D3 nr rows)(hg:w.grownBy w' none):Am w' B b v m1 m2 m3 n1 n2 n3 D1 D2 D3 nr rows:=
 ⟨h.blk.keep hg (by simp),h.own.kept hg (by cases v.ownBlock<;>simp),h.o1.kept hg (by simp),h.o2.kept hg (by simp),h.o3.kept hg (by simp),h.d12,h.d13,h.d23,h.low⟩
theorem Am.put1(h:Am w B b v m1 m2 m3 n1 n2 n3 D1 D2 D3 nr rows)(hg:w.grownBy w' (some m1))(ho:w'.ownsMap (H:=Unit) Tryz.prog 9 (plainElem Tryz.prog 3) m1 n' D'):Am w' B b v m1 m2 m3 n' n2 n3 D' D2 D3 nr rows:=
 ⟨h.blk.keep hg (by have:=a1T h.o1 h.blk;simp;omega),h.own.kept hg (.inr (a3Q h.o1 h.own)),ho,h.o2.kept hg (by have:=h.d12;simp;omega),h.o3.kept hg (by have:=h.d13;simp;omega),h.d12,h.d13,h.d23,h.low⟩
theorem Am.put2(h:Am w B b v m1 m2 m3 n1 n2 n3 D1 D2 D3 nr rows)(hg:w.grownBy w' (some m2))(ho:w'.ownsMap (H:=Unit) Tryz.prog 255 (plainElem Tryz.prog 3) m2 n' D'):Am w' B b v m1 m2 m3 n1 n' n3 D1 D' D3 nr rows:=
 ⟨h.blk.keep hg (by have:=a1T h.o2 h.blk;simp;omega),h.own.kept hg (.inr (a3Q h.o2 h.own)),h.o1.kept hg (by have:=h.d12;simp;omega),ho,h.o3.kept hg (by have:=h.d23;simp;omega),h.d12,h.d13,h.d23,h.low⟩
theorem Am.put3(h:Am w B b v m1 m2 m3 n1 n2 n3 D1 D2 D3 nr rows)(hg:w.grownBy w' (some m3))(ho:w'.ownsMap (H:=Unit) Tryz.prog 255 (plainElem Tryz.prog 3) m3 n' D'):Am w' B b v m1 m2 m3 n1 n2 n' D1 D2 D' nr rows:=
 ⟨h.blk.keep hg (by have:=a1T h.o3 h.blk;simp;omega),h.own.kept hg (.inr (a3Q h.o3 h.own)),h.o1.kept hg (by have:=h.d13;simp;omega),h.o2.kept hg (by have:=h.d23;simp;omega),ho,h.d12,h.d13,h.d23,h.low⟩
end
theorem a9D(c:Cl)(ns:List ByteArray)(D:DK){k:Nat}(hk:k<ns.length):((I5 c ns).take (k+1)).foldl F6 D=F6 (((I5 c ns).take k).foldl F6 D) (M5 c.name ns[k],k):=by
 have hl:k<(I5 c ns).length:=by unfold I5;simpa using hk
 rw[List.take_succ_eq_append_getElem hl,List.foldl_append];unfold I5;simp[hk]
theorem b0l(c:Cl)(ns:List ByteArray):(I5 c ns).take ns.length=I5 c ns:=List.take_of_length_le (by unfold I5;simp)
theorem a7R{P:Program}{c:Code}{Q:Exit→Act→World→Prop}{a:Act}{w:World}(J:Act→World→Prop)(h:c.wp P (Exit.then J (fun _ _ _=>False)) a w)(hQ:∀a' w',J a' w'→Q .normal a' w'):c.wp P Q a w:=
 Code.wp_mono (fun e a' w' he=>by
  cases e with
  |normal=>exact hQ _ _ he
  |ret=>exact he.elim
  |panic ch=>exact he.elim
  |outgrown=>exact he.elim
  |exit i=>exact he.elim
  |goto i=>exact he.elim) h
set_option maxRecDepth 100000 in
set_option maxHeartbeats 4000000 in
theorem b8G(w:World)(B b:Nat)(v:Value)(m1 m2 m3 n1 n2 n3 nr:Nat)(D1 D2 D3:DK)(rows:List Value)(lim:Nat)(h:Hid (Am w B b v m1 m2 m3 n1 n2 n3 D1 D2 D3 nr rows))(hB:B≤w.heap.size)(hl:lim≤B)(c:Cl)(qc:Qs)(hF:Hid (C0 w lim 3 G8 qc.fa c.fields))(hM:Hid (PM w lim qc.ma c.methods))
 (hfl:c.fields.length≤255) (hml:c.methods.length≤255) (hn:Hid (c.name.size≤maxLen)) (hfn:Hid (∀x∈K5 c,x.size≤maxLen)) (hmn:Hid (∀x∈G2 c,x.size≤maxLen)) (hnr:nr≤1000) (hn1:n1≤1000000) (hn2:n2≤1000000) (hn3:n3≤1000000):
 Calls Tryz.prog 157 #[.pointer (some ⟨b,0,none⟩), .agg (F8 c qc).toArray] w fun e w'=>e= .returned (.tuple #[])∧Below B w w'∧
  ∃v',Am w' B b v' m1 m2 m3 (n1+1) (n2+c.fields.length) (n3+c.methods.length) (F6 D1 (P4 c.name,nr)) ((I5 c (K5 c)).foldl F6 D2) ((I5 c (G2 c)).foldl F6 D3) (nr+1) (rows++F8 c qc):=by
 obtain⟨fa,fk,ma,mk⟩:=qc;dsimp only at hF hM;obtain⟨va,vk,rfl⟩:=F1 h.out.own;obtain⟨nf,hf⟩:∃nf,nf=c.fields.length:=⟨_,rfl⟩
 obtain⟨nm,hm⟩:∃nm,nm=c.methods.length:=⟨_,rfl⟩
 have HNF:=A0 hf;have HNM:=A0 hm;have HC:Hid (F8 c ⟨fa,fk,ma,mk⟩=[.string c.name, .string c.super, .slice fa nf fk, .slice ma nm mk]):=by unfold Hid F8;rw[hf,hm]
 rw[HC.out,←hf,←hm];rw[←hf]at hfl;rw[←hm]at hml;clear hf hm;have hA0:=h.out.keep (A2 w (.cells #[.string c.name, .string c.super, .slice fa nf fk, .slice ma nm mk] 44) none);have HA0:=A0 hA0;have HBc:Hid (A3 (w.alloc (.cells #[.string c.name, .string c.super, .slice fa nf fk, .slice ma nm mk] 44)) w.heap.size #[.string c.name, .string c.super, .slice fa nf fk, .slice ma nm mk] 44):=A3.new w _ _;have c0:=hA0.blk.c0;have c1:=hA0.blk.c1;clear hA0;have HMw:=A0 HA0.out.o1.drew;go_enter Tryz.func157,Tryz.ntmps157;go_wp2_with fail
 refine a7R (fun a' W=>(∃t:Nat→Value,a'={tmps:= #[.pointer (some ⟨b,0,none⟩),t 1,t 2, .pointer (some ⟨w.heap.size,0,none⟩),t 4,t 5,t 6,t 7,t 8,t 9,t 10,t 11,t 12,t 13,t 14,t 15,t 16,t 17,t 18,t 19,t 20,t 21,t 22,t 23,t 24,t 25,t 26,t 27,t 28,t 29,t 30,t 31,t 32,t 33,t 34,t 35,t 36,t 37,t 38,t 39,t 40,t 41,t 42,t 43,t 44,t 45,t 46,t 47,t 48,t 49,t 50,t 51,t 52,t 53,t 54,t 55,t 56,t 57,t 58,t 59,t 60,t 61,t 62,t 63,t 64,t 65,t 66,t 67,t 68,t 69],defers:=[]})∧Am W B b (.slice va nr vk) m1 m2 m3 (n1+1) n2 n3 (F6 D1 (P4 c.name,nr)) D2 D3 nr rows∧A3 W w.heap.size #[.string c.name, .string c.super, .slice fa nf fk, .slice ma nm mk] 44∧Below B w W) ?h ?q
 case h=>
  go_region_law (go_simp
                 go_at_call 242
                 refine(b5A _ m1 n1 nr D1 c.name hn (by omega) (by unfold maxLen;omega) HMw).mono ?_;rintro e w1 ⟨rfl,ho1,hg1⟩;dsimp only)
  all_goals exact⟨a1y rfl,(HA0.out.keep (B8 _ _)).put1 hg1 ho1,(HBc.out.keep (B8 _ none) (by simp)).keep hg1 (by have:=a1T HA0.out.o1 HBc.out;simp;omega),(((Below.refl B w).alloc hB _).drew).grown hg1 (by simp[World.drew];omega) (fun k e=>by cases e;exact HA0.out.low.2.1)⟩
 rintro _ W ⟨⟨t,rfl⟩,hA1,hb1,hB1⟩;have HA1:=A0 hA1;have HB1:=A0 hb1;have HBL:=A0 hB1;clear c0 c1 HMw HA0 HBc hA1 hb1 hB1;have c2:=HB1.out.c2;go_wp2_with fail
 clear c2;go_loopw [23] (fun i wr=>∃k:Nat,k≤nf∧i= .int .i64 k∧Hid (Am wr B b (.slice va nr vk) m1 m2 m3 (n1+1) (n2+k) n3 (F6 D1 (P4 c.name,nr)) (((I5 c (K5 c)).take k).foldl F6 D2) D3 nr rows)∧Hid (A3 wr w.heap.size #[.string c.name, .string c.super, .slice fa nf fk, .slice ma nm mk] 44)∧Hid (Below B w wr)) (fun i _=>nf-(intOf i).toNat)
 case atStart=>exact⟨0,by omega,rfl,HA1,HB1,HBL⟩
 case round=>
  clear HA1 HB1 HBL;obtain⟨k,hk,rfl,HA1,HB1,HBL⟩:=hrel;by_cases hlt:k<nf
  ·have hkl:k<c.fields.length:=by rw[←HNF.out];exact hlt
   have hBw:=Nat.le_trans hB HBL.out.size;obtain⟨fp,hfp,-,e0,e1,e2⟩:=a2U (a1h hF.out HBL.out hl) hkl;obtain⟨fx,hfx⟩:∃fx,fx=c.fields[k]:=⟨_,rfl⟩
   rw[←hfx]at e0 e1 e2;have hkn:k<(K5 c).length:=by unfold K5;simpa using hkl
   have hxn:(K5 c)[k]=fx.name:=by rw[hfx];exact List.getElem_map (fun f:R9=>f.name)
   have HST:Hid (((I5 c (K5 c)).take (k+1)).foldl F6 D2=F6 (((I5 c (K5 c)).take k).foldl F6 D2) (M5 c.name fx.name,k)):=by unfold Hid;rw[a9D c _ D2 hkn,hxn]
   have hxs:Hid (fx.name.size≤maxLen):=by unfold Hid;rw[←hxn];exact hfn.out _ (List.getElem_mem hkn)
   have hA2:=HA1.out.keep (A2 wr (.cells (G8 fx).toArray 129) none);have HA2:=A0 hA2;have HB2:Hid (A3 (wr.alloc (.cells (G8 fx).toArray 129)) w.heap.size #[.string c.name, .string c.super, .slice fa nf fk, .slice ma nm mk] 44):=HB1.out.keep (A2 _ _ none) (by simp);have c2:(wr.alloc (.cells #[.string fx.name, .int .i64 fx.ty.kind, .string fx.ty.name] 129)).cell? ⟨b,2,none⟩=some (.map (some m2)):=hA2.blk.cell 2 _ rfl;have b0:(wr.alloc (.cells #[.string fx.name, .int .i64 fx.ty.kind, .string fx.ty.name] 129)).cell? ⟨w.heap.size,0,none⟩=some (.string c.name):=HB2.out.cell 0 _ rfl;obtain⟨D,hD⟩:∃D,D=((I5 c (K5 c)).take k).foldl F6 D2:=⟨_,rfl⟩
   have HD:=A0 hD;have HMw:Hid ((wr.alloc (.cells (G8 fx).toArray 129)).drew.ownsMap (H:=Unit) Tryz.prog 255 (plainElem Tryz.prog 3) m2 (n2+k) D):=by rw[hD];exact HA2.out.o2.drew
   clear hfx hkn hxn hA2 hD;subst hfp;go_wp2_with fail
   go_region_law (go_simp
                  go_at_call 243
                  refine(a9y _ m2 (n2+k) k D c.name fx.name hn hxs (by omega) (by unfold maxLen;omega) HMw).mono ?_;rintro e w1 ⟨rfl,ho1,hg1⟩;dsimp only)
   all_goals
    have HA3:Hid (Am w1 B b (.slice va nr vk) m1 m2 m3 (n1+1) (n2+(k+1)) n3 (F6 D1 (P4 c.name,nr)) (((I5 c (K5 c)).take (k+1)).foldl F6 D2) D3 nr rows):=by
     have:=(HA2.out.keep (B8 _ none)).put2 hg1 ho1;unfold Hid;rw[HST.out,←HD.out];exact this
    have HB3:=A0 ((HB2.out.keep (B8 _ none) (by simp)).keep hg1 (by have:=a1T HA2.out.o2 HB2.out;simp;omega));have HL3:=A0 (((HBL.out.alloc hBw _).drew).grown hg1 (by simp[World.drew];omega) (fun k e=>by cases e;exact HA2.out.low.2.2.1));clear ho1 hg1 c2 b0 HMw HD HST;go_wp2_with fail
    go_roundw
    case rel=>exact⟨k+1,by omega,by go_num,HA3,HB3,HL3⟩
    case measure=>simp[intOf];omega
  ·have hkn:k=nf:=by omega
   have HA4:Hid (Am wr B b (.slice va nr vk) m1 m2 m3 (n1+1) (n2+nf) n3 (F6 D1 (P4 c.name,nr)) ((I5 c (K5 c)).foldl F6 D2) D3 nr rows):=by
    have:=HA1.out;rw[hkn,show(I5 c (K5 c)).take nf=I5 c (K5 c)from by rw[HNF.out,show c.fields.length=(K5 c).length from by unfold K5;simp];exact b0l c _]at this;exact this
   have c3:=HB1.out.c3;obtain⟨DF,hDF⟩:∃DF,DF=(I5 c (K5 c)).foldl F6 D2:=⟨_,rfl⟩
   have HDF:=A0 hDF;rw[←hDF]at HA4;clear HA1 hDF;go_wp2_with fail
   clear c3 hkn hlt hk;go_loopw [43] (fun i wr=>∃k:Nat,k≤nm∧i= .int .i64 k∧Hid (Am wr B b (.slice va nr vk) m1 m2 m3 (n1+1) (n2+nf) (n3+k) (F6 D1 (P4 c.name,nr)) DF (((I5 c (G2 c)).take k).foldl F6 D3) nr rows)∧Hid (A3 wr w.heap.size #[.string c.name, .string c.super, .slice fa nf fk, .slice ma nm mk] 44)∧Hid (Below B w wr)) (fun i _=>nm-(intOf i).toNat)
   case atStart=>exact⟨0,by omega,rfl,HA4,HB1,HBL⟩
   case round=>
    clear HA4 HB1 HBL;obtain⟨k,hk,rfl,HA1,HB1,HBL⟩:=hrel;by_cases hlt:k<nm
    ·have hkl:k<c.methods.length:=by rw[←HNM.out];exact hlt
     have hBw:=Nat.le_trans hB HBL.out.size;obtain⟨fp,pa,ca,ha,pk,ck,hh,hfp,-,-,-,-,e0,e1,e2,e3,e4,e5,e6,e7⟩:=a3J (PM.below hM.out HBL.out hl) hkl;obtain⟨mx,hmx⟩:∃mx,mx=c.methods[k]:=⟨_,rfl⟩
     rw[←hmx]at e0 e1 e2 e3 e4 e5 e6 e7;have hkn:k<(G2 c).length:=by unfold G2;simpa using hkl
     have hxn:(G2 c)[k]=mx.name:=by rw[hmx];exact List.getElem_map (fun f:Me=>f.name)
     have HST:Hid (((I5 c (G2 c)).take (k+1)).foldl F6 D3=F6 (((I5 c (G2 c)).take k).foldl F6 D3) (M5 c.name mx.name,k)):=by unfold Hid;rw[a9D c _ D3 hkn,hxn]
     have hxs:Hid (mx.name.size≤maxLen):=by unfold Hid;rw[←hxn];exact hmn.out _ (List.getElem_mem hkn)
     have hA2:=HA1.out.keep (A2 wr (.cells (mV mx pa pk ca ck ha hh) 102) none);have HA2:=A0 hA2;have HB2:Hid (A3 (wr.alloc (.cells (mV mx pa pk ca ck ha hh) 102)) w.heap.size #[.string c.name, .string c.super, .slice fa nf fk, .slice ma nm mk] 44):=HB1.out.keep (A2 _ _ none) (by simp);have c2:=hA2.blk.c3;have b0:=HB2.out.c0;obtain⟨D,hD⟩:∃D,D=((I5 c (G2 c)).take k).foldl F6 D3:=⟨_,rfl⟩
     have HD:=A0 hD;have HMw:Hid ((wr.alloc (.cells (mV mx pa pk ca ck ha hh) 102)).drew.ownsMap (H:=Unit) Tryz.prog 255 (plainElem Tryz.prog 3) m3 (n3+k) D):=by rw[hD];exact HA2.out.o3.drew
     clear hmx hkn hxn hA2 hD;subst hfp;go_wp2_with fail
     go_region_law (go_simp
                    go_at_call 243
                    refine(a9y _ m3 (n3+k) k D c.name mx.name hn hxs (by omega) (by unfold maxLen;omega) HMw).mono ?_;rintro e w1 ⟨rfl,ho1,hg1⟩;dsimp only)
     all_goals
      have HA3:Hid (Am w1 B b (.slice va nr vk) m1 m2 m3 (n1+1) (n2+nf) (n3+(k+1)) (F6 D1 (P4 c.name,nr)) DF (((I5 c (G2 c)).take (k+1)).foldl F6 D3) nr rows):=by
       have:=(HA2.out.keep (B8 _ none)).put3 hg1 ho1;unfold Hid;rw[HST.out,←HD.out];exact this
      have HB3:=A0 ((HB2.out.keep (B8 _ none) (by simp)).keep hg1 (by have:=a1T HA2.out.o3 HB2.out;simp;omega));have HL3:=A0 (((HBL.out.alloc hBw _).drew).grown hg1 (by simp[World.drew];omega) (fun k e=>by cases e;exact HA2.out.low.2.2.2));clear ho1 hg1 c2 b0 HMw HD HST;go_wp2_with fail
      go_roundw
      case rel=>exact⟨k+1,by omega,by go_num,HA3,HB3,HL3⟩
      case measure=>simp[intOf];omega
    ·have hkn:k=nm:=by omega
     have HA4:Hid (Am wr B b (.slice va nr vk) m1 m2 m3 (n1+1) (n2+nf) (n3+nm) (F6 D1 (P4 c.name,nr)) DF ((I5 c (G2 c)).foldl F6 D3) nr rows):=by
      have:=HA1.out;rw[hkn,show(I5 c (G2 c)).take nm=I5 c (G2 c)from by rw[HNM.out,show c.methods.length=(G2 c).length from by unfold G2;simp];exact b0l c _]at this;exact this
     obtain⟨DM,hDM⟩:∃DM,DM=(I5 c (G2 c)).foldl F6 D3:=⟨_,rfl⟩
     have HDM:=A0 hDM;rw[←hDM]at HA4;clear HA1 hDM;have hBw:=Nat.le_trans hB HBL.out.size;have c0:=HA4.out.blk.c0;have z0:=HA4.out.blk.frozen 0;have hwl:=HA4.out.blk.lt;have hne:=M7 HA4.out.own HA4.out.blk (by decide);have c0a:∀o,(wr.drew.alloc o).cell? ⟨b,0,none⟩=some (.slice va nr vk):=fun o=>(A1 (B8 _ _) (A2 _ _ none)).cell c0 (by simp)
     have z0a:=fun o=>((A2 wr.drew o none).frozen_far ⟨b,0,none⟩ hwl (by simp)).trans z0
     have b0:=HB1.out.c0;have b1:=HB1.out.c1;have b2:=HB1.out.c2;have b3:=HB1.out.c3;obtain⟨inf,hi0,hz0,hz1,hz2⟩:=info_parts a3R;have HLN:=A0 HC.out;go_wp2_with fail
     go_region_law (refine step_append_lies _ rfl _ _ 90 rfl B 44 inf _ 4 80 Tryz.underlying90 hi0 hz0 hz1 hz2 rfl (by decide) _ nr rows rfl ((World.ownsRow.drew HA4.out.own).alloc _) ⟨wr.heap.size,0,none⟩ 1 1 [.string c.name, .string c.super, .slice fa nf fk, .slice ma nm mk] rfl rfl (O5 wr.drew _ _) (by simp[Value.oneCell']) (by omega) (by unfold maxLen;omega) (by omega) (by simp;omega) _ rfl ?_
                    intro g cap w4 hown4 hgrow4 hat hlt4;have c4:=(hgrow4.cell_far ⟨b,0,none⟩ (by simp;omega) (fun e=>hne e.symm)).trans (c0a _);have f4:=(hgrow4.frozen_far ⟨b,0,none⟩ (by simp;omega) (fun e=>hne e.symm)).trans (z0a _);have hgr:wr.grownBy w4 (Value.slice va nr vk).ownBlock:=A1 (A1 (B8 _ _) (A2 _ _ _)) hgrow4
                    have HM1:Hid (Am (w4.setCell ⟨b,0,none⟩ (.slice (some ⟨g,0,none⟩) (nr+1) cap)) B b (.slice (some ⟨g,0,none⟩) (nr+1) cap) m1 m2 m3 (n1+1) (n2+nf) (n3+nm) (F6 D1 (P4 c.name,nr)) DF DM (nr+1) (rows++ [.string c.name, .string c.super, .slice fa nf fk, .slice ma nm mk])):=by
                     have hb4:=HA4.out.blk.keep hgr (fun e=>hne e.symm);have q1:=HA4.out.o1.kept hgr (fun e=>a3Q HA4.out.o1 HA4.out.own e.symm);have q2:=HA4.out.o2.kept hgr (fun e=>a3Q HA4.out.o2 HA4.out.own e.symm);have q3:=HA4.out.o3.kept hgr (fun e=>a3Q HA4.out.o3 HA4.out.own e.symm);exact⟨hb4.set 0 _,hown4.kept (A6 w4 ⟨b,0,none⟩ _) (.inr (M7 hown4 hb4 (by decide))),q1.kept (A6 w4 ⟨b,0,none⟩ _) (by have:=a1T q1 hb4;simp;omega),q2.kept (A6 w4 ⟨b,0,none⟩ _) (by have:=a1T q2 hb4;simp;omega),q3.kept (A6 w4 ⟨b,0,none⟩ _) (by have:=a1T q3 hb4;simp;omega),HA4.out.d12,HA4.out.d13,HA4.out.d23,HA4.out.low⟩
                    have HG1:Hid (Below B w (w4.setCell ⟨b,0,none⟩ (.slice (some ⟨g,0,none⟩) (nr+1) cap))):=(HBL.out.grown hgr hBw (fun x e=>(K9 HA4.out.own e).1)).setCell (p:=⟨b,0,none⟩) HA4.out.low.1 _;clear hown4 hgrow4 hat hgr)
     all_goals
      go_end0;exact⟨rfl,HG1.out,_,by rw[←HDF.out,←HDM.out];exact HM1.out⟩
end Kx
end Go.Proofs.YtdhophglnhcjbaaGreatDoor
