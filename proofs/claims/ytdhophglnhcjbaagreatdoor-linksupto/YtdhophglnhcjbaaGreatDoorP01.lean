/- P01: a part of the proof that the last text tells. -/
import Derived.Test.YtdhophglnhcjbaaGreatDoorP00
import Derived.Deep.RegionHeld2
import Derived.Deep.AppendLies
set_option linter.all false
namespace Go.Proofs.YtdhophglnhcjbaaGreatDoor
open Go.RowKit Go.Shelf Cf
namespace Kx
variable {a b n:ByteArray}
theorem t8(h:a.toList=b.toList):a=b:=by
 rw[ByteArray.toList_eq,ByteArray.toList_eq]at h;exact ByteArray.ext (Array.toList_inj.1 h)
attribute [local go_sem] Oper.semAt_some
variable {w w':World}
theorem t6(h:Below w.heap.size w w'):w.grownBy w' none:=⟨h.os,h.tape,h.output,h.size,fun k hk _=>h.block k hk⟩
variable {b1 i n₀:Nat}
theorem a4T{A B C:World}(h:KpU n₀ b1 A B)(k:KpU n₀ b1 B C):KpU n₀ b1 A C:=⟨h.1.trans k.1,k.2.trans h.2⟩
theorem a4U(hn:n₀≤w.heap.size)(hb:b1<w.heap.size)(W:World)(l:Nat)(o o':Obj)(hl:w.heap.size≤l)(h:W.heap[l]? =some o)(h1:o.isCells=false)(h2:o.isWalk=false):KpU n₀ b1 W (W.putObj l o'):=
 ⟨belowK_b hn W l o o' hl h h1 h2,(grownBy_putObj' W l o').block b1 (by have:=(Array.getElem?_eq_some_iff.1 h).1;omega) (by simp;omega)⟩
theorem M8(B:Nat)(cs:Array Value)(t:TypeId):Own (fun(_:Unit) W=>A3 W B cs t):=fun _ X Y row hs hg hr=>
 hs.keep hg (fun e=>by obtain⟨o,ho,hc⟩:=hr B e.symm;rw[hs]at ho;cases ho;cases hc)
set_option maxHeartbeats 1000000 in
theorem a4t(F:Fence)(n:Nat)(h5:F.fn 167)(hro:F.round=none)(pv:Option Addr)(s:ByteArray)(w:World):
 CallsIn F n Tryz.prog 167 #[.pointer pv, .string s] w fun e w'=>e= .returned (.func (.func 254) #[] #[.pointer (some ⟨w.heap.size,0,none⟩), .pointer (some ⟨w.heap.size+1,0,none⟩)])∧w'=(w.alloc (.cells #[.pointer pv] 156)).alloc (.cells #[.string s] 9):=by
 refine callsIn_of_wp Tryz.func167 rfl h5 ?_ hro;simp only[Tryz.ntmps167,List.size_toArray,List.length_cons,List.length_nil,Nat.reduceAdd,Nat.reduceSub,Array.replicate_succ,Array.replicate_zero,List.push_toArray,List.append_toArray,List.nil_append,List.cons_append];gi_wp2
 go_ret;exact⟨rfl,rfl⟩
abbrev Ci(L:List Cl):Type:={i:Nat//i<L.length}
variable {L:List Cl}
def X2(l:List (Ci L)):List Nat:=l.map (·.1)
theorem a5z(F:Fence)(n:Nat)(hF:F.fn 254)(hro:F.round=none)(hn:1≤n)(n₀ b1 b2 lim b:Nat)(L:List Cl)(p:Addr)(cap m1 m2 m3:Nat)(q:Nat→Qs)(nm:ByteArray)(hnm:nm.size≤maxLen)(hU:Hid (UpL L))(w:World)
 (h1:b1<w.heap.size) (h2:b2<w.heap.size) (hc1:w.cell? ⟨b1,0,none⟩=some (.pointer (some ⟨b,0,none⟩))) (hc2:w.cell? ⟨b2,0,none⟩=some (.string nm)) (hK:Hid (I9 w lim b L p cap m1 m2 m3 q)) (hlim:lim≤n₀) (hn0:n₀≤w.heap.size):
 SeqStopsK F n Tryz.prog 254 #[.pointer (some ⟨b1,0,none⟩), .pointer (some ⟨b2,0,none⟩)] (fun i:Ci L=> #[a2d L q i.1]) (KpU n₀ b1) (fun ys=>X2 ys=up L nm) (fun pre=>X2 pre<+:up L nm) (up L nm).length w:=fun l J Jx W hW hJ hJx hY h0=>by
 refine(b8O F n hF hro hn l n₀ b1 b2 lim b L p cap m1 m2 m3 q nm hnm hU (fun pre W=>∃pr:List (Ci L),X2 pr=pre∧J pr W) (fun pre W=>∃pr:List (Ci L),X2 pr=pre∧Jx pr W)
  (fun pre A B hj hg=>by obtain⟨pr,e,hj⟩:=hj;exact⟨pr,e,hJ pr A B none hj hg (fun r e=>by cases e)⟩) (fun pre A B hj hg=>by obtain⟨pr,e,hj⟩:=hj;exact⟨pr,e,hJx pr A B none hj hg (fun r e=>by cases e)⟩)
  (fun pre x W1 hx hj hlt=>by
    obtain⟨pr,rfl,hj⟩:=hj;refine(hY pr ⟨x,hx⟩ W1 hj (by simpa[X2]using hlt)).mono (fun e W' hr=> ?_);rcases hr with⟨h1,h2,h3⟩|⟨h1,h2⟩
    ·exact .inl ⟨h1,⟨_,by simp[X2],h2⟩,h3⟩
    ·exact .inr ⟨h1,⟨_,by simp[X2],h2⟩⟩) W
  ((hW.cell (p:=⟨b1,0,none⟩) h1).trans hc1) ((hW.cell (p:=⟨b2,0,none⟩) h2).trans hc2) (hK.out.below hW (Nat.le_trans hlim hn0)) hlim ⟨[],rfl,h0⟩).mono ?_
 rintro e W' ⟨hv,⟨ys,rfl,pr,he,hj⟩|⟨pre,hp,pr,rfl,hj⟩⟩
 ·exact⟨hv, .inl ⟨pr,he,hj⟩⟩
 ·exact⟨hv, .inr ⟨pr,hp,hj⟩⟩
set_option maxRecDepth 100000 in
set_option maxHeartbeats 2000000 in
theorem b6t(w:World)(lim b:Nat)(L:List Cl)(p:Addr)(cap m1 m2 m3:Nat)(q:Nat→Qs)(h:Hid (I9 w lim b L p cap m1 m2 m3 q))(hl:lim≤w.heap.size)(hU:Hid (UpL L))(c o:ByteArray)(hc:c.size≤maxLen):
 Calls Tryz.prog 240 #[.pointer (some ⟨b,0,none⟩), .string c, .string o] w fun e w'=>e= .returned (.bool (I6 L c o))∧w.grownBy w' none:=by
 refine(callsIn_wide (n:=9)).1 ?_;refine callsIn_of_wp_marks Tryz.func240 rfl trivial ?_ rfl;simp only[Tryz.ntmps240,List.size_toArray,List.length_cons,List.length_nil,Nat.reduceAdd,Nat.reduceSub,Array.replicate_succ,Array.replicate_zero,List.push_toArray,List.append_toArray,List.nil_append,List.cons_append];gi_wp2_with (refine⟨trivial,?_⟩;gi_at_call 167;refine(a4t _ _ trivial rfl _ _ _).mono ?_;rintro e w' ⟨rfl,rfl⟩)
 have hB0:Below w.heap.size w ((((w.alloc (.cells #[.string o] 9)).alloc (.cells #[.bool false] 4)).alloc (.cells #[.pointer (some ⟨b,0,none⟩)] 156)).alloc (.cells #[.string c] 9)):=
  ((((Below.refl _ w).alloc (Nat.le_refl _) _).alloc (by simp) _).alloc (by simp;omega) _).alloc (by simp;omega) _
 have hsz:((((w.alloc (.cells #[.string o] 9)).alloc (.cells #[.bool false] 4)).alloc (.cells #[.pointer (some ⟨b,0,none⟩)] 156)).alloc (.cells #[.string c] 9)).heap.size=w.heap.size+4:=by simp
 have k0:=(((A3.new w #[.string o] 9).keep (A2 _ (.cells #[.bool false] 4) none) (by simp)).keep (A2 _ (.cells #[.pointer (some ⟨b,0,none⟩)] 156) none) (by simp)).keep (A2 _ (.cells #[.string c] 9) none) (by simp);have k1:=((A3.new (w.alloc (.cells #[.string o] 9)) #[.bool false] 4).keep (A2 _ (.cells #[.pointer (some ⟨b,0,none⟩)] 156) none) (by simp)).keep (A2 _ (.cells #[.string c] 9) none) (by simp);have k2:=(A3.new ((w.alloc (.cells #[.string o] 9)).alloc (.cells #[.bool false] 4)) #[.pointer (some ⟨b,0,none⟩)] 156).keep (A2 _ (.cells #[.string c] 9) none) (by simp);have k3:=A3.new (((w.alloc (.cells #[.string o] 9)).alloc (.cells #[.bool false] 4)).alloc (.cells #[.pointer (some ⟨b,0,none⟩)] 156)) #[.string c] 9;simp only[World.size_alloc]at k1 k2 k3;obtain⟨W0,hW0⟩:∃W0,(((w.alloc (.cells #[.string o] 9)).alloc (.cells #[.bool false] 4)).alloc (.cells #[.pointer (some ⟨b,0,none⟩)] 156)).alloc (.cells #[.string c] 9)=W0:=⟨_,rfl⟩
 rw[hW0]at hB0 hsz k0 k1 k2 k3⊢;clear hW0;have HK0:=A0 (h.out.below hB0 hl)
 refine wpIn_rangeFunc_ownH rfl (by omega) (gf:=254) (lb:= #[.pointer (some ⟨w.heap.size+1+1,0,none⟩), .pointer (some ⟨w.heap.size+1+1+1,0,none⟩)]) rfl trivial (enters_of Tryz.func254 (by kernel_rfl) rfl)
  (a5z _ _ trivial rfl (by omega) w.heap.size (w.heap.size+1+1) (w.heap.size+1+1+1) lim b L p cap m1 m2 m3 q c hc hU W0 (by omega) (by omega) (k2.cell 0 _ rfl) (k3.cell 0 _ rfl) HK0 hl (by omega)) a4T (a4U (by omega) (by omega)) (Below.refl _ _) (fun _=>rfl)
  (fun pre W=>((∀k∈pre,(cl L k.1).name≠o)∧A3 W w.heap.size #[.string o] 9∧A3 W (w.heap.size+1) #[.bool false] 4∧A3 W (w.heap.size+1+1+1) #[.string c] 9)∧Below w.heap.size w W)
  (fun d pre W=>(d= .ret∧(∃k∈pre,(cl L k.1).name=o)∧A3 W (w.heap.size+1) #[.bool true] 4)∧Below w.heap.size w W)
  (OwnFrom.and (fun s X Y row hs hg hr=>⟨hs.1,Own.from (M8 _ _ _) _ () X Y row hs.2.1 hg hr,Own.from (M8 _ _ _) _ () X Y row hs.2.2.1 hg hr,Own.from (M8 _ _ _) _ () X Y row hs.2.2.2 hg hr⟩) (ownFrom_below (Nat.le_refl _) (by omega)))
  (fun d=>OwnFrom.and (fun s X Y row hs hg hr=>⟨hs.1,hs.2.1,Own.from (M8 _ _ _) _ () X Y row hs.2.2 hg hr⟩) (ownFrom_below (Nat.le_refl _) (by omega)))
  ⟨⟨by simp,k0,k1,k3⟩,hB0⟩
  (fun x a' W=>∃Bx,w.heap.size+4≤Bx∧A3 W Bx #[.string (cl L x.1).name, .string (cl L x.1).super, .slice (q x.1).fa (cl L x.1).fields.length (q x.1).fk, .slice (q x.1).ma (cl L x.1).methods.length (q x.1).mc] 44∧
    a'={tmps:= #[.pointer (some ⟨b,0,none⟩), .string c, .string o,undef,undef, .pointer (some ⟨w.heap.size,0,none⟩), .pointer (some ⟨w.heap.size+1,0,none⟩), .pointer (some ⟨Bx,0,none⟩), .pointer (some ⟨b,0,none⟩), .string c, .func (.func 254) #[] #[.pointer (some ⟨w.heap.size+1+1,0,none⟩), .pointer (some ⟨w.heap.size+1+1+1,0,none⟩)], .agg #[.string (cl L x.1).name, .string (cl L x.1).super, .slice (q x.1).fa (cl L x.1).fields.length (q x.1).fk, .slice (q x.1).ma (cl L x.1).methods.length (q x.1).mc],undef,undef,undef,undef],defers:=[]})
  (fun x a' _ X Y row hs hg hr=>by obtain⟨Bx,h1,h2,h3⟩:=hs;exact⟨Bx,h1,M8 Bx _ _ () X Y row h2 hg (fun r e=>(hr r e).2),h3⟩)
  ?assign ?body ?done ?stop
 case assign=>
  rintro l pre x W K ⟨⟨hne,hk0,hk1,hk3⟩,hB1⟩ hK;dsimp only[a2d,F8];gi_wp2
  have h3:=hk3.lt;exact hK _ _ ((KeepsOthers.alloc _ _).from _) ⟨(Below.refl _ W).alloc hB1.size _,Below.heap_alloc W _ _ (by omega)⟩ ⟨⟨hne,hk0.keep (A2 _ _ none) (by simp),hk1.keep (A2 _ _ none) (by simp),hk3.keep (A2 _ _ none) (by simp)⟩,hB1.alloc hB1.size _⟩ ⟨W.heap.size,by omega,A3.new W _ _,rfl⟩
 case body=>
  rintro l pre x a' W hl2 _ ⟨⟨hne,hk0,hk1,hk3⟩,hB1⟩ ⟨Bx,hBx,hbx,rfl⟩ hlt;have cx:=hbx.cell 0 _ rfl;have co:=hk0.cell 0 _ rfl;have cr:=hk1.cell 0 _ rfl;have fr:=hk1.frozen 0;gi_wp2
  ·rename_i hx;have hx:=t8 (eq_of_beq hx);exact⟨(KeepsOthers.setCell _ _ _).from _,⟨rfl,⟨x,by simp,hx⟩,hk1.set 0 (.bool true)⟩,hB1.setCell (p:=⟨w.heap.size+1,0,none⟩) (by simp) _⟩
  ·rename_i hx;have hx:(cl L x.1).name≠o:=fun e=>by rw[e,beq_self_eq_true]at hx;cases hx
   exact⟨KeepsFrom.refl _ _,⟨Below.refl _ _,rfl⟩,⟨fun k hk=>(List.mem_append.1 hk).elim (hne k) (fun e=>by simp at e;subst e;exact hx),hk0,hk1,hk3⟩,hB1⟩
 case done=>
  rintro D ys W hD hys ⟨⟨hne,hk0,hk1,hk3⟩,hB1⟩ hK;have cr:=hk1.cell 0 _ rfl;have fr:=hk1.frozen 0;gi_wp2
  have hK':=(KeepsOthers.setCell W ⟨w.heap.size+1,0,none⟩ (.bool false)).same D _ hK rfl;refine⟨by simp, .inl ⟨_,_,rfl,run_takeDeferred hK',?_⟩⟩;have hb5:=(hk1.set 0 (.bool false)).keep (grownBy_putObj' _ D (.deferred none)) (by simp;omega);have hc5:=hb5.cell 0 _ rfl
  have hf:I6 L c o=false:=by
   unfold I6;rw[List.any_eq_false,←hys];intro k hk;obtain⟨k',hk',rfl⟩:=List.mem_map.1 hk;simpa using hne k' hk'
  rw[hf];exact⟨.bool false,by simp[results,Tryz.results240,go_sem,hc5],rfl,t6 ((hB1.setCell (p:=⟨w.heap.size+1,0,none⟩) (by simp) _).grown (grownBy_putObj' _ D _) (by simp;exact hB1.size) (fun k e=>by cases e;omega))⟩
 case stop=>
  rintro D d pre W hD hpre ⟨⟨rfl,⟨k,hk,hkn⟩,hk1⟩,hB1⟩ hK;have cr:=hk1.cell 0 _ rfl;gi_wp2
  refine⟨by simp, .inl ⟨_,_,rfl,run_takeDeferred hK,?_⟩⟩;have hb5:=hk1.keep (grownBy_putObj' _ D (.deferred none)) (by simp;omega);have hc5:=hb5.cell 0 _ rfl
  have hf:I6 L c o=true:=by
   unfold I6;rw[List.any_eq_true];exact⟨k.1,hpre.subset (List.mem_map.2 ⟨k,hk,rfl⟩),by simpa using hkn⟩
  rw[hf];exact⟨.bool true,by simp[results,Tryz.results240,go_sem,hc5],rfl,t6 (hB1.grown (grownBy_putObj' _ D _) hB1.size (fun k e=>by cases e;omega))⟩
structure Wo(w:World)(lim wb:Nat)(L:List Cl)(p:Addr)(cap:Nat)(q:Nat→Qs):Prop where
 wb_lt:wb<lim
 p_lt:p.block<lim
 c0:w.cell? ⟨wb,0,none⟩=some (.slice (some p) L.length cap)
 row:∀i,i<L.length→∀r u,(F8 (cl L i) (q i))[r]? =some u→w.cell? (p.add (i*4+r))=some u
 names:∀i,i<L.length→(cl L i).name.size≤maxLen∧(cl L i).super.size≤maxLen
 small:L.length≤65536
theorem Wo.keep{lim wb:Nat}{p:Addr}{cap:Nat}{q:Nat→Qs}(h:Wo w lim wb L p cap q)(hg:w.grownBy w' none):Wo w' lim wb L p cap q:=
 ⟨h.wb_lt,h.p_lt,hg.cell h.c0 (by simp),fun i hi r u hu=>hg.cell (h.row i hi r u hu) (by simp),h.names,h.small⟩
def l4(L:List Cl)(n:ByteArray):Int:=match C5 L n with|some i=>i|none=> -1
theorem b4N(h:∀j,j<L.length→(cl L j).name≠n):l4 L n= -1:=by
 unfold l4;cases hf:C5 L n with
 |none=>rfl
 |some i=>exact absurd (L4 hf).2.1 (h i (L4 hf).1)
theorem b4M(hi:i<L.length)(hn:(cl L i).name=n)(h:∀j,j<i→(cl L j).name≠n):l4 L n=i:=by
 unfold l4;rw[a5H hi hn h]
theorem b6c(h:C5 L n=none):l4 L n= -1:=by unfold l4;rw[h]
theorem b6b(h:C5 L n=some i):l4 L n=i:=by unfold l4;rw[h]
theorem b0L{k:IntKind}{a b:Int}(h:a=b):Ending.returned (.int k a)= .returned (.int k b):=by rw[h]
theorem j4(h:a≠b):(a.toList==b.toList)=false:=by
 rw[beq_eq_false_iff_ne];exact fun e=>h (t8 e)
set_option maxRecDepth 100000 in
set_option maxHeartbeats 1000000 in
theorem a1M(w:World)(lim wb:Nat)(L:List Cl)(p:Addr)(cap:Nat)(q:Nat→Qs)(h:Hid (Wo w lim wb L p cap q))(s:ByteArray):
 Calls Tryz.prog 121 #[.pointer (some ⟨wb,0,none⟩), .string s] w fun e w'=>e= .returned (.int .i64 (l4 L s))∧w=w':=by
 obtain⟨n,hn⟩:∃n,n=L.length:=⟨_,rfl⟩
 have hsm:=h.out.small;have c0:=h.out.c0;rw[←hn]at c0 hsm;have HN:=A0 hn;clear hn;go_enter Tryz.func121,Tryz.ntmps121;go_wp2
 go_loop [5] (fun i=>∃k:Nat,k≤n∧i= .int .i64 k∧Hid (∀j,j<k→(cl L j).name≠s)) (fun i=>n-(intOf i).toNat)
 case atStart=>exact⟨0,by omega,rfl,fun j hj=>by omega⟩
 case round=>
  obtain⟨k,hk,rfl,hall⟩:=hrel;by_cases hlt:k<n
  ·have f0:w.cell? (p.add (k*4))=some (.string (cl L k).name):=h.out.row k (by rw[←HN.out];exact hlt) 0 _ rfl;obtain⟨xn,hxn⟩:∃xn,xn=(cl L k).name:=⟨_,rfl⟩
   rw[←hxn]at f0;have HX:=A0 hxn;clear hxn;by_cases hx:xn=s
   ·subst hx;go_wp2
    go_ret;exact⟨b0L (by rw[b4M (by rw[←HN.out];exact hlt) HX.out.symm hall.out]),rfl⟩
   ·have hb:=j4 hx;go_wp2
    go_round
    case rel=>exact⟨k+1,by omega,by go_num,fun j hj=>by
     rcases Nat.lt_or_ge j k with h1|h1
     ·exact hall.out j h1
     ·obtain rfl:j=k:=by omega
      rw[←HX.out];exact hx⟩
    case measure=>simp[intOf];omega
  ·obtain rfl:k=n:=by omega
   go_wp2
   go_ret;exact⟨b0L (by rw[b4N (fun j hj=>hall.out j (by rw[HN.out];exact hj))]),rfl⟩
end Kx
open Go.RowKit Cf
def a0l(f:ByteArray)(k:Nat)(st:St):R ByteArray:=
 if st.at_+k≤f.size then .ok (f.extract st.at_ (st.at_+k),{st with at_:=st.at_+k})else .error (2,f.size)
set_option maxHeartbeats 400000 in
theorem a9U(w:World)(b:Nat)(f:ByteArray)(pv:Value)(st:St)(n:Nat)(h:Rd w b f pv st)(hn:n≤255):
 Calls Tryz.prog 221 #[.pointer (some ⟨b,0,none⟩), .int .i64 n] w (E7 w b f pv (a0l f n st) a4a):=by
 have HR:=A0 h;have c0:=h.blk.c0;have c1:=h.blk.c1;have f1:=h.blk.frozen 1;obtain⟨hfits,hat,hused,hpool⟩:=h.inv;clear h;by_cases hc:st.at_+n≤f.size
 ·go_enter Tryz.func221,Tryz.ntmps221;go_wp2
  go_quiet (fail)
  go_wp2
  go_quiet (fail)
  go_wp2
  go_ret;refine⟨A1 (F0 _ _ _) (A6 _ ⟨b,1,none⟩ _),?_⟩;rw[a0l,if_pos hc];exact⟨_,rfl,rfl,(HR.out.keep (F0 _ _ _)).setAt (st.at_+n) hc⟩
 ·go_enter Tryz.func221,Tryz.ntmps221;go_wp2
  go_quiet (fail)
  go_wp2
  refine⟨rfl,F0 _ _ _,?_⟩;rw[a0l,if_neg hc];rfl
theorem b0G(l:List UInt8)(c:UInt8):beL (l++ [c])=beL l*256+c.toNat:=by
 simp[beL,List.foldl_append]
theorem b4Z(l:List UInt8):∀a:Nat,l.foldl (fun n c=>n*256+c.toNat) a<(a+1)*256^l.length:=by
 induction l with
 |nil=>intro a;simp
 |cons c l ih=>
  intro a;have h:=ih (a*256+c.toNat);have hc:=c.toNat_lt;simp only[List.foldl_cons,List.length_cons];refine Nat.lt_of_lt_of_le h ?_;rw[Nat.pow_succ,Nat.mul_comm (256^l.length) 256,←Nat.mul_assoc];exact Nat.mul_le_mul_right _ (by omega)
theorem a5Y(l:List UInt8):beL l<256^l.length:=by
 have:=b4Z l 0;simpa[beL]using this
theorem b2y(s:ByteArray)(k:Nat)(h:k<s.size):s.data.toList.take (k+1)=s.data.toList.take k++ [s.data[k]]:=by
 rw[List.take_succ_eq_append_getElem (by simpa using h)];rfl
theorem b7F(s:ByteArray)(a b:Nat):(s.extract a b).data.toList=(s.data.toList.drop a).take (b-a):=by
 rw[ByteArray.data_extract,Array.toList_extract]
theorem b6X(x c:Nat)(hx:x<2^40)(hc:c<256):bits BinOp.or IntKind.i64 (wrap64 ((x:Int)*256)) (wrap64 (c:Int))=((x*256+c:Nat):Int):=by
 have h1:wrap64 ((x:Int)*256)=((x*256:Nat):Int):=by unfold wrap64;omega
 have h2:wrap64 (c:Int)=(c:Int):=by unfold wrap64;omega
 rw[h1,h2,(bits_nat .i64 62 (by decide) (fun n h0 h1=>by rw[IntKind.wrap_i64];omega) (x*256) c (by omega) (by omega)).2];have:=Nat.two_pow_add_eq_or_of_lt (i:=8) (b:=c) (by omega) x;rw[Nat.mul_comm (2^8) x]at this;exact congrArg _ this.symm
set_option maxHeartbeats 400000 in
theorem Z2(w:World)(b:Nat)(f:ByteArray)(pv:Value)(st:St)(n:Nat)(h:Hid (Rd w b f pv st))(hn:n≤4):
 Calls Tryz.prog 146 #[.pointer (some ⟨b,0,none⟩), .int .i64 n] w (E7 w b f pv (A9 f n st) b1B):=by
 go_enter Tryz.func146,Tryz.ntmps146;go_wp2_with (go_at_call 221;refine(a9U w b f pv st n h (by omega)).mono ?_)
 intro e w1 he;rcases he.cases with⟨s,st1,v,hr,rfl,rfl,hR,hg⟩|⟨er,hr,rfl,hg⟩
 ·clear he;have HH:=A0 hr;clear hr
  have hss:s.size≤4:=by
   have hr:=HH.out;rw[a0l]at hr;split at hr
   ·cases hr;simp;omega
   ·cases hr
  have hcv:=fun wx=>run_bytes_of_string (P:=Tryz.prog) wx 9 193 5 s Tryz.underlying9 Tryz.underlying193 Tryz.underlying5
  go_wp2
  obtain⟨W,hW⟩:∃W,W=(w1.alloc (Obj.cells (bytesRow s (grownCap w1 s.size 0 5)) 5 ((bytesRow s (grownCap w1 s.size 0 5)).size,(bytesRow s (grownCap w1 s.size 0 5)).size+1))).drew:=⟨_,rfl⟩
  rw[←hW]
  have hcell:∀j (hj:j<s.size),W.cell? ⟨w1.heap.size,j,none⟩=some (.int .u8 (s.data[j].toNat:Int)):=by
   intro j hj;rw[hW,World.cell?_drew,World.cell?_alloc_mark,bytesRow_at s _ j hj]
  have hgW:w1.grownBy W none:=by rw[hW];exact C7 (A2 _ _ _) (B8 _ none) (by simp)
  clear hW hcv;go_loop [5,13] (fun a i=>∃k:Nat,k≤s.size∧i= .int .i64 k∧a= .int .i64 (beL (s.data.toList.take k))) (fun _ i=>s.size-(intOf i).toNat)
  case atStart=>exact⟨0,Nat.zero_le _,rfl,rfl⟩
  case round=>
   obtain⟨k,hk,rfl,rfl⟩:=hrel;by_cases hlt:k<s.size
   ·have hck:=hcell k hlt;clear hcell;go_wp2
    have hb:=a5Y (s.data.toList.take k);have hl:(s.data.toList.take k).length=k:=by simp;omega
    have hcc:=s.data[k].toNat_lt;rw[hl]at hb;have hp:256^k≤256^4:=Nat.pow_le_pow_right (by omega) (by omega);refine⟨⟨k+1,hlt,by go_num,?_⟩,by simp[intOf];omega⟩;rw[b2y s k hlt,b0G,b6X _ _ (by omega) hcc]
   ·go_wp2
    go_ret;have hk':k=s.size:=by omega
    subst hk';have hr:=HH.out;rw[a0l]at hr;split at hr
    ·rename_i hc;cases hr;refine .ok (a:=beL (f.data.toList.drop st.at_|>.take n)) ?_ (K2 hg hgW) ?_ (hR.out.keep hgW)
     ·rw[A9,if_pos hc]
     ·show Value.int .i64 (beL (List.take _ (f.extract st.at_ (st.at_+n)).data.toList):Nat)=Value.int .i64 _;rw[b7F,Nat.add_sub_cancel_left,List.take_take];have:(f.extract st.at_ (st.at_+n)).size=n:=by simp;omega
      rw[this,Nat.min_self]
    ·cases hr
 ·go_wp2
  refine⟨rfl, .err (er:=er) ?_ rfl rfl hg⟩;rw[a0l]at hr;split at hr<;>rename_i hc
  ·cases hr
  ·rw[A9,if_neg hc];cases hr;rfl
variable {w w1:World}
variable {b n:Nat}
variable {f:ByteArray}
variable {pv:Value}
variable {st:St}
theorem Rd.cells(h:Rd w b f pv st):Inv f st∧w.ownsRow (b+1) 9 1 pv st.pool.length (st.pool.map Value.string)∧
 w.cell? ⟨b,0,none⟩=some (.string f)∧w.cell? ⟨b,1,none⟩=some (.int .i64 st.at_)∧w.cell? ⟨b,2,none⟩=some pv∧w.cell? ⟨b,3,none⟩=some (.int .i64 st.used)∧
 w.frozen? ⟨b,1,none⟩=false∧w.frozen? ⟨b,2,none⟩=false∧w.frozen? ⟨b,3,none⟩=false:=
 ⟨h.inv,h.own,h.blk.cell 0 _ rfl,h.blk.cell 1 _ rfl,h.blk.cell 2 _ rfl,h.blk.cell 3 _ rfl,h.blk.frozen 1,h.blk.frozen 2,h.blk.frozen 3⟩
theorem a2X{base:Nat}{v:Value}{l:List ByteArray}(h:w.ownsRow base 9 1 v l.length (l.map Value.string)):
 (v= .slice none 0 0∧l=[])∨∃g cap,v= .slice (some ⟨g,0,none⟩) l.length cap∧base≤g∧∀j,j<l.length→w.cell? ⟨g,j,none⟩=some (.string (l.getD j ByteArray.empty)):=by
 rcases h.2 with⟨rfl,hn⟩|⟨g,cap,cur,rfl,hg,hh,_,_,_,ht⟩
 ·exact .inl ⟨rfl,List.eq_nil_of_length_eq_zero hn⟩
 ·refine .inr ⟨g,cap,rfl,hg,fun j hj=> ?_⟩;have:=h.cells (g:=g) rfl j (.string (l.getD j ByteArray.empty)) (by simp[List.getD,hj]);unfold Addr.add at this;split at this
  ·rename_i h0;subst h0;exact this
  ·simpa using this
theorem b7e(hg:w.grownBy w1 (some b))(hR:Rd w1 b f pv {st with at_:=st.at_+1})
 (hn:A9 f 1 st= .ok (n,{st with at_:=st.at_+1})) (hu:n≤st.used) (hp:n<st.pool.length) {m:Int} (hm:m=(max st.used (n+1):Nat)) {v:Value} (hv:v= .string (st.pool[n])):
 E7 w b f pv (name f st) a4a (.returned v) (w1.setCell ⟨b,3,none⟩ (.int .i64 m)):=by
 subst hm;have:=hR.cells.1.used;refine .ok (a:=st.pool[n]) (st:={st with at_:=st.at_+1,used:=max st.used (n+1)}) ?_ (A1 hg (A6 _ ⟨b,3,none⟩ _)) hv (hR.setUsed _ ?_)
 ·rw[name,hn];simp[hu,hp]
 ·simp at this⊢;omega
set_option maxHeartbeats 400000 in
theorem a3I(w:World)(b:Nat)(f:ByteArray)(pv:Value)(st:St)(h:Hid (Rd w b f pv st)):
 Calls Tryz.prog 148 #[.pointer (some ⟨b,0,none⟩)] w (E7 w b f pv (name f st) a4a):=by
 obtain⟨-,-,-,c1,-,-,-,-,-⟩:=h.out.cells;go_enter Tryz.func148,Tryz.ntmps148;go_wp2_with (go_at_call 146;refine(Z2 w b f pv st 1 h (by omega)).mono ?_)
 intro e w1 he;rcases he.cases with⟨n,st1,v,hr,rfl,rfl,hR,hg⟩|⟨er,hr,rfl,hg⟩
 ·clear he c1;have HH:=A0 hr
  have hst:st1={st with at_:=st.at_+1}∧n<256:=by
   rw[A9]at hr;split at hr
   ·cases hr;refine⟨rfl,?_⟩;have:=a5Y ((f.data.toList.drop st.at_).take 1);have h2:((f.data.toList.drop st.at_).take 1).length≤1:=by simp;omega
    have:256^((f.data.toList.drop st.at_).take 1).length≤256^1:=Nat.pow_le_pow_right (by omega) h2;omega
   ·cases hr
  clear hr;obtain⟨rfl,hn⟩:=hst;obtain⟨⟨h1,h2,h3,h4⟩,ho,c0,c1,c2,c3,f1,f2,f3⟩:=hR.out.cells;simp only at c1 c2 c3 h2 h3 h4 ho;have hRp:=hR;rcases a2X ho with⟨rfl,hnil⟩|⟨g,cap,rfl,hbg,hcell⟩
  ·clear ho;have HN:=A0 hnil;clear hnil;by_cases hu:n≤st.used
   all_goals
    go_wp2
    refine⟨rfl, .err (er:=(5,st.at_)) ?_ rfl rfl hg⟩;rw[name,HH.out];simp[HN.out]
  ·clear ho;by_cases hu:n≤st.used
   ·by_cases hp:n<st.pool.length
    ·have hc:=hcell n hp;clear hcell;go_wp2
     all_goals
      go_ret;exact b7e hg hR.out HH.out hu hp (by omega) rfl
    ·go_wp2
     refine⟨rfl, .err (er:=(5,st.at_)) ?_ rfl rfl hg⟩;rw[name,HH.out];simp[hp]
   ·go_wp2
    refine⟨rfl, .err (er:=(5,st.at_)) ?_ rfl rfl hg⟩;rw[name,HH.out];simp[hu]
 ·go_wp2
  refine⟨rfl, .err (er:=er) ?_ rfl rfl hg⟩;rw[name,hr]
def a8c(_:World)(v:Value)(t:Ty):Prop:=v= .agg #[.int .i64 t.kind, .string t.name]
def b1C(_:World)(v:Value)(t:R9):Prop:=v= .agg #[.string t.name, .int .i64 t.ty.kind, .string t.ty.name]
def a8d(_:World)(v:Value)(t:In):Prop:=v= .agg #[.int .i64 t.op, .int .i64 t.a, .string t.cls, .string t.mem]
def b1L(_:World)(v:Value)(t:Hd):Prop:=v= .agg #[.int .i64 t.from_, .int .i64 t.to, .int .i64 t.at_, .string t.cls]
set_option maxHeartbeats 400000 in
theorem b3J(k:Nat)(w:World):
 Calls Tryz.prog 291 #[.int .i64 k] w fun e w'=>e= .returned (.bool (o7 k))∧w'=w:=by
 go_enter Tryz.func291,Tryz.ntmps291;go_wp2
 all_goals
  go_ret;refine⟨?_,rfl⟩;refine congrArg (fun x=>Ending.returned (.bool x)) ?_;simp only[o7];rw[Bool.eq_iff_iff];simp;omega
set_option maxHeartbeats 400000 in
theorem a6I(w:World)(b:Nat)(f:ByteArray)(pv:Value)(st:St)(c:Bool)(h:Hid (Rd w b f pv st)):
 Calls Tryz.prog 293 #[.pointer (some ⟨b,0,none⟩), .bool c] w (E7 w b f pv (T9 f c st) a4a):=by
 cases c
 ·go_enter Tryz.func293,Tryz.ntmps293;go_wp2
  go_ret;exact .ok (a:=ByteArray.empty) (by rw[T9];rfl) (G1 _ _) rfl h.out
 ·go_enter Tryz.func293,Tryz.ntmps293;go_wp2_with (go_at_call 148;refine(a3I w b f pv st h).mono ?_)
  intro e w1 he;rcases he.cases with⟨n,st1,v,hr,rfl,rfl,hR,hg⟩|⟨er,hr,rfl,hg⟩
  ·go_wp2
   go_ret;exact .ok (by rw[T9];exact hr) hg rfl hR.out
  ·go_wp2
   exact⟨rfl, .err (er:=er) (by rw[T9];exact hr) rfl rfl hg⟩
theorem O6{k:Nat}{st1:St}(h:A9 f k st= .ok (n,st1)):st1={st with at_:=st.at_+k}∧n<256^k:=by
 rw[A9]at h;split at h
 ·cases h;refine⟨rfl,?_⟩;have:=a5Y ((f.data.toList.drop st.at_).take k);have h2:((f.data.toList.drop st.at_).take k).length≤k:=by simp;omega
  have:256^((f.data.toList.drop st.at_).take k).length≤256^k:=Nat.pow_le_pow_right (by omega) h2;omega
 ·cases h
set_option maxHeartbeats 400000 in
theorem a9(w:World)(b:Nat)(f:ByteArray)(pv:Value)(st:St)(h:Hid (Rd w b f pv st)):
 Calls Tryz.prog 223 #[.pointer (some ⟨b,0,none⟩)] w (E7 w b f pv (kind f st) a8c):=by
 obtain⟨-,-,-,c1,-,-,-,-,-⟩:=h.out.cells;have hbl:=h.out.lt;go_enter Tryz.func223,Tryz.ntmps223;go_wp2_with (go_at_call 146;refine(Z2 _ b f pv st 1 (h.out.keep (A2 _ _ _)) (by omega)).mono ?_)
 intro e w1 he;rcases he.cases with⟨n,st1,v,hr,rfl,rfl,hR,hg⟩|⟨er,hr,rfl,hg⟩
 ·have hq:=O6 hr;have HH:=A0 hr;clear hr he c1;obtain⟨rfl,hn⟩:=hq;by_cases h4:4<n
  ·go_wp2
   refine⟨rfl, .err (er:=(3,st.at_)) ?_ rfl rfl (A1 (A2 _ _ _) hg)⟩;rw[kind,HH.out];simp[h4]
  ·go_wp2_with (first|(go_at_call 291;refine(b3J n _).mono ?_;rintro e w' ⟨rfl,rfl⟩)|(go_at_call 293;refine(a6I _ b f pv _ _ hR).mono ?_))
   intro e w2 he;rcases he.cases with⟨s,st2,v,hr,rfl,rfl,hR2,hg2⟩|⟨er,hr,rfl,hg2⟩
   ·have HH2:=A0 hr;clear hr he;have hB:A3 w2 w.heap.size _ _:=((A3.new w _ _).keep hg (by simp;omega)).keep hg2 (by simp;omega);have d0:=hB.cell 0 _ rfl;have d1:=hB.cell 1 _ rfl;have e0:=hB.frozen 0;have e1:=hB.frozen 1;clear hB;go_wp2
    refine bodyPost_ret (v:= .agg #[.int .i64 n, .string s]) (by simp[results,Tryz.results223,go_sem,d0,d1]) rfl ?_;refine .ok (a:=⟨n,s⟩) (st:=st2) ?_ ?_ rfl ?_
    ·rw[kind,HH.out];simp only[h4,if_false,HH2.out]
    ·exact a3U (A1 (A1 (A2 _ _ _) hg) hg2) (Nat.le_refl _)
    ·exact hR2.out.new2 (by omega) (h.out.poolLt (Nat.le_refl _))
   ·go_wp2
    refine⟨rfl, .err (er:=er) ?_ rfl rfl (A1 (A1 (A2 _ _ _) hg) hg2)⟩;rw[kind,HH.out];simp only[h4,if_false,hr]
 ·go_wp2
  refine⟨rfl, .err (er:=er) ?_ rfl rfl (A1 (A2 _ _ _) hg)⟩;rw[kind,hr]
set_option maxHeartbeats 400000 in
theorem a4z(w:World)(b:Nat)(f:ByteArray)(pv:Value)(st:St)(h:Hid (Rd w b f pv st)):
 Calls Tryz.prog 150 #[.pointer (some ⟨b,0,none⟩)] w (E7 w b f pv (Y6 f st) b1C):=by
 have hbl:=h.out.lt;go_enter Tryz.func150,Tryz.ntmps150;go_wp2_with (go_at_call 148;refine(a3I _ b f pv st (h.out.keep (A2 _ _ _))).mono ?_)
 intro e w1 he;rcases he.cases with⟨n,st1,v,hr,rfl,rfl,hR,hg⟩|⟨er,hr,rfl,hg⟩
 ·have HH:=A0 hr;clear hr he;go_wp2_with (go_at_call 223;refine(a9 _ b f pv st1 hR).mono ?_)
  intro e w2 he;rcases he.cases with⟨t,st2,v,hr,rfl,rfl,hR2,hg2⟩|⟨er,hr,rfl,hg2⟩
  ·have HH2:=A0 hr;clear hr he;have hB:A3 w2 w.heap.size _ _:=((A3.new w _ _).keep hg (by simp;omega)).keep hg2 (by simp;omega);have d0:=hB.cell 0 _ rfl;have d1:=hB.cell 1 _ rfl;have d2:=hB.cell 2 _ rfl;have e0:=hB.frozen 0;have e1:=hB.frozen 1;have e2:=hB.frozen 2;clear hB;go_wp2
   refine bodyPost_ret (v:= .agg #[.string n, .int .i64 t.kind, .string t.name]) (by simp[results,Tryz.results150,go_sem,d0,d1,d2]) rfl ?_;refine .ok (a:=⟨n,t⟩) (st:=st2) ?_ ?_ rfl ?_
   ·rw[Y6,HH.out];simp only[HH2.out]
   ·exact x9 (A1 (A1 (A2 _ _ _) hg) hg2) (Nat.le_refl _)
   ·exact hR2.out.new3 (by omega) (h.out.poolLt (Nat.le_refl _))
  ·go_wp2
   refine⟨rfl, .err (er:=er) ?_ rfl rfl (A1 (A1 (A2 _ _ _) hg) hg2)⟩;rw[Y6,HH.out];simp only[hr]
 ·go_wp2
  refine⟨rfl, .err (er:=er) ?_ rfl rfl (A1 (A2 _ _ _) hg)⟩;rw[Y6,hr]
set_option maxHeartbeats 400000 in
theorem b3K(w:World)(b:Nat)(f:ByteArray)(pv:Value)(st:St)(h:Hid (Rd w b f pv st)):
 Calls Tryz.prog 228 #[.pointer (some ⟨b,0,none⟩)] w (E7 w b f pv (V3 f st) b1L):=by
 have hbl:=h.out.lt;go_enter Tryz.func228,Tryz.ntmps228;go_wp2_with (go_at_call 146;refine(Z2 _ b f pv st 2 (h.out.keep (A2 _ _ _)) (by omega)).mono ?_)
 intro e w1 he;rcases he.cases with⟨n1,st1,v,hr,rfl,rfl,hR,hg⟩|⟨er,hr,rfl,hg⟩
 ·have HH:=A0 hr;clear hr he;go_wp2_with (go_at_call 146;refine(Z2 w1 b f pv st1 2 hR (by omega)).mono ?_)
  intro e w2 he;rcases he.cases with⟨n2,st2,v,hr,rfl,rfl,hR2,hg2⟩|⟨er,hr,rfl,hg2⟩
  ·have HH2:=A0 hr;clear hr he;go_wp2_with (go_at_call 146;refine(Z2 w2 b f pv st2 2 hR2 (by omega)).mono ?_)
   intro e w3 he;rcases he.cases with⟨n3,st3,v,hr,rfl,rfl,hR3,hg3⟩|⟨er,hr,rfl,hg3⟩
   ·have HH3:=A0 hr;clear hr he;go_wp2_with (go_at_call 148;refine(a3I w3 b f pv st3 hR3).mono ?_)
    intro e w4 he;rcases he.cases with⟨n4,st4,v,hr,rfl,rfl,hR4,hg4⟩|⟨er,hr,rfl,hg4⟩
    ·have HH4:=A0 hr;clear hr he;have hB:A3 w4 w.heap.size _ _:=((((A3.new w _ _).keep hg (by simp;omega)).keep hg2 (by simp;omega)).keep hg3 (by simp;omega)).keep hg4 (by simp;omega);have d0:=hB.cell 0 _ rfl;have d1:=hB.cell 1 _ rfl;have d2:=hB.cell 2 _ rfl;have d3:=hB.cell 3 _ rfl;have e0:=hB.frozen 0;have e1:=hB.frozen 1;have e2:=hB.frozen 2;have e3:=hB.frozen 3;clear hB;go_wp2
     refine bodyPost_ret (v:= .agg #[.int .i64 n1, .int .i64 n2, .int .i64 n3, .string n4]) (by simp[results,Tryz.results228,go_sem,d0,d1,d2,d3]) rfl ?_;refine .ok (a:=⟨n1,n2,n3,n4⟩) (st:=st4) ?_ ?_ rfl ?_
     ·rw[V3,HH.out];simp only[HH2.out,HH3.out,HH4.out]
     ·exact x8 (A1 (A1 (A1 (A1 (A2 _ _ _) hg) hg2) hg3) hg4) (Nat.le_refl _)
     ·exact hR4.out.new4 (by omega) (h.out.poolLt (Nat.le_refl _))
    ·go_wp2
     refine⟨rfl, .err (er:=er) ?_ rfl rfl (A1 (A1 (A1 (A1 (A2 _ _ _) hg) hg2) hg3) hg4)⟩;rw[V3,HH.out];simp only[HH2.out,HH3.out,hr]
   ·go_wp2
    refine⟨rfl, .err (er:=er) ?_ rfl rfl (A1 (A1 (A1 (A2 _ _ _) hg) hg2) hg3)⟩;rw[V3,HH.out];simp only[HH2.out,hr]
  ·go_wp2
   refine⟨rfl, .err (er:=er) ?_ rfl rfl (A1 (A1 (A2 _ _ _) hg) hg2)⟩;rw[V3,HH.out];simp only[hr]
 ·go_wp2
  refine⟨rfl, .err (er:=er) ?_ rfl rfl (A1 (A2 _ _ _) hg)⟩;rw[V3,hr]
def p9(w:World):Prop:=2<w.heap.size∧∀op,op<32→w.cell? ⟨2,op*3,none⟩=some (.int .i64 (L5 op))∧w.cell? ⟨2,op*3+1,none⟩=some (.bool (Z4 op))∧w.cell? ⟨2,op*3+2,none⟩=some (.bool (b7 op))
theorem p9.keep{row:Option Nat}(h:p9 w)(hg:w.grownBy w1 row)(hr:some 2≠row):p9 w1:=by
 have h0:=hg.block 2 h.1 hr;refine⟨Nat.lt_of_lt_of_le h.1 hg.size,fun op ho=> ?_⟩;have:=h.2 op ho;simp only[World.cell?,h0]at this⊢;exact this
theorem b6B(op:Nat):L5 op≤4:=by unfold L5;split;omega;split;omega;split<;>omega
def a0X(f:ByteArray)(k:Nat)(st:St):R Int:=match A9 f k st with| .ok (n,st1)=> .ok (T8 k n,st1)| .error er=> .error er
def b9i(_:World)(v:Value)(a:Int):Prop:=v= .int .i64 a
theorem b2Y(n:Nat)(h:n<256^4):wrap64 (wrap32 n)=T8 4 n:=by
 unfold wrap64 wrap32 T8;split<;>omega
set_option maxHeartbeats 400000 in
theorem b3t(w:World)(b:Nat)(f:ByteArray)(pv:Value)(st:St)(k:Nat)(h:Hid (Rd w b f pv st))(hk:k≤4):
 Calls Tryz.prog 294 #[.pointer (some ⟨b,0,none⟩), .int .i64 k] w
  (E7 w b f pv (a0X f k st) b9i):=by
 go_enter Tryz.func294,Tryz.ntmps294;go_wp2_with (go_at_call 146;refine(Z2 _ b f pv st k h hk).mono ?_)
 intro e w1 he;rcases he.cases with⟨n,st1,v,hr,rfl,rfl,hR,hg⟩|⟨er,hr,rfl,hg⟩
 ·have hq:=(O6 hr).2;have HH:=A0 hr;clear hr he;by_cases h4:k=4
  ·subst h4;go_wp2
   go_ret;refine .ok (a:=T8 4 n) ?_ hg (congrArg _ (b2Y n hq)) hR.out;rw[a0X,HH.out]
  ·go_wp2
   go_ret;refine .ok (a:=(n:Int)) ?_ hg rfl hR.out;rw[a0X,HH.out];simp[T8,h4]
 ·go_wp2
  refine⟨rfl, .err (er:=er) ?_ rfl rfl hg⟩;rw[a0X,hr]
section
variable{f:ByteArray}{st st1 st2 st3 st4:St}{op:Nat}{va:Int}{vc vm:ByteArray}{er:Er}
theorem b9m(h1:A9 f 1 st= .ok (op,st1))(h4:¬32≤op)(h:a0X f (L5 op) st1= .error er):O3 f st= .error er:=by
 rw[a0X]at h;rw[O3,h1];simp only[h4,if_false];split at h
 ·cases h
 ·rename_i h5;simp only[h5];cases h;rfl
theorem a7z(h:a0X f (L5 op) st1= .ok (va,st2)):∃n,A9 f (L5 op) st1= .ok (n,st2)∧va=T8 (L5 op) n:=by
 rw[a0X]at h;split at h
 ·rename_i n s h5;cases h;exact⟨n,h5,rfl⟩
 ·cases h
theorem b9l(h1:A9 f 1 st= .ok (op,st1))(h4:¬32≤op)(h2:a0X f (L5 op) st1= .ok (va,st2))(h:T9 f (Z4 op) st2= .error er):O3 f st= .error er:=by
 obtain⟨n,hn,rfl⟩:=a7z h2;rw[O3,h1];simp only[h4,if_false,hn,h]
theorem b9k(h1:A9 f 1 st= .ok (op,st1))(h4:¬32≤op)(h2:a0X f (L5 op) st1= .ok (va,st2))(h3:T9 f (Z4 op) st2= .ok (vc,st3))(h:T9 f (b7 op) st3= .error er):O3 f st= .error er:=by
 obtain⟨n,hn,rfl⟩:=a7z h2;rw[O3,h1];simp only[h4,if_false,hn,h3,h]
theorem b9j(h1:A9 f 1 st= .ok (op,st1))(h4:¬32≤op)(h2:a0X f (L5 op) st1= .ok (va,st2))(h3:T9 f (Z4 op) st2= .ok (vc,st3))(h:T9 f (b7 op) st3= .ok (vm,st4)):
 O3 f st= .ok (⟨op,va,vc,vm⟩,st4):=by
 obtain⟨n,hn,rfl⟩:=a7z h2;rw[O3,h1];simp only[h4,if_false,hn,h3,h]
end
set_option maxHeartbeats 400000 in
theorem b2h(w:World)(b:Nat)(f:ByteArray)(pv:Value)(st:St)(h:Hid (Rd w b f pv st))(hS:Hid (p9 w))(hb0:2<b):
 Calls Tryz.prog 226 #[.pointer (some ⟨b,0,none⟩)] w (E7 w b f pv (O3 f st) a8d):=by
 obtain⟨-,-,-,c1,-,-,-,-,-⟩:=h.out.cells;have hbl:=h.out.lt;go_enter Tryz.func226,Tryz.ntmps226;go_wp2_with (go_at_call 146;refine(Z2 _ b f pv st 1 (h.out.keep (A2 _ _ _)) (by omega)).mono ?_)
 intro e w1 he;rcases he.cases with⟨op,st1,v,hr,rfl,rfl,hR,hg⟩|⟨er,hr,rfl,hg⟩
 ·have hq:=O6 hr;have HH:=A0 hr;clear hr he c1;obtain⟨rfl,hn⟩:=hq;by_cases h4:32≤op
  ·go_wp2
   refine⟨rfl, .err (er:=(3,st.at_)) ?_ rfl rfl (A1 (A2 _ _ _) hg)⟩;rw[O3,HH.out];simp[h4]
  ·have hS1:=(hS.out.keep (A2 w _ none) (by simp)).keep hg (by simp;omega);obtain⟨s0,s1,s2⟩:=hS1.2 op (by omega);go_wp2
   obtain⟨wa,hwa⟩:∃wa,wa=(w1.alloc (Obj.cells #[Value.int IntKind.i64 (L5 op),Value.bool (Z4 op),Value.bool (b7 op)] 382)).drew:=⟨_,rfl⟩
   have hga:w1.grownBy wa none:=by rw[hwa];exact A1 (A2 _ _ _) (B8 _ _)
   have hRa:=A0 (hR.out.keep hga);have hB:A3 wa w.heap.size _ _:=((A3.new w _ _).keep hg (by simp;omega)).keep hga (by simp);have hA:A3 wa w1.heap.size #[Value.int IntKind.i64 (L5 op),Value.bool (Z4 op),Value.bool (b7 op)] 382:=by rw[hwa];exact(A3.new w1 _ _).keep (B8 _ none) (by simp)
   have hlt1:w.heap.size<w1.heap.size:=by have:=hg.size;simp at this;omega
   have hne1:w.heap.size≠w1.heap.size:=by omega
   have hb1:=hR.out.lt;rw[hwa]at hRa;have hg0:=K2 (A1 (A2 _ _ _) hg) hga;rw[hwa]at hg0 hB hA;clear hga hwa s0 s1 s2 hS1
   go_region_held2 (fun w'=>w'.cell? ⟨w1.heap.size,0,none⟩=some (.int .i64 (L5 op))∧w'.cell? ⟨w1.heap.size,1,none⟩=some (.bool (Z4 op))∧w'.cell? ⟨w1.heap.size,2,none⟩=some (.bool (b7 op))) (go_keep)
    (first
      |(go_at_call 294
        refine E7.bind (b3t _ b f pv _ _ hRa (b6B op)) (fun er w' hr hg2=>⟨rfl, .err (er:=er) (b9m HH.out h4 hr) rfl rfl (A1 hg0 hg2)⟩) ?_;rintro va st2 v w2 HH2 rfl hR2 hg2;have hB2:A3 w2 w.heap.size _ _:=hB.keep hg2 (by simp;omega);have hA2:A3 w2 w1.heap.size _ _:=hA.keep hg2 (by simp;omega);have d0:=hA2.cell 0 _ rfl;have d1:=hA2.cell 1 _ rfl;have d2:=hA2.cell 2 _ rfl;have hg0':=A1 hg0 hg2;clear hB hA hRa hg0 hg2)
      |(go_at_call_of 293 (Z4 op)
        refine E7.bind (a6I w2 b f pv _ _ hR2) (fun er w' hr hg2=>⟨rfl, .err (er:=er) (b9l HH.out h4 HH2.out hr) rfl rfl (A1 hg0' hg2)⟩) ?_;rintro vc st3 v w3 HH3 rfl hR3 hg3;have hB3:A3 w3 w.heap.size _ _:=hB2.keep hg3 (by simp;omega);have hA3:A3 w3 w1.heap.size _ _:=hA2.keep hg3 (by simp;omega);clear d0 d1 d2;have d0:=hA3.cell 0 _ rfl;have d1:=hA3.cell 1 _ rfl;have d2:=hA3.cell 2 _ rfl;have hg1':=A1 hg0' hg3;clear hB2 hA2 hR2 hg0' hg3)
      |(go_at_call_of 293 (b7 op)
        refine E7.bind (a6I w3 b f pv _ _ hR3) (fun er w' hr hg2=>⟨rfl, .err (er:=er) (b9k HH.out h4 HH2.out HH3.out hr) rfl rfl (A1 hg1' hg2)⟩) ?_;rintro vm st4 v w4 HH4 rfl hR4 hg4;have hB4:A3 w4 w.heap.size _ _:=hB3.keep hg4 (by simp;omega);have hA4:A3 w4 w1.heap.size _ _:=hA3.keep hg4 (by simp;omega);clear d0 d1 d2;have d0:=hA4.cell 0 _ rfl;have d1:=hA4.cell 1 _ rfl;have d2:=hA4.cell 2 _ rfl;have g0:=hB4.cell 0 _ rfl;have g1:=hB4.cell 1 _ rfl;have g2:=hB4.cell 2 _ rfl;have g3:=hB4.cell 3 _ rfl;have e0:=hB4.frozen 0;have e1:=hB4.frozen 1;have e2:=hB4.frozen 2;have e3:=hB4.frozen 3;have hg2':=A1 hg1' hg4;clear hB3 hA3 hR3 hg1' hg4))
   go_wp2
   refine bodyPost_ret (v:= .agg #[.int .i64 op, .int .i64 va, .string vc, .string vm]) (by simp[results,Tryz.results226,go_sem,g0,g1,g2,g3]) rfl ?_;exact .ok (a:=⟨op,va,vc,vm⟩) (st:=st4) (b9j HH.out h4 HH2.out HH3.out HH4.out) (x8 hg2' (Nat.le_refl _)) rfl (hR4.out.new4 (by omega) (h.out.poolLt (Nat.le_refl _)))
 ·go_wp2
  refine⟨rfl, .err (er:=er) ?_ rfl rfl (A1 (A2 _ _ _) hg)⟩;rw[O3,hr]
def C1(t:Ty):List Value:=[.int .i64 t.kind, .string t.name]
def G8(t:R9):List Value:=[.string t.name, .int .i64 t.ty.kind, .string t.ty.name]
def L8(t:In):List Value:=[.int .i64 t.op, .int .i64 t.a, .string t.cls, .string t.mem]
def M6(t:Hd):List Value:=[.int .i64 t.from_, .int .i64 t.to, .int .i64 t.at_, .string t.cls]
variable {α:Type}
def E5(base e size:Nat)(enc:α→List Value)(w:World)(v:Value)(xs:List α):Prop:=w.ownsRow base e size v xs.length (xs.flatMap enc)
def o4(p:St→R α)(n:Nat)(st0:St)(k:Nat)(xs:List α)(st:St):Prop:=
 k≤n∧xs.length=k∧D7 p n st0=match D7 p (n-k) st with| .ok (ys,st2)=> .ok (xs++ys,st2)| .error er=> .error er
theorem o4.start(p:St→R α)(n:Nat)(st0:St):o4 p n st0 0 [] st0:=by
 refine⟨Nat.zero_le _,rfl,?_⟩;rw[Nat.sub_zero];cases h:D7 p n st0<;>simp
variable {base e k lim n size sz:Nat}
variable {st st0:St}
theorem o4.step{p:St→R α}{xs:List α}{st1:St}{a:α}(h:o4 p n st0 k xs st)(hk:k<n)(ha:p st= .ok (a,st1)):o4 p n st0 (k+1) (xs++ [a]) st1:=by
 obtain⟨h1,h2,h3⟩:=h;refine⟨hk,by simp[h2],?_⟩;rw[h3,show n-k=(n-(k+1))+1 by omega,D7,ha];dsimp only;generalize D7 p (n-(k+1)) st1=r;cases r<;>simp
theorem o4.fail{p:St→R α}{xs:List α}{er:Er}(h:o4 p n st0 k xs st)(hk:k<n)(ha:p st= .error er):D7 p n st0= .error er:=by
 obtain⟨h1,h2,h3⟩:=h;rw[h3,show n-k=(n-(k+1))+1 by omega,D7,ha]
theorem o4.done{p:St→R α}{xs:List α}(h:o4 p n st0 n xs st):D7 p n st0= .ok (xs,st):=by
 obtain⟨h1,h2,h3⟩:=h;rw[h3,Nat.sub_self,D7];simp
variable {w:World}
variable {v:Value}
variable {cs:List Value}
theorem E9{b:Nat}(h:w.ownsRow base e size v n cs)(hb:b<base):v.ownBlock≠some b:=by
 cases hv:v.ownBlock with
 |none=>simp
 |some g=>have:=(h.lt g hv).1;simp;omega
theorem K9(h:w.ownsRow base e size v n cs){g:Nat}(hg:v.ownBlock=some g):base≤g∧g<w.heap.size:=h.lt g hg
theorem O5(w:World)(cs:List Value)(t:TypeId):∀j u,cs[j]? =some u→(w.alloc (.cells cs.toArray t)).cell? ((⟨w.heap.size,0,none⟩:Addr).add j)=some u:=by
 intro j u hu;have hadd:(⟨w.heap.size,0,none⟩:Addr).add j=⟨w.heap.size,j,none⟩:=by unfold Addr.add;split<;>simp_all
 rw[hadd,(A3.new w cs.toArray t).cell j u (by simpa using hu)]
theorem t5(h:n=k)(hk:k<65536):n+1≤maxLen:=by unfold maxLen;omega
theorem a2s(enc:α→List Value)(xs:List α)(x:α):xs.flatMap enc++enc x=(xs++ [x]).flatMap enc:=by simp[List.flatMap_append]
theorem a4K:(Tryz.prog.info? 98).map (fun i=>(i.zero,i.size,i.bytes))=some (some (.agg #[.int .i64 0, .string ByteArray.empty]),2,24):=by kernel_rfl
theorem a7k:(Tryz.prog.info? 129).map (fun i=>(i.zero,i.size,i.bytes))=some (some (.agg #[.string ByteArray.empty, .int .i64 0, .string ByteArray.empty]),3,40):=by kernel_rfl
theorem b1a:(Tryz.prog.info? 120).map (fun i=>(i.zero,i.size,i.bytes))=some (some (.agg #[.int .i64 0, .int .i64 0, .string ByteArray.empty, .string ByteArray.empty]),4,48):=by kernel_rfl
theorem b1b:(Tryz.prog.info? 202).map (fun i=>(i.zero,i.size,i.bytes))=some (some (.agg #[.int .i64 0, .int .i64 0, .int .i64 0, .string ByteArray.empty]),4,40):=by kernel_rfl
theorem b0Z:(Tryz.prog.info? 102).map (fun i=>(i.zero,i.size,i.bytes))=some (some (.agg #[.string ByteArray.empty, .slice none 0 0, .int .i64 0, .string ByteArray.empty, .int .i64 0, .int .i64 0, .slice none 0 0, .slice none 0 0]),8,128):=by kernel_rfl
theorem a5G:(Tryz.prog.info? 9).map (fun i=>(i.zero,i.size,i.bytes))=some (some (.string ByteArray.empty),1,16):=by kernel_rfl
set_option maxHeartbeats 400000 in
theorem b2L(w:World)(b:Nat)(f:ByteArray)(pv:Value)(st:St)(d:Nat)(h:Hid (Rd w b f pv st))(hd:d≤2)
 (HEL:Hid (∀w1 st1,w.grownBy w1 (some b)→Hid (Rd w1 b f pv st1)→Calls Tryz.prog 150 #[.pointer (some ⟨b,0,none⟩)] w1 (E7 w1 b f pv (Y6 f st1) b1C))):
 Calls Tryz.prog 149 #[.pointer (some ⟨b,0,none⟩), .int .i64 d, .func (.func 150) #[.pointer (some ⟨b,0,none⟩)] #[]] w (E7 w b f pv (D5 f d (Y6 f) st) (E5 w.heap.size 129 3 G8)):=by
 go_enter Tryz.func149,Tryz.ntmps149;go_wp2_with (go_at_call 146;refine E7.bind (Z2 _ b f pv st d h (by omega)) (fun er w' hr hg=>⟨rfl, .err (er:=er) (by rw[D5,hr]) rfl rfl hg⟩) ?_;rintro n st1 v w1 HH rfl hR hg)
 have hn:n<65536:=by
  have:=(O6 HH.out).2;have:256^d≤256^2:=Nat.pow_le_pow_right (by omega) hd;omega
 go_loopw [7,11] (fun l i wr=>∃(k:Nat) (xs:List R9) (st2:St),i= .int .i64 k∧o4 (Y6 f) n st1 k xs st2∧E5 w.heap.size 129 3 G8 wr l xs∧Rd wr b f pv st2∧w.grownBy wr (some b)) (fun _ i _=>n-(intOf i).toNat)
 case atStart=>exact⟨0,[],st1,rfl, .start _ _ _,World.ownsRow_nil _ _ _ _,hR.out,hg⟩
 case round=>
  obtain⟨k,xs,st2,rfl,hmid,hrow,hR2,hg2⟩:=hrel;have HM:=A0 hmid;have HR2:=A0 hR2;have HROW:Hid (E5 w.heap.size 129 3 G8 wr _ xs):=hrow;clear hmid hR2 hrow;by_cases hk:k<n
  ·obtain⟨i,hi,hz0,hz1,hz2⟩:=info_parts a7k;have hne:=E9 HROW.out h.out.lt;have hlen:xs.length<65536:=by have:=HM.out.2.1;omega
   go_wp2_with (first
    |(go_at_call 150;refine E7.bind (HEL.out wr st2 hg2 HR2) (fun er w' hr hg3=>⟨rfl, .err (er:=er) (by rw[D5,HH.out];exact HM.out.fail hk hr) rfl rfl (A1 hg2 hg3)⟩) ?_;rintro x st3 v w3 H3 rfl hR3 hg3;dsimp only)
    |(at_builtin;go_loud (refine wpList_append_own _ rfl _ _ 41 rfl w.heap.size 129 i _ 3 40 Tryz.underlying41 hi hz0 hz1 hz2 rfl (by decide) _ xs.length (xs.flatMap G8) rfl ((World.ownsRow.kept HROW.out hg3 (.inr hne)).alloc _) ⟨w3.heap.size,0,none⟩ 1 1 (G8 x) rfl rfl (O5 w3 (G8 x) _) (by simp[G8,Value.oneCell']) (t5 rfl hlen) (by omega) (by have:=hg2.size;have:=hg3.size;simp;omega) ?_)))
   intro v' w4 hown hgrow _;have hR4:=hR3.out.grow (A2 _ _ _) hgrow (by simpa using hne) (fun g hg=>by have:=(K9 HROW.out hg).1;have:=h.out.poolLt this;exact this);have hg4:=C7 (A1 (A1 hg2 hg3) (A2 _ _ _)) hgrow (fun g hg=> .inl (K9 HROW.out hg).1);have HM4:=A0 (HM.out.step hk H3.out)
   have HO4:Hid (E5 w.heap.size 129 3 G8 w4 v' (xs++ [x])):=by
    unfold E5;rw[List.length_append,←a2s];exact hown
   clear hown hgrow;go_wp2
   go_roundw
   case rel=>exact⟨k+1,xs++ [x],st3,by go_num,HM4.out,HO4.out,hR4,hg4⟩
   case measure=>simp[intOf];omega
  ·go_wp2
   go_ret;have hk':k=n:=by have:=HM.out.1;omega
   subst hk';exact .ok (a:=xs) (by rw[D5,HH.out];exact HM.out.done) hg2 HROW.out HR2.out
set_option maxHeartbeats 400000 in
theorem b3z(w:World)(b:Nat)(f:ByteArray)(pv:Value)(st:St)(d:Nat)(h:Hid (Rd w b f pv st))(hd:d≤2)
 (HEL:Hid (∀w1 st1,w.grownBy w1 (some b)→Hid (Rd w1 b f pv st1)→Calls Tryz.prog 223 #[.pointer (some ⟨b,0,none⟩)] w1 (E7 w1 b f pv (kind f st1) a8c))):
 Calls Tryz.prog 224 #[.pointer (some ⟨b,0,none⟩), .int .i64 d, .func (.func 223) #[.pointer (some ⟨b,0,none⟩)] #[]] w (E7 w b f pv (D5 f d (kind f) st) (E5 w.heap.size 98 2 C1)):=by
 go_enter Tryz.func224,Tryz.ntmps224;go_wp2_with (go_at_call 146;refine E7.bind (Z2 _ b f pv st d h (by omega)) (fun er w' hr hg=>⟨rfl, .err (er:=er) (by rw[D5,hr]) rfl rfl hg⟩) ?_;rintro n st1 v w1 HH rfl hR hg)
 have hn:n<65536:=by
  have:=(O6 HH.out).2;have:256^d≤256^2:=Nat.pow_le_pow_right (by omega) hd;omega
 go_loopw [7,11] (fun l i wr=>∃(k:Nat) (xs:List Ty) (st2:St),i= .int .i64 k∧o4 (kind f) n st1 k xs st2∧E5 w.heap.size 98 2 C1 wr l xs∧Rd wr b f pv st2∧w.grownBy wr (some b)) (fun _ i _=>n-(intOf i).toNat)
 case atStart=>exact⟨0,[],st1,rfl, .start _ _ _,World.ownsRow_nil _ _ _ _,hR.out,hg⟩
 case round=>
  obtain⟨k,xs,st2,rfl,hmid,hrow,hR2,hg2⟩:=hrel;have HM:=A0 hmid;have HR2:=A0 hR2;have HROW:Hid (E5 w.heap.size 98 2 C1 wr _ xs):=hrow;clear hmid hR2 hrow;by_cases hk:k<n
  ·obtain⟨i,hi,hz0,hz1,hz2⟩:=info_parts a4K;have hne:=E9 HROW.out h.out.lt;have hlen:xs.length<65536:=by have:=HM.out.2.1;omega
   go_wp2_with (first
    |(go_at_call 223;refine E7.bind (HEL.out wr st2 hg2 HR2) (fun er w' hr hg3=>⟨rfl, .err (er:=er) (by rw[D5,HH.out];exact HM.out.fail hk hr) rfl rfl (A1 hg2 hg3)⟩) ?_;rintro x st3 v w3 H3 rfl hR3 hg3;dsimp only)
    |(at_builtin;go_loud (refine wpList_append_own _ rfl _ _ 96 rfl w.heap.size 98 i _ 2 24 Tryz.underlying96 hi hz0 hz1 hz2 rfl (by decide) _ xs.length (xs.flatMap C1) rfl ((World.ownsRow.kept HROW.out hg3 (.inr hne)).alloc _) ⟨w3.heap.size,0,none⟩ 1 1 (C1 x) rfl rfl (O5 w3 (C1 x) _) (by simp[C1,Value.oneCell']) (t5 rfl hlen) (by omega) (by have:=hg2.size;have:=hg3.size;simp;omega) ?_)))
   intro v' w4 hown hgrow _;have hR4:=hR3.out.grow (A2 _ _ _) hgrow (by simpa using hne) (fun g hg=>by have:=(K9 HROW.out hg).1;have:=h.out.poolLt this;exact this);have hg4:=C7 (A1 (A1 hg2 hg3) (A2 _ _ _)) hgrow (fun g hg=> .inl (K9 HROW.out hg).1);have HM4:=A0 (HM.out.step hk H3.out)
   have HO4:Hid (E5 w.heap.size 98 2 C1 w4 v' (xs++ [x])):=by
    unfold E5;rw[List.length_append,←a2s];exact hown
   clear hown hgrow;go_wp2
   go_roundw
   case rel=>exact⟨k+1,xs++ [x],st3,by go_num,HM4.out,HO4.out,hR4,hg4⟩
   case measure=>simp[intOf];omega
  ·go_wp2
   go_ret;have hk':k=n:=by have:=HM.out.1;omega
   subst hk';exact .ok (a:=xs) (by rw[D5,HH.out];exact HM.out.done) hg2 HROW.out HR2.out
set_option maxHeartbeats 400000 in
theorem b3B(w:World)(b:Nat)(f:ByteArray)(pv:Value)(st:St)(d:Nat)(h:Hid (Rd w b f pv st))(hd:d≤2)
 (HEL:Hid (∀w1 st1,w.grownBy w1 (some b)→Hid (Rd w1 b f pv st1)→Calls Tryz.prog 226 #[.pointer (some ⟨b,0,none⟩)] w1 (E7 w1 b f pv (O3 f st1) a8d))):
 Calls Tryz.prog 225 #[.pointer (some ⟨b,0,none⟩), .int .i64 d, .func (.func 226) #[.pointer (some ⟨b,0,none⟩)] #[]] w (E7 w b f pv (D5 f d (O3 f) st) (E5 w.heap.size 120 4 L8)):=by
 go_enter Tryz.func225,Tryz.ntmps225;go_wp2_with (go_at_call 146;refine E7.bind (Z2 _ b f pv st d h (by omega)) (fun er w' hr hg=>⟨rfl, .err (er:=er) (by rw[D5,hr]) rfl rfl hg⟩) ?_;rintro n st1 v w1 HH rfl hR hg)
 have hn:n<65536:=by
  have:=(O6 HH.out).2;have:256^d≤256^2:=Nat.pow_le_pow_right (by omega) hd;omega
 go_loopw [7,11] (fun l i wr=>∃(k:Nat) (xs:List In) (st2:St),i= .int .i64 k∧o4 (O3 f) n st1 k xs st2∧E5 w.heap.size 120 4 L8 wr l xs∧Rd wr b f pv st2∧w.grownBy wr (some b)) (fun _ i _=>n-(intOf i).toNat)
 case atStart=>exact⟨0,[],st1,rfl, .start _ _ _,World.ownsRow_nil _ _ _ _,hR.out,hg⟩
 case round=>
  obtain⟨k,xs,st2,rfl,hmid,hrow,hR2,hg2⟩:=hrel;have HM:=A0 hmid;have HR2:=A0 hR2;have HROW:Hid (E5 w.heap.size 120 4 L8 wr _ xs):=hrow;clear hmid hR2 hrow;by_cases hk:k<n
  ·obtain⟨i,hi,hz0,hz1,hz2⟩:=info_parts b1a;have hne:=E9 HROW.out h.out.lt;have hlen:xs.length<65536:=by have:=HM.out.2.1;omega
   go_wp2_with (first
    |(go_at_call 226;refine E7.bind (HEL.out wr st2 hg2 HR2) (fun er w' hr hg3=>⟨rfl, .err (er:=er) (by rw[D5,HH.out];exact HM.out.fail hk hr) rfl rfl (A1 hg2 hg3)⟩) ?_;rintro x st3 v w3 H3 rfl hR3 hg3;dsimp only)
    |(at_builtin;go_loud (refine wpList_append_own _ rfl _ _ 99 rfl w.heap.size 120 i _ 4 48 Tryz.underlying99 hi hz0 hz1 hz2 rfl (by decide) _ xs.length (xs.flatMap L8) rfl ((World.ownsRow.kept HROW.out hg3 (.inr hne)).alloc _) ⟨w3.heap.size,0,none⟩ 1 1 (L8 x) rfl rfl (O5 w3 (L8 x) _) (by simp[L8,Value.oneCell']) (t5 rfl hlen) (by omega) (by have:=hg2.size;have:=hg3.size;simp;omega) ?_)))
   intro v' w4 hown hgrow _;have hR4:=hR3.out.grow (A2 _ _ _) hgrow (by simpa using hne) (fun g hg=>by have:=(K9 HROW.out hg).1;have:=h.out.poolLt this;exact this);have hg4:=C7 (A1 (A1 hg2 hg3) (A2 _ _ _)) hgrow (fun g hg=> .inl (K9 HROW.out hg).1);have HM4:=A0 (HM.out.step hk H3.out)
   have HO4:Hid (E5 w.heap.size 120 4 L8 w4 v' (xs++ [x])):=by
    unfold E5;rw[List.length_append,←a2s];exact hown
   clear hown hgrow;go_wp2
   go_roundw
   case rel=>exact⟨k+1,xs++ [x],st3,by go_num,HM4.out,HO4.out,hR4,hg4⟩
   case measure=>simp[intOf];omega
  ·go_wp2
   go_ret;have hk':k=n:=by have:=HM.out.1;omega
   subst hk';exact .ok (a:=xs) (by rw[D5,HH.out];exact HM.out.done) hg2 HROW.out HR2.out
set_option maxHeartbeats 400000 in
theorem b3C(w:World)(b:Nat)(f:ByteArray)(pv:Value)(st:St)(d:Nat)(h:Hid (Rd w b f pv st))(hd:d≤2)
 (HEL:Hid (∀w1 st1,w.grownBy w1 (some b)→Hid (Rd w1 b f pv st1)→Calls Tryz.prog 228 #[.pointer (some ⟨b,0,none⟩)] w1 (E7 w1 b f pv (V3 f st1) b1L))):
 Calls Tryz.prog 227 #[.pointer (some ⟨b,0,none⟩), .int .i64 d, .func (.func 228) #[.pointer (some ⟨b,0,none⟩)] #[]] w (E7 w b f pv (D5 f d (V3 f) st) (E5 w.heap.size 202 4 M6)):=by
 go_enter Tryz.func227,Tryz.ntmps227;go_wp2_with (go_at_call 146;refine E7.bind (Z2 _ b f pv st d h (by omega)) (fun er w' hr hg=>⟨rfl, .err (er:=er) (by rw[D5,hr]) rfl rfl hg⟩) ?_;rintro n st1 v w1 HH rfl hR hg)
 have hn:n<65536:=by
  have:=(O6 HH.out).2;have:256^d≤256^2:=Nat.pow_le_pow_right (by omega) hd;omega
 go_loopw [7,11] (fun l i wr=>∃(k:Nat) (xs:List Hd) (st2:St),i= .int .i64 k∧o4 (V3 f) n st1 k xs st2∧E5 w.heap.size 202 4 M6 wr l xs∧Rd wr b f pv st2∧w.grownBy wr (some b)) (fun _ i _=>n-(intOf i).toNat)
 case atStart=>exact⟨0,[],st1,rfl, .start _ _ _,World.ownsRow_nil _ _ _ _,hR.out,hg⟩
 case round=>
  obtain⟨k,xs,st2,rfl,hmid,hrow,hR2,hg2⟩:=hrel;have HM:=A0 hmid;have HR2:=A0 hR2;have HROW:Hid (E5 w.heap.size 202 4 M6 wr _ xs):=hrow;clear hmid hR2 hrow;by_cases hk:k<n
  ·obtain⟨i,hi,hz0,hz1,hz2⟩:=info_parts b1b;have hne:=E9 HROW.out h.out.lt;have hlen:xs.length<65536:=by have:=HM.out.2.1;omega
   go_wp2_with (first
    |(go_at_call 228;refine E7.bind (HEL.out wr st2 hg2 HR2) (fun er w' hr hg3=>⟨rfl, .err (er:=er) (by rw[D5,HH.out];exact HM.out.fail hk hr) rfl rfl (A1 hg2 hg3)⟩) ?_;rintro x st3 v w3 H3 rfl hR3 hg3;dsimp only)
    |(at_builtin;go_loud (refine wpList_append_own _ rfl _ _ 100 rfl w.heap.size 202 i _ 4 40 Tryz.underlying100 hi hz0 hz1 hz2 rfl (by decide) _ xs.length (xs.flatMap M6) rfl ((World.ownsRow.kept HROW.out hg3 (.inr hne)).alloc _) ⟨w3.heap.size,0,none⟩ 1 1 (M6 x) rfl rfl (O5 w3 (M6 x) _) (by simp[M6,Value.oneCell']) (t5 rfl hlen) (by omega) (by have:=hg2.size;have:=hg3.size;simp;omega) ?_)))
   intro v' w4 hown hgrow _;have hR4:=hR3.out.grow (A2 _ _ _) hgrow (by simpa using hne) (fun g hg=>by have:=(K9 HROW.out hg).1;have:=h.out.poolLt this;exact this);have hg4:=C7 (A1 (A1 hg2 hg3) (A2 _ _ _)) hgrow (fun g hg=> .inl (K9 HROW.out hg).1);have HM4:=A0 (HM.out.step hk H3.out)
   have HO4:Hid (E5 w.heap.size 202 4 M6 w4 v' (xs++ [x])):=by
    unfold E5;rw[List.length_append,←a2s];exact hown
   clear hown hgrow;go_wp2
   go_roundw
   case rel=>exact⟨k+1,xs++ [x],st3,by go_num,HM4.out,HO4.out,hR4,hg4⟩
   case measure=>simp[intOf];omega
  ·go_wp2
   go_ret;have hk':k=n:=by have:=HM.out.1;omega
   subst hk';exact .ok (a:=xs) (by rw[D5,HH.out];exact HM.out.done) hg2 HROW.out HR2.out
theorem S0{base':Nat}(h:w.ownsRow base e size v n cs)(hb:base'≤base):w.ownsRow base' e size v n cs:=
 ⟨h.1,h.2.imp id (fun⟨g,cap,cur,h1,h2,h3⟩=>⟨g,cap,cur,h1,Nat.le_trans hb h2,h3⟩)⟩
theorem F1(h:w.ownsRow base e size v n cs):∃a c,v= .slice a n c:=by
 rcases h.2 with⟨rfl,rfl⟩|⟨g,cap,cur,rfl,_⟩
 ·exact⟨_,_,rfl⟩
 ·exact⟨_,_,rfl⟩
theorem a0R{w:World}{g:Nat}{i0 i1 i2 i3 i4 i5 i6 i7:Nat}{x0 x1 x2 x3 x4 x5 x6 x7:Value}:
 w.grownBy ((((((((w.setCell ⟨g,i0,none⟩ x0).setCell ⟨g,i1,none⟩ x1).setCell ⟨g,i2,none⟩ x2).setCell ⟨g,i3,none⟩ x3).setCell ⟨g,i4,none⟩ x4).setCell ⟨g,i5,none⟩ x5).setCell ⟨g,i6,none⟩ x6).setCell ⟨g,i7,none⟩ x7) (some g):=
 A1 (A1 (A1 (A1 (A1 (A1 (A1 (A6 _ ⟨g,i0,none⟩ _) (A6 _ ⟨g,i1,none⟩ _)) (A6 _ ⟨g,i2,none⟩ _)) (A6 _ ⟨g,i3,none⟩ _)) (A6 _ ⟨g,i4,none⟩ _)) (A6 _ ⟨g,i5,none⟩ _)) (A6 _ ⟨g,i6,none⟩ _)) (A6 _ ⟨g,i7,none⟩ _)
def a0j(P:Nat→Prop)(base:Nat)(w:World)(c:List Value)(m:Me):Prop:=
 ∃pv cv hv,c=[.string m.name,pv, .int .i64 m.ret.kind, .string m.ret.name, .int .i64 m.stack, .int .i64 m.locals,cv,hv]∧
  E5 base 98 2 C1 w pv m.params∧E5 base 120 4 L8 w cv m.code∧E5 base 202 4 M6 w hv m.handlers∧
  (∀g,pv.ownBlock=some g∨cv.ownBlock=some g∨hv.ownBlock=some g→P g)
def b1K(base:Nat)(w:World)(v:Value)(m:Me):Prop:=∃c,v= .agg (List.toArray c)∧a0j (fun _=>True) base w c m
set_option maxHeartbeats 1000000 in
theorem b4y(w:World)(b:Nat)(f:ByteArray)(pv:Value)(st:St)(h:Hid (Rd w b f pv st))(hS:Hid (p9 w))(hb0:2<b):
 Calls Tryz.prog 152 #[.pointer (some ⟨b,0,none⟩)] w (E7 w b f pv (meth f st) (b1K w.heap.size)):=by
 have hbl:=h.out.lt;have hmf:∀(fn:Fn) (first cap:Array Value) (w:World),(Instr.makeFunc fn first cap).run Tryz.prog w= .ok (.func fn first cap) w:=fun _ _ _ _=>rfl
 go_enter Tryz.func152,Tryz.ntmps152
 go_wp2_with (first
  |(go_at_call 148
    refine E7.bind (a3I _ b f pv st (h.out.keep (A2 _ _ _))) (fun er w' hr hg=>⟨rfl, .err (er:=er) (by simp only[meth,hr]) rfl rfl (A1 (A2 _ _ _) hg)⟩) ?_;rintro n st1 v w1 H1 rfl hR1 hg1';have hg1:=A1 (A2 w _ (some b)) hg1';have hB1:=(A3.new w _ _).keep hg1' (by simp;omega);have s1:w.heap.size<w1.heap.size:=by have:=hB1.lt;omega
    clear hg1';dsimp only)
  |(go_at_call 224
    refine E7.bind (b3z w1 b f pv st1 1 hR1 (by omega) (fun wx sx hgx hx=>a9 wx b f pv sx hx)) (fun er w' hr hg=>⟨rfl, .err (er:=er) (by simp only[meth,H1.out,hr]) rfl rfl (A1 hg1 hg)⟩) ?_;rintro ps st2 v2 w2 H2 hv2 hR2 hg2';have hg2:=A1 hg1 hg2';have hB2:=hB1.keep hg2' (by simp;omega);have s2:=hg2'.size;obtain⟨a2,k2,rfl⟩:=F1 hv2;have hL2:=A0 hv2;clear hv2 hg2' hB1;dsimp only)
  |(go_at_call 223
    refine E7.bind (a9 w2 b f pv st2 hR2) (fun er w' hr hg=>⟨rfl, .err (er:=er) (by simp only[meth,H1.out,H2.out,hr]) rfl rfl (A1 hg2 hg)⟩) ?_;rintro rt st3 v w3 H3 rfl hR3 hg3';have hg3:=A1 hg2 hg3';have hB3:=hB2.keep hg3' (by simp;omega);have s3:=hg3'.size;have hL3:Hid (E5 w1.heap.size 98 2 C1 w3 (.slice a2 ps.length k2) ps):=World.ownsRow.kept hL2.out hg3' (.inr (E9 hL2.out hR1.out.lt));clear hg3' hB2 hL2;dsimp only)
  |(go_at_call 146
    refine E7.bind (Z2 w4 b f pv st4 1 hR4 (by omega)) (fun er w' hr hg=>⟨rfl, .err (er:=er) (by simp only[meth,H1.out,H2.out,H3.out,H4.out,hr]) rfl rfl (A1 hg4 hg)⟩) ?_;rintro lo st5 v w5 H5 rfl hR5 hg5';have hg5:=A1 hg4 hg5';have hB5:=hB4.keep hg5' (by simp;omega);have s5:=hg5'.size;have hL5:Hid (E5 w1.heap.size 98 2 C1 w5 (.slice a2 ps.length k2) ps):=World.ownsRow.kept hL4.out hg5' (.inr (E9 hL4.out hR1.out.lt));clear hg5' hB4 hL4;dsimp only)
  |(go_at_call 146
    refine E7.bind (Z2 w3 b f pv st3 1 hR3 (by omega)) (fun er w' hr hg=>⟨rfl, .err (er:=er) (by simp only[meth,H1.out,H2.out,H3.out,hr]) rfl rfl (A1 hg3 hg)⟩) ?_;rintro so st4 v w4 H4 rfl hR4 hg4';have hg4:=A1 hg3 hg4';have hB4:=hB3.keep hg4' (by simp;omega);have s4:=hg4'.size;have hL4:Hid (E5 w1.heap.size 98 2 C1 w4 (.slice a2 ps.length k2) ps):=World.ownsRow.kept hL3.out hg4' (.inr (E9 hL3.out hR1.out.lt));clear hg4' hB3 hL3;dsimp only)
  |(go_at_call 225
    refine E7.bind (b3B w5 b f pv st5 2 hR5 (by omega) (fun wx sx hgx hx=>b2h wx b f pv sx hx (hS.out.keep (A1 hg5 hgx) (by simp;omega)) hb0)) (fun er w' hr hg=>⟨rfl, .err (er:=er) (by simp only[meth,H1.out,H2.out,H3.out,H4.out,H5.out,hr]) rfl rfl (A1 hg5 hg)⟩) ?_;rintro is st6 v6 w6 H6 hv6 hR6 hg6';have hg6:=A1 hg5 hg6';have hB6:=hB5.keep hg6' (by simp;omega);have s6:=hg6'.size;obtain⟨a6,k6,rfl⟩:=F1 hv6;have hL6:Hid (E5 w1.heap.size 98 2 C1 w6 (.slice a2 ps.length k2) ps):=World.ownsRow.kept hL5.out hg6' (.inr (E9 hL5.out hR1.out.lt));have hI6:=A0 hv6;clear hv6 hg6' hB5 hL5;dsimp only)
  |(go_at_call 227
    refine E7.bind (b3C w6 b f pv st6 1 hR6 (by omega) (fun wx sx hgx hx=>b3K wx b f pv sx hx)) (fun er w' hr hg=>⟨rfl, .err (er:=er) (by simp only[meth,H1.out,H2.out,H3.out,H4.out,H5.out,H6.out,hr]) rfl rfl (A1 hg6 hg)⟩) ?_;rintro hs st7 v7 w7 H7 hv7 hR7 hg7';have hg7:=A1 hg6 hg7';have hB7:=hB6.keep hg7' (by simp;omega);have s7:=hg7'.size;obtain⟨a7,k7,rfl⟩:=F1 hv7;have hL7:Hid (E5 w1.heap.size 98 2 C1 w7 (.slice a2 ps.length k2) ps):=World.ownsRow.kept hL6.out hg7' (.inr (E9 hL6.out hR1.out.lt));have hI7:Hid (E5 w5.heap.size 120 4 L8 w7 (.slice a6 is.length k6) is):=World.ownsRow.kept hI6.out hg7' (.inr (E9 hI6.out hR5.out.lt));have hH7:=A0 hv7;have c0:=hB7.cell 0 _ rfl;have c1:=hB7.cell 1 _ rfl;have c2:=hB7.cell 2 _ rfl;have c3:=hB7.cell 3 _ rfl;have c4:=hB7.cell 4 _ rfl;have c5:=hB7.cell 5 _ rfl;have c6:=hB7.cell 6 _ rfl;have c7:=hB7.cell 7 _ rfl;have z0:=hB7.frozen 0;have z1:=hB7.frozen 1;have z2:=hB7.frozen 2;have z3:=hB7.frozen 3;have z4:=hB7.frozen 4;have z5:=hB7.frozen 5;have z6:=hB7.frozen 6;have z7:=hB7.frozen 7;clear hv7 hg7' hB6 hL6 hI6 hB7;dsimp only))
 refine bodyPost_ret (v:= .agg #[.string n, .slice a2 ps.length k2, .int .i64 rt.kind, .string rt.name, .int .i64 so, .int .i64 lo, .slice a6 is.length k6, .slice a7 hs.length k7]) (by simp[results,Tryz.results152,go_sem,c0,c1,c2,c3,c4,c5,c6,c7]) rfl ?_;refine .ok (a:=⟨n,ps,rt,so,lo,is,hs⟩) (st:=st7) ?_ ?_ ?_ ?_
 ·simp only[meth,H1.out,H2.out,H3.out,H4.out,H5.out,H6.out,H7.out]
 ·exact C7 hg7 (a0R (g:=w.heap.size)) (fun k e=> .inl (by cases e;exact Nat.le_refl _))
 ·refine⟨_,rfl,_,_,_,rfl,?_,?_,?_,fun _ _=>trivial⟩
  ·exact S0 (World.ownsRow.kept hL7.out (a0R (g:=w.heap.size)) (.inr (E9 hL7.out (by omega)))) (by omega)
  ·exact S0 (World.ownsRow.kept hI7.out (a0R (g:=w.heap.size)) (.inr (E9 hI7.out (by omega)))) (by omega)
  ·exact S0 (World.ownsRow.kept hH7.out (a0R (g:=w.heap.size)) (.inr (E9 hH7.out (by omega)))) (by omega)
 ·exact hR7.out.keepAt (a0R (g:=w.heap.size)) (by omega) (h.out.poolLt (Nat.le_refl _))
def C0(w:World)(lim sz:Nat)(enc:α→List Value)(a:Option Addr)(xs:List α):Prop:=
 ∀j (hj:j<xs.length),∃p:Addr,a=some p∧p.block<lim∧∀r u,(enc xs[j])[r]? =some u→w.cell? (p.add (j*sz+r))=some u
theorem a1l(p:Addr)(k:Nat):(p.add k).block=p.block:=by
 unfold Addr.add;split<;>rfl
theorem j6(p:Addr)(a b:Nat):(⟨(p.add a).block,(p.add a).off+(b+1),none⟩:Addr)=p.add (a+(b+1)):=by
 unfold Addr.add;by_cases h:a=0
 ·subst h;simp
 ·simp[h];omega
variable {a:Option Addr}
theorem C0.keep{w':World}{enc:α→List Value}{xs:List α}(h:C0 w lim sz enc a xs)(hg:w.grownBy w' none):C0 w' lim sz enc a xs:=by
 intro j hj;obtain⟨p,h1,h2,h3⟩:=h j hj;exact⟨p,h1,h2,fun r u hu=>hg.cell (h3 r u hu) (by simp)⟩
theorem a0z(enc:α→List Value)(sz:Nat)(hs:∀x,(enc x).length=sz)(xs:List α)(j:Nat)(hj:j<xs.length)(r:Nat)(hr:r<sz):(xs.flatMap enc)[j*sz+r]? =(enc xs[j])[r]? :=by
 induction xs generalizing j with
 |nil=>cases hj
 |cons x l ih=>
  rw[List.flatMap_cons];cases j with
  |zero=>
   rw[Nat.zero_mul,Nat.zero_add,List.getElem?_append_left (by rw[hs];exact hr)];rfl
  |succ j=>
   rw[List.getElem?_append_right (by rw[hs,Nat.succ_mul];omega),hs,show(j+1)*sz+r-sz=j*sz+r by rw[Nat.succ_mul];omega];exact ih j (by simpa using hj)
theorem a0k{enc:α→List Value}{xs:List α}(hs:∀x,(enc x).length=sz)(h:w.ownsRow base e sz (.slice a n k) xs.length (xs.flatMap enc)):C0 w w.heap.size sz enc a xs:=by
 intro j hj;obtain⟨g,cap,hv,-,hg⟩:=h.form (by omega);injection hv with hv _ _
 subst hv;refine⟨⟨g,0,none⟩,rfl,hg,fun r u hu=> ?_⟩
 have hr:r<sz:=by
  have:=(List.getElem?_eq_some_iff.1 hu).1;rw[hs]at this;exact this
 exact h.cells (g:=g) rfl _ u (by rw[a0z enc sz hs xs j hj r hr];exact hu)
theorem C0.upto{lim':Nat}{enc:α→List Value}{xs:List α}(h:C0 w lim sz enc a xs)(hl:lim≤lim'):C0 w lim' sz enc a xs:=fun j hj=>by
 obtain⟨p,h1,h2,h3⟩:=h j hj;exact⟨p,h1,Nat.lt_of_lt_of_le h2 hl,h3⟩
theorem a3R:(Tryz.prog.info? 44).map (fun i=>(i.zero,i.size,i.bytes))=some (some (.agg #[.string ByteArray.empty, .string ByteArray.empty, .slice none 0 0, .slice none 0 0]),4,80):=by kernel_rfl
namespace Kx
def K4(L:List Cl)(q:Nat→Qs)(i:Nat):List Value:=F8 (cl L i) (q i)
theorem a4F(L:List Cl)(q:Nat→Qs)(i:Nat):(K4 L q i).length=4:=rfl
variable {L:List Cl}
variable {k:Nat}
variable {n:ByteArray}
theorem b4V{i:Nat}(h:C5 L n=some i):D8 L (k+1) n=i::D8 L k (cl L i).super:=by
 rw[D8,h]
theorem b6r(h:C5 L n=none):D8 L k n=[]:=by
 cases k with
 |zero=>rfl
 |succ k=>rw[D8,h]
theorem a6Q{a:Option Addr}{n m:Nat}(h:n=m):Ending.returned (.slice a n k)= .returned (.slice a m k):=by rw[h]
set_option maxRecDepth 100000 in
set_option maxHeartbeats 1000000 in
theorem a6P(w:World)(lim wb:Nat)(L:List Cl)(p:Addr)(cap:Nat)(q:Nat→Qs)(h:Hid (Wo w lim wb L p cap q))(s:ByteArray):
 Calls Tryz.prog 130 #[.pointer (some ⟨wb,0,none⟩), .string s] w fun e w'=>∃a k,e= .returned (.slice a (up L s).length k)∧C0 w' w'.heap.size 4 (K4 L q) a (up L s)∧w.grownBy w' none:=by
 obtain⟨n,hn⟩:∃n,n=L.length:=⟨_,rfl⟩
 have hsm:=h.out.small;have c0:=h.out.c0;rw[←hn]at c0 hsm;have HN:=A0 hn;clear hn;go_enter Tryz.func130,Tryz.ntmps130;go_wp2_with (go_at_call 121;refine(a1M _ lim wb L p cap q h s).mono ?_;rintro e w' ⟨rfl,rfl⟩)
 go_loopw [5,6] (fun o f wr=>∃(pre:List Nat) (nm:ByteArray),pre.length≤n∧f= .int .i64 (l4 L nm)∧Hid (up L s=pre++D8 L (n-pre.length) nm)∧Hid (wr.ownsRow w.heap.size 44 4 o pre.length (pre.flatMap (K4 L q)))∧Hid (w.grownBy wr none)) (fun o _ _=>n-(match o with| .slice _ k _=>k|_=>0))
 case atStart=>exact⟨[],s,by simp,rfl,by unfold Hid up;rw[HN.out];simp,World.ownsRow_nil _ _ _ _,G1 _ _⟩
 case round=>
  obtain⟨pre,nm,hpl,rfl,hup,hrow,hg⟩:=hrel;obtain⟨a,k,rfl⟩:=F1 hrow.out;have c0r:=hg.out.cell c0 (by simp);cases hf:C5 L nm with
  |none=>
   rw[b6c hf];have HS:Hid (up L s=pre):=by unfold Hid;rw[hup.out,b6r hf,List.append_nil]
   clear hf;go_wp2
   go_ret;exact⟨a,k,a6Q (by rw[HS.out]),by rw[HS.out];exact a0k (a4F L q) hrow.out,hg.out⟩
  |some i=>
   rw[b6b hf];by_cases hlt:pre.length<n
   ·have hi:i<n:=by rw[HN.out];exact(L4 hf).1
    have hc:D8 L (n-pre.length) nm=i::D8 L (n-(pre.length+1)) (cl L i).super:=by
     rw[show n-pre.length=(n-(pre.length+1))+1 from by omega];exact b4V hf
    have HUP:Hid (up L s=(pre++ [i])++D8 L (n-(pre++ [i]).length) (cl L i).super):=by unfold Hid;rw[hup.out,hc];simp
    have hpc:=(h.out.keep hg.out).row i (by rw[←HN.out];exact hi);obtain⟨ci,hci⟩:∃ci,ci=cl L i:=⟨_,rfl⟩
    rw[←hci]at hpc;have g0:wr.cell? (p.add (i*4))=some (.string ci.name):=hpc 0 _ rfl;have g1:wr.cell? ⟨(p.add (i*4)).block,(p.add (i*4)).off+1,none⟩=some (.string ci.super):=by rw[B9 p (i*4) 0];exact hpc 1 _ rfl
    have g2:wr.cell? ⟨(p.add (i*4)).block,(p.add (i*4)).off+2,none⟩=some (.slice (q i).fa ci.fields.length (q i).fk):=by rw[B9 p (i*4) 1];exact hpc 2 _ rfl
    have g3:wr.cell? ⟨(p.add (i*4)).block,(p.add (i*4)).off+3,none⟩=some (.slice (q i).ma ci.methods.length (q i).mc):=by rw[B9 p (i*4) 2];exact hpc 3 _ rfl
    have HCI:=A0 hci;clear hci hpc hc hf hup;obtain⟨inf,hi0,hz0,hz1,hz2⟩:=info_parts a3R;have hll:pre.length<65536:=by omega
    go_wp2_with (first
     |(at_builtin;go_loud (refine wpList_append_own _ rfl _ _ 90 rfl w.heap.size 44 inf _ 4 80 Tryz.underlying90 hi0 hz0 hz1 hz2 rfl (by decide) _ pre.length (pre.flatMap (K4 L q)) rfl (World.ownsRow.alloc hrow.out _) ⟨wr.heap.size,0,none⟩ 1 1 (F8 ci (q i)) rfl rfl (O5 wr _ _) (by simp[F8,Value.oneCell']) (t5 rfl hll) (by omega) (by have:=hg.out.size;simp;omega) ?_
                           intro v' w4 hown hgrow _;obtain⟨a',k',rfl⟩:=F1 hown;have HG4:=A0 (C7 (A1 hg.out (A2 _ (.cells (F8 ci (q i)).toArray 44) _)) hgrow (fun g e=> .inl (K9 hrow.out e).1));have HO4:=A0 hown;have c04:=HG4.out.cell c0 (by simp);have g14:w4.cell? ⟨(p.add (i*4)).block,(p.add (i*4)).off+1,none⟩=some (.string ci.super):=by rw[B9 p (i*4) 0];exact(h.out.keep HG4.out).row i (by rw[←HN.out];exact hi) 1 _ (by rw[HCI.out];rfl)
                           have HW4:=A0 (h.out.keep HG4.out);clear hown hgrow))
     |(go_at_call 121;refine(a1M _ lim wb L p cap q HW4 _).mono ?_;rintro e w' ⟨rfl,rfl⟩))
    go_roundw
    case rel=>exact⟨pre++ [i],(cl L i).super,by simp;omega,by rw[HCI.out],HUP,by unfold Hid;rw[List.length_append,List.length_singleton,List.flatMap_append];simp[K4,←HCI.out];exact HO4.out,HG4⟩
    case measure=>simp;omega
   ·have HS:Hid (up L s=pre):=by unfold Hid;rw[hup.out,show n-pre.length=0 from by omega];simp[D8]
    clear hf;go_wp2
    go_ret;exact⟨a,k,a6Q (by rw[HS.out]),by rw[HS.out];exact a0k (a4F L q) hrow.out,hg.out⟩
end Kx
end Go.Proofs.YtdhophglnhcjbaaGreatDoor
