/- P02: a part of the proof that the last text tells. -/
import Derived.Test.YtdhophglnhcjbaaGreatDoorP01
import Derived.RangeFuncFrom
set_option linter.all false
set_option maxRecDepth 100000
set_option maxHeartbeats 40000000
open Go.Proofs.Tryz
namespace Go.Proofs.YtdhophglnhcjbaaGreatDoor
section
theorem a3b{P:Prop}(h:P:=by
 refine List.any_eq_false.2 (fun t ht=> ?_);obtain⟨r,hr,rfl⟩:=List.getElem_of_mem ht;have:=HV.out r hr;rw[List.getD_eq_getElem?_getD,List.getElem?_eq_getElem hr]at this;simpa using this):P:=h
theorem a5u{P:Prop}(h:P:=by
 exact⟨0,Nat.zero_le _,rfl,I8 _ _,fun r hr=>by omega⟩):P:=h
theorem c5e{P:Prop}(h:P:=by
 go_roundw
 case rel=>exact⟨j+1,by omega,by go_num,HG2,fun r hr=>by
  rcases Nat.lt_or_ge r j with h1|h1
  ·exact HV.out r h1
  ·obtain rfl:r=j:=by omega
   rw[HTD.out,←HVV.out]⟩
 case measure=>simp[intOf];omega):P:=h
theorem c5p{P:Prop}(h:P:=by
 exact⟨fx+1,by omega,by go_num,A1 HG4'.out (K3 _ _ _),fun r hr=>by
  rcases Nat.lt_or_ge r fx with h1|h1
  ·exact HV.out r h1
  ·obtain rfl:r=fx:=by omega
   exact HNO.out⟩):P:=h
theorem c5t{P:Prop}(h:P:=by
 rw[b2e (pre0:=U4 pre0) (k:=k.1) (r:=(k.1,i)) (by simpa[U4]using hpre) (fun j hj=>by
  obtain⟨j',hj',rfl⟩:=List.mem_map.1 hj;rw[h0 j' hj'];rfl) (by rw[h1];rfl)]):P:=h
theorem c6c{P:Prop}(h:P:=by
 intro k hk;obtain⟨k',hk',rfl⟩:=List.mem_map.1 hk;simpa using hne k' hk'):P:=h
theorem c6x{P:Prop}(h:P:=by
 clear HXX HYY;go_wp2
 go_quiet (fail)
 go_wp2
 go_ret;rw[HE.out];exact⟨rfl,A1 HG.out (K3 _ _ _)⟩):P:=h
theorem c7e{P:Prop}(h:P:=by
 rw[←hys,b1s];intro j hj;obtain⟨j',hj',rfl⟩:=List.mem_map.1 hj;rw[hne j' hj'];rfl):P:=h
end
section
open Go.RowKit Go.Shelf Cf
namespace Kx
theorem a3p{a b:ByteArray}(h:a.toList=b.toList):a=b:=by
 rw[ByteArray.toList_eq,ByteArray.toList_eq]at h;exact ByteArray.ext (Array.toList_inj.1 h)
attribute [local go_sem] Oper.semAt_some
theorem a0i{w w':World}(h:Below w.heap.size w w'):w.grownBy w' none:=⟨h.os,h.tape,h.output,h.size,fun k hk _=>h.block k hk⟩
theorem a5g{n₀ b1:Nat}{A B C:World}(h:KpU n₀ b1 A B)(k:KpU n₀ b1 B C):KpU n₀ b1 A C:=⟨h.1.trans k.1,k.2.trans h.2⟩
theorem a5h{n₀ b1:Nat}{w:World}(hn:n₀≤w.heap.size)(hb:b1<w.heap.size)(W:World)(l:Nat)(o o':Obj)(hl:w.heap.size≤l)(h:W.heap[l]? =some o)(h1:o.isCells=false)(h2:o.isWalk=false):KpU n₀ b1 W (W.putObj l o'):=
 ⟨belowK_b hn W l o o' hl h h1 h2,(grownBy_putObj' W l o').block b1 (by have:=(Array.getElem?_eq_some_iff.1 h).1;omega) (by simp;omega)⟩
theorem L2(B:Nat)(cs:Array Value)(t:TypeId):Own (fun(_:Unit) W=>A3 W B cs t):=fun _ X Y row hs hg hr=>
 hs.keep hg (fun e=>by obtain⟨o,ho,hc⟩:=hr B e.symm;rw[hs]at ho;cases ho;cases hc)
theorem a4A(F:Fence)(n:Nat)(h5:F.fn 167)(hro:F.round=none)(pv:Option Addr)(s:ByteArray)(w:World):
 CallsIn F n prog 167 #[.pointer pv, .string s] w fun e w'=>e= .returned (.func (.func 254) #[] #[.pointer (some ⟨w.heap.size,0,none⟩), .pointer (some ⟨w.heap.size+1,0,none⟩)])∧w'=(w.alloc (.cells #[.pointer pv] 156)).alloc (.cells #[.string s] 9):=by
 refine callsIn_of_wp func167 rfl h5 ?_ hro;simp only[ntmps167,List.size_toArray,List.length_cons,List.length_nil,Nat.reduceAdd,Nat.reduceSub,Array.replicate_succ,Array.replicate_zero,List.push_toArray,List.append_toArray,List.nil_append,List.cons_append];gi_wp2
 go_ret;exact⟨rfl,rfl⟩
abbrev Ci(L:List Cl):Type:={i:Nat//i<L.length}
def U4{L:List Cl}(l:List (Ci L)):List Nat:=l.map (·.1)
theorem a5H(F:Fence)(n:Nat)(hF:F.fn 254)(hro:F.round=none)(hn:1≤n)(n₀ b1 b2 lim b:Nat)(L:List Cl)(p:Addr)(cap m1 m2 m3:Nat)(q:Nat→Qs)(nm:ByteArray)(hnm:nm.size≤maxLen)(hU:Hid (UpL L))(w:World)
 (h1:b1<w.heap.size) (h2:b2<w.heap.size) (hc1:w.cell? ⟨b1,0,none⟩=some (.pointer (some ⟨b,0,none⟩))) (hc2:w.cell? ⟨b2,0,none⟩=some (.string nm)) (hK:Hid (G9 w lim b L p cap m1 m2 m3 q)) (hlim:lim≤n₀) (hn0:n₀≤w.heap.size):
 SeqStopsK F n prog 254 #[.pointer (some ⟨b1,0,none⟩), .pointer (some ⟨b2,0,none⟩)] (fun i:Ci L=> #[a2o L q i.1]) (KpU n₀ b1) (fun ys=>U4 ys=up L nm) (fun pre=>U4 pre<+:up L nm) (up L nm).length w:=fun l J Jx W hW hJ hJx hY h0=>by
 refine(c1U F n hF hro hn l n₀ b1 b2 lim b L p cap m1 m2 m3 q nm hnm hU (fun pre W=>∃pr:List (Ci L),U4 pr=pre∧J pr W) (fun pre W=>∃pr:List (Ci L),U4 pr=pre∧Jx pr W)
  (fun pre A B hj hg=>by obtain⟨pr,e,hj⟩:=hj;exact⟨pr,e,hJ pr A B none hj hg (fun r e=>by cases e)⟩) (fun pre A B hj hg=>by obtain⟨pr,e,hj⟩:=hj;exact⟨pr,e,hJx pr A B none hj hg (fun r e=>by cases e)⟩)
  (fun pre x W1 hx hj hlt=>by
    obtain⟨pr,rfl,hj⟩:=hj;refine(hY pr ⟨x,hx⟩ W1 hj (by simpa[U4]using hlt)).mono (fun e W' hr=> ?_);rcases hr with⟨h1,h2,h3⟩|⟨h1,h2⟩
    ·exact .inl ⟨h1,⟨_,by simp[U4],h2⟩,h3⟩
    ·exact .inr ⟨h1,⟨_,by simp[U4],h2⟩⟩) W
  ((hW.cell (p:=⟨b1,0,none⟩) h1).trans hc1) ((hW.cell (p:=⟨b2,0,none⟩) h2).trans hc2) (hK.out.below hW (Nat.le_trans hlim hn0)) hlim ⟨[],rfl,h0⟩).mono ?_
 rintro e W' ⟨hv,⟨ys,rfl,pr,he,hj⟩|⟨pre,hp,pr,rfl,hj⟩⟩
 ·exact⟨hv, .inl ⟨pr,he,hj⟩⟩
 ·exact⟨hv, .inr ⟨pr,hp,hj⟩⟩
theorem b8K(w:World)(lim b:Nat)(L:List Cl)(p:Addr)(cap m1 m2 m3:Nat)(q:Nat→Qs)(h:Hid (G9 w lim b L p cap m1 m2 m3 q))(hl:lim≤w.heap.size)(hU:Hid (UpL L))(c o:ByteArray)(hc:c.size≤maxLen):
 Calls prog 240 #[.pointer (some ⟨b,0,none⟩), .string c, .string o] w fun e w'=>e= .returned (.bool (L6 L c o))∧w.grownBy w' none:=by
 refine(callsIn_wide (n:=9)).1 ?_;refine callsIn_of_wp_marks func240 rfl trivial ?_ rfl;simp only[ntmps240,List.size_toArray,List.length_cons,List.length_nil,Nat.reduceAdd,Nat.reduceSub,Array.replicate_succ,Array.replicate_zero,List.push_toArray,List.append_toArray,List.nil_append,List.cons_append];gi_wp2_with (refine⟨trivial,?_⟩;gi_at_call 167;refine(a4A _ _ trivial rfl _ _ _).mono ?_;rintro e w' ⟨rfl,rfl⟩)
 have hB0:Below w.heap.size w ((((w.alloc (.cells #[.string o] 9)).alloc (.cells #[.bool false] 4)).alloc (.cells #[.pointer (some ⟨b,0,none⟩)] 156)).alloc (.cells #[.string c] 9)):=
  ((((Below.refl _ w).alloc (Nat.le_refl _) _).alloc (by simp) _).alloc (by simp;omega) _).alloc (by simp;omega) _
 have hsz:((((w.alloc (.cells #[.string o] 9)).alloc (.cells #[.bool false] 4)).alloc (.cells #[.pointer (some ⟨b,0,none⟩)] 156)).alloc (.cells #[.string c] 9)).heap.size=w.heap.size+4:=by simp
 have k0:=(((A3.new w #[.string o] 9).keep (A2 _ (.cells #[.bool false] 4) none) (by simp)).keep (A2 _ (.cells #[.pointer (some ⟨b,0,none⟩)] 156) none) (by simp)).keep (A2 _ (.cells #[.string c] 9) none) (by simp);have k1:=((A3.new (w.alloc (.cells #[.string o] 9)) #[.bool false] 4).keep (A2 _ (.cells #[.pointer (some ⟨b,0,none⟩)] 156) none) (by simp)).keep (A2 _ (.cells #[.string c] 9) none) (by simp);have k2:=(A3.new ((w.alloc (.cells #[.string o] 9)).alloc (.cells #[.bool false] 4)) #[.pointer (some ⟨b,0,none⟩)] 156).keep (A2 _ (.cells #[.string c] 9) none) (by simp);have k3:=A3.new (((w.alloc (.cells #[.string o] 9)).alloc (.cells #[.bool false] 4)).alloc (.cells #[.pointer (some ⟨b,0,none⟩)] 156)) #[.string c] 9;simp only[World.size_alloc]at k1 k2 k3;obtain⟨W0,hW0⟩:∃W0,(((w.alloc (.cells #[.string o] 9)).alloc (.cells #[.bool false] 4)).alloc (.cells #[.pointer (some ⟨b,0,none⟩)] 156)).alloc (.cells #[.string c] 9)=W0:=⟨_,rfl⟩
 rw[hW0]at hB0 hsz k0 k1 k2 k3⊢;clear hW0;have HK0:=A0 (h.out.below hB0 hl)
 refine wpIn_rangeFunc_ownH rfl (by omega) (gf:=254) (lb:= #[.pointer (some ⟨w.heap.size+1+1,0,none⟩), .pointer (some ⟨w.heap.size+1+1+1,0,none⟩)]) rfl trivial (enters_of func254 (by kernel_rfl) rfl)
  (a5H _ _ trivial rfl (by omega) w.heap.size (w.heap.size+1+1) (w.heap.size+1+1+1) lim b L p cap m1 m2 m3 q c hc hU W0 (by omega) (by omega) (k2.cell 0 _ rfl) (k3.cell 0 _ rfl) HK0 hl (by omega)) a5g (a5h (by omega) (by omega)) (Below.refl _ _) (fun _=>rfl)
  (fun pre W=>((∀k∈pre,(cl L k.1).name≠o)∧A3 W w.heap.size #[.string o] 9∧A3 W (w.heap.size+1) #[.bool false] 4∧A3 W (w.heap.size+1+1+1) #[.string c] 9)∧Below w.heap.size w W)
  (fun d pre W=>(d= .ret∧(∃k∈pre,(cl L k.1).name=o)∧A3 W (w.heap.size+1) #[.bool true] 4)∧Below w.heap.size w W)
  (OwnFrom.and (fun s X Y row hs hg hr=>⟨hs.1,Own.from (L2 _ _ _) _ () X Y row hs.2.1 hg hr,Own.from (L2 _ _ _) _ () X Y row hs.2.2.1 hg hr,Own.from (L2 _ _ _) _ () X Y row hs.2.2.2 hg hr⟩) (ownFrom_below (Nat.le_refl _) (by omega)))
  (fun d=>OwnFrom.and (fun s X Y row hs hg hr=>⟨hs.1,hs.2.1,Own.from (L2 _ _ _) _ () X Y row hs.2.2 hg hr⟩) (ownFrom_below (Nat.le_refl _) (by omega)))
  ⟨⟨by simp,k0,k1,k3⟩,hB0⟩
  (fun x a' W=>∃Bx,w.heap.size+4≤Bx∧A3 W Bx #[.string (cl L x.1).name, .string (cl L x.1).super, .slice (q x.1).fa (cl L x.1).fields.length (q x.1).fk, .slice (q x.1).ma (cl L x.1).methods.length (q x.1).mc] 44∧
    a'={tmps:= #[.pointer (some ⟨b,0,none⟩), .string c, .string o,undef,undef, .pointer (some ⟨w.heap.size,0,none⟩), .pointer (some ⟨w.heap.size+1,0,none⟩), .pointer (some ⟨Bx,0,none⟩), .pointer (some ⟨b,0,none⟩), .string c, .func (.func 254) #[] #[.pointer (some ⟨w.heap.size+1+1,0,none⟩), .pointer (some ⟨w.heap.size+1+1+1,0,none⟩)], .agg #[.string (cl L x.1).name, .string (cl L x.1).super, .slice (q x.1).fa (cl L x.1).fields.length (q x.1).fk, .slice (q x.1).ma (cl L x.1).methods.length (q x.1).mc],undef,undef,undef,undef],defers:=[]})
  (fun x a' _ X Y row hs hg hr=>by obtain⟨Bx,h1,h2,h3⟩:=hs;exact⟨Bx,h1,L2 Bx _ _ () X Y row h2 hg (fun r e=>(hr r e).2),h3⟩)
  ?assign ?body ?done ?stop
 case assign=>
  rintro l pre x W K ⟨⟨hne,hk0,hk1,hk3⟩,hB1⟩ hK;dsimp only[a2o,P9];gi_wp2
  have h3:=hk3.lt;exact hK _ _ ((KeepsOthers.alloc _ _).from _) ⟨(Below.refl _ W).alloc hB1.size _,Below.heap_alloc W _ _ (by omega)⟩ ⟨⟨hne,hk0.keep (A2 _ _ none) (by simp),hk1.keep (A2 _ _ none) (by simp),hk3.keep (A2 _ _ none) (by simp)⟩,hB1.alloc hB1.size _⟩ ⟨W.heap.size,by omega,A3.new W _ _,rfl⟩
 case body=>
  rintro l pre x a' W hl2 _ ⟨⟨hne,hk0,hk1,hk3⟩,hB1⟩ ⟨Bx,hBx,hbx,rfl⟩ hlt;have cx:=hbx.c0;have co:=hk0.c0;have cr:=hk1.c0;have fr:=hk1.frozen 0;gi_wp2
  ·rename_i hx;have hx:=a3p (eq_of_beq hx);exact⟨(KeepsOthers.setCell _ _ _).from _,⟨rfl,⟨x,by simp,hx⟩,hk1.set 0 (.bool true)⟩,hB1.setCell (p:=⟨w.heap.size+1,0,none⟩) (by simp) _⟩
  ·rename_i hx;have hx:(cl L x.1).name≠o:=fun e=>by rw[e,beq_self_eq_true]at hx;cases hx
   exact⟨KeepsFrom.refl _ _,⟨Below.refl _ _,rfl⟩,⟨fun k hk=>(List.mem_append.1 hk).elim (hne k) (fun e=>by simp at e;subst e;exact hx),hk0,hk1,hk3⟩,hB1⟩
 case done=>
  rintro D ys W hD hys ⟨⟨hne,hk0,hk1,hk3⟩,hB1⟩ hK;have cr:=hk1.c0;have fr:=hk1.frozen 0;gi_wp2
  have hK':=(KeepsOthers.setCell W ⟨w.heap.size+1,0,none⟩ (.bool false)).same D _ hK rfl;refine⟨by simp, .inl ⟨_,_,rfl,run_takeDeferred hK',?_⟩⟩;have hb5:=(hk1.set 0 (.bool false)).keep (grownBy_putObj' _ D (.deferred none)) (by simp;omega);have hc5:=hb5.c0
  have hf:L6 L c o=false:=by
   unfold L6;rw[List.any_eq_false,←hys];exact c6c
  rw[hf];exact⟨.bool false,by simp[results,results240,go_sem,hc5],rfl,a0i ((hB1.setCell (p:=⟨w.heap.size+1,0,none⟩) (by simp) _).grown (grownBy_putObj' _ D _) (by simp;exact hB1.size) (fun k e=>by cases e;omega))⟩
 case stop=>
  rintro D d pre W hD hpre ⟨⟨rfl,⟨k,hk,hkn⟩,hk1⟩,hB1⟩ hK;have cr:=hk1.c0;gi_wp2
  refine⟨by simp, .inl ⟨_,_,rfl,run_takeDeferred hK,?_⟩⟩;have hb5:=hk1.keep (grownBy_putObj' _ D (.deferred none)) (by simp;omega);have hc5:=hb5.c0
  have hf:L6 L c o=true:=by
   unfold L6;rw[List.any_eq_true];exact⟨k.1,hpre.subset (List.mem_map.2 ⟨k,hk,rfl⟩),by simpa using hkn⟩
  rw[hf];exact⟨.bool true,by simp[results,results240,go_sem,hc5],rfl,a0i (hB1.grown (grownBy_putObj' _ D _) hB1.size (fun k e=>by cases e;omega))⟩
theorem a2x{a b:ByteArray}(h:a≠b):(a.toList==b.toList)=false:=by
 rw[beq_eq_false_iff_ne];exact fun e=>h (a3p e)
end Kx
open Go.RowKit Cf
variable {α:Type}
def B8(w:World)(lim sz:Nat)(enc:α→List Value)(a:Option Addr)(xs:List α):Prop:=
 ∀j (hj:j<xs.length),∃p:Addr,a=some p∧p.block<lim∧∀r u,(enc xs[j])[r]? =some u→w.cell? (p.add (j*sz+r))=some u
theorem U9(p:Addr)(k:Nat):(p.add k).block=p.block:=by
 unfold Addr.add;split<;>rfl
theorem G1(p:Addr)(a b:Nat):(⟨(p.add a).block,(p.add a).off+(b+1),none⟩:Addr)=p.add (a+(b+1)):=by
 unfold Addr.add;by_cases h:a=0
 ·subst h;simp
 ·simp[h];omega
variable {w:World}
variable {lim sz:Nat}
variable {a:Option Addr}
theorem B8.keep{w':World}{enc:α→List Value}{xs:List α}(h:B8 w lim sz enc a xs)(hg:w.grownBy w' none):B8 w' lim sz enc a xs:=by
 intro j hj;obtain⟨p,h1,h2,h3⟩:=h j hj;exact⟨p,h1,h2,fun r u hu=>hg.cell (h3 r u hu) (by simp)⟩
theorem a0T(enc:α→List Value)(sz:Nat)(hs:∀x,(enc x).length=sz)(xs:List α)(j:Nat)(hj:j<xs.length)(r:Nat)(hr:r<sz):(xs.flatMap enc)[j*sz+r]? =(enc xs[j])[r]? :=by
 induction xs generalizing j with
 |nil=>cases hj
 |cons x l ih=>
  rw[List.flatMap_cons];cases j with
  |zero=>
   rw[Nat.zero_mul,Nat.zero_add,List.getElem?_append_left (by rw[hs];exact hr)];rfl
  |succ j=>
   rw[List.getElem?_append_right (by rw[hs,Nat.succ_mul];omega),hs,show(j+1)*sz+r-sz=j*sz+r by rw[Nat.succ_mul];omega];exact ih j (by simpa using hj)
theorem a1B{base e n k:Nat}{enc:α→List Value}{xs:List α}(hs:∀x,(enc x).length=sz)(h:w.ownsRow base e sz (.slice a n k) xs.length (xs.flatMap enc)):B8 w w.heap.size sz enc a xs:=by
 intro j hj;obtain⟨g,cap,hv,-,hg⟩:=h.form (by omega);injection hv with hv _ _
 subst hv;refine⟨⟨g,0,none⟩,rfl,hg,fun r u hu=> ?_⟩
 have hr:r<sz:=by
  have:=(List.getElem?_eq_some_iff.1 hu).1;rw[hs]at this;exact this
 exact h.cells (g:=g) rfl _ u (by rw[a0T enc sz hs xs j hj r hr];exact hu)
theorem B8.upto{lim':Nat}{enc:α→List Value}{xs:List α}(h:B8 w lim sz enc a xs)(hl:lim≤lim'):B8 w lim' sz enc a xs:=fun j hj=>by
 obtain⟨p,h1,h2,h3⟩:=h j hj;exact⟨p,h1,Nat.lt_of_lt_of_le h2 hl,h3⟩
theorem b2H:(prog.info? 44).map (fun i=>(i.zero,i.size,i.bytes))=some (some (.agg #[.string ByteArray.empty, .string ByteArray.empty, .slice none 0 0, .slice none 0 0]),4,80):=by kernel_rfl
namespace Kx
def V5(L:List Cl)(q:Nat→Qs)(i:Nat):List Value:=P9 (cl L i) (q i)
theorem b2g(L:List Cl)(q:Nat→Qs)(i:Nat):(V5 L q i).length=4:=rfl
theorem b8F{w:World}{lim:Nat}{L:List Cl}{q:Nat→Qs}{a:Option Addr}{l:List Nat}(h:B8 w lim 4 (V5 L q) a l){k:Nat}(hk:k<l.length):∃p:Addr,a=some p∧p.block<lim∧w.cell? (p.add (k*4))=some (.string (cl L l[k]).name)∧
 w.cell? ⟨(p.add (k*4)).block,(p.add (k*4)).off+1,none⟩=some (.string (cl L l[k]).super)∧w.cell? ⟨(p.add (k*4)).block,(p.add (k*4)).off+2,none⟩=some (.slice (q l[k]).fa (cl L l[k]).fields.length (q l[k]).fk)∧
 w.cell? ⟨(p.add (k*4)).block,(p.add (k*4)).off+3,none⟩=some (.slice (q l[k]).ma (cl L l[k]).methods.length (q l[k]).mc):=by
 obtain⟨p,h1,h2,h3⟩:=h k hk;exact⟨p,h1,h2,h3 0 _ rfl,by rw[C0 p (k*4) 0];exact h3 1 _ rfl,by rw[C0 p (k*4) 1];exact h3 2 _ rfl,by rw[C0 p (k*4) 2];exact h3 3 _ rfl⟩
theorem b8b(c:Cl)(ns:List ByteArray)(x:ByteArray):G6 c (ns++ [x])=G6 c ns++ [(L9 c.name x,ns.length)]:=by
 unfold G6;rw[List.length_append,List.length_singleton,List.range_succ,List.map_append];congr 1
 ·refine List.map_congr_left (fun i hi=> ?_);have:=List.mem_range.1 hi;simp[List.getD,List.getElem?_append_left this]
 ·simp[List.getD]
theorem b2y(c:Cl)(n:ByteArray)(hc:c.name.size≤maxLen)(hn:n.size≤maxLen):∀(ms ns:List ByteArray),(∀x∈ms,x.size≤maxLen)→K5 (G6 c ns) (L9 c.name n)=ns.findIdx? (fun x=>decide (x=n))→
 K5 (G6 c (ns++ms)) (L9 c.name n)=(ns++ms).findIdx? (fun x=>decide (x=n))
 | [],ns,_,h=>by simpa using h
 |x::ms,ns,hs,h=>by
  have:=b2y c n hc hn ms (ns++ [x]) (fun y hy=>hs y (by simp[hy])) (by
   rw[b8b,a3c,a5y,h,List.findIdx?_append];congr 1
   by_cases e:x=n
   ·subst e;simp[List.findIdx?_cons]
   ·rw[if_neg (fun e'=>e (b1W hc (hs x (by simp)) hc hn e').2)];simp[List.findIdx?_cons,e])
  simpa using this
theorem b8c(c:Cl)(n:ByteArray)(hc:c.name.size≤maxLen)(hn:n.size≤maxLen)(ns:List ByteArray)(hs:∀x∈ns,x.size≤maxLen):K5 (G6 c ns) (L9 c.name n)=ns.findIdx? (fun x=>decide (x=n)):=by
 have:=b2y c n hc hn ns [] hs rfl;simpa using this
theorem b6P(c:Cl)(d n:ByteArray)(hne:c.name≠d)(hc:c.name.size≤maxLen)(hd:d.size≤maxLen)(hn:n.size≤maxLen)(ns:List ByteArray)(hs:∀x∈ns,x.size≤maxLen):K5 (G6 c ns) (L9 d n)=none:=by
 unfold K5 G6;rw[Option.map_eq_none_iff,List.find?_eq_none];intro p hp;obtain⟨i,hi,rfl⟩:=List.mem_map.1 hp;simp only[decide_eq_true_eq];intro e
 have hx:(ns.getD i C5).size≤maxLen:=by
  have:=List.mem_range.1 hi;exact hs _ (by rw[List.getD_eq_getElem?_getD,List.getElem?_eq_getElem this];simp)
 exact hne (b1W hc hx hd hn e).1
def z9(f:Cl→List ByteArray)(L:List Cl):Prop:=∀c∈L,c.name.size≤maxLen∧∀x∈f c,x.size≤maxLen
theorem a6U(f:Cl→List ByteArray)(d n:ByteArray)(hd:d.size≤maxLen)(hn:n.size≤maxLen):∀(L:List Cl),z9 f L→(∀c∈L,c.name≠d)→K5 (N3 f L) (L9 d n)=none
 | [],_,_=>rfl
 |c::L,hs,hne=>by
  show K5 (G6 c (f c)++N3 f L) _=none;rw[a3c,b6P c d n (hne c (by simp)) (hs c (by simp)).1 hd hn _ (hs c (by simp)).2,a6U f d n hd hn L (fun x hx=>hs x (by simp[hx])) (fun x hx=>hne x (by simp[hx]))];rfl
theorem a5J(f:Cl→List ByteArray){L:List Cl}(hd:a0L L)(hs:z9 f L){k:Nat}(hk:k<L.length)(n:ByteArray)(hn:n.size≤maxLen):
 K5 (N3 f L) (L9 (cl L k).name n)=(f (cl L k)).findIdx? (fun x=>decide (x=n)):=by
 have hm:cl L k∈L:=by rw[R8 hk];exact List.getElem_mem hk
 have hsp:L=L.take k++cl L k::L.drop (k+1):=by rw[R8 hk,List.getElem_cons_drop hk,List.take_append_drop]
 have hc:=(hs _ hm).1
 have e:N3 f L=N3 f (L.take k)++(G6 (cl L k) (f (cl L k))++N3 f (L.drop (k+1))):=by
  conv=>lhs;rw[hsp]
  unfold N3;rw[List.flatMap_append,List.flatMap_cons]
 rw[e,a3c,a3c,b8c _ n hc hn _ (hs _ hm).2]
 rw[a6U f (cl L k).name n hc hn (L.take k) (fun c h=>hs c (List.mem_of_mem_take h)) (fun c h=>by
  obtain⟨j,hj,rfl⟩:=List.getElem_of_mem h;rw[List.getElem_take];intro e2;have hj1:j<L.length:=by rw[List.length_take]at hj;omega
  have hj2:j<k:=by rw[List.length_take]at hj;omega
  have:=hd j k hj1 hk (by rw[R8 hj1];exact e2);omega)]
 rw[a6U f (cl L k).name n hc hn (L.drop (k+1)) (fun c h=>hs c (List.mem_of_mem_drop h)) (fun c h=>by
  obtain⟨j,hj,rfl⟩:=List.getElem_of_mem h;rw[List.getElem_drop];intro e2;have hj1:k+1+j<L.length:=by rw[List.length_drop]at hj;omega
  have:=hd (k+1+j) k hj1 hk (by rw[R8 hj1];exact e2);omega)]
 cases (f (cl L k)).findIdx? (fun x=>decide (x=n))<;>rfl
theorem b0A(c:Cl)(n:ByteArray):(K2 c).findIdx? (fun x=>decide (x=n))=Y7 c n:=by
 unfold K2 Y7;rw[List.findIdx?_map];rfl
theorem a6E(c:Cl)(n:ByteArray):(G2 c).findIdx? (fun x=>decide (x=n))=N5 c n:=by
 unfold G2 N5;rw[List.findIdx?_map];rfl
theorem a6W{w:World}{m k:Nat}{l:List (Ky×Nat)}(h:w.ownsMap (H:=Unit) prog 255 (plainElem prog 3) m k (O2 l))(c n:ByteArray)(hc:c.size≤maxLen)(hn:n.size≤maxLen)(r:Option Nat)(hr:K5 l (L9 c n)=r):
 (Instr.lookup 149 (.map (some m)) (.agg #[.string c, .string n]) true).run prog w= .ok (.tuple #[.int .i64 (r.getD 0:Nat), .bool r.isSome]) w:=by
 obtain⟨v,ps,h1,h2⟩:=h.look_ok a5b underlying149 (a0y w) (zd:= .lit (.int .i64 0)) (zp:=[]) (plainElem_int underlying3 (by decide)) (a3Q c n hc hn);obtain⟨d,rfl,hd,-⟩:=plainElem_int_inv underlying3 h2;have hh:Maps.has (O2 l) (.string (L9 c n))=r.isSome:=by rw[(a4P l).has,hr]
 have ha:(O2 l).atKey (.string (L9 c n)) (.lit (.int .i64 0))= .lit (.int .i64 (r.getD 0:Nat)):=by rw[(a4P l).at_,hr]
 rw[ha,Prod.mk.injEq]at hd;obtain⟨hd,-⟩:=hd;simp only[DataW.lit.injEq,Lit.int.injEq,true_and]at hd;subst hd;rw[hh]at h1;exact h1
open Go.RowKit Go.Shelf
section
variable{F:Fence}{n:Nat}{P:Program}{Q:Exit→Act→World→Prop}
def a5P(o:Oper):Bool:=match o.op with| .defer _=>false|_=>true
theorem b6J{o:Oper}(h:a5P o=true):∀c,o.op≠ .defer c:=by
 intro c e;unfold a5P at h;rw[e]at h;cases h
theorem b6h(r:Nat)(hro:F.round=none){o:Oper}(hd:a5P o=true){a:Act}{w:World}{K:Act→World→Prop}(h:o.wpIn F n P a w K Q):o.wpIn (F.inRound r) n P a w K Q:=by
 unfold Oper.wpIn at h⊢;rw[Oper.semAt_eq _ _ _ (b6J hd)]at h⊢;exact h
theorem a6D(r:Nat)(hro:F.round=none){ops:Array Oper}{md:Region.Mode}(hd:∀(i:Nat) (o:Oper),ops[i]? =some o→a5P o=true):∀(fuel:Nat) (listed:Array Bool) (a:Act) (w:World),wpAnyIn F n P md ops Q fuel listed a w→wpAnyIn (F.inRound r) n P md ops Q fuel listed a w
 |0,_,_,_,h=>h
 |fuel+1,listed,a,w,h=>⟨h.1,fun i hi=>by
  have h1:=h.2 i hi;unfold wpOpIn at h1⊢;cases ho:ops[i]? with
  |none=>simp only[ho]at h1⊢;exact a6D r hro hd fuel _ a w h1
  |some o=>
   simp only[ho]at h1⊢;split
   ·rename_i hw;rw[if_pos hw]at h1;exact b6h r hro (hd i o ho) (Oper.wpIn_mono (fun a' w' hk=>a6D r hro hd fuel _ a' w' hk) h1)
   ·rename_i hw;rw[if_neg hw]at h1;exact⟨h1.1,a6D r hro hd fuel _ _ w h1.2⟩⟩
theorem a3M{id r:Nat}{a:Act}{w:World}{l:List Oper}(hro:F.round=none)(hd:l.all a5P=true)(hm:P.follows .mixedOrders=true)(hB:Region.lexB .any l.toArray=true)
 (h:wpQuietIn F n P l.toArray (fun w'=>∃n,w'=w.drewN n) (fun a'=>∀w',(∃n,w'=w.drewN n)→Q .normal a' w') l a):(Code.region id l.toArray true).wpIn (F.inRound r) n P Q a w:=by
 simp only[Region.lexB,Bool.and_eq_true]at hB;refine wpIn_region_any hm (a6D r hro (fun i o ho=>List.all_eq_true.1 hd o (List.mem_of_getElem? (by simpa using ho))) _ _ _ _ (wpAnyIn_of_quiet (C:=fun w'=>∃n,w'=w.drewN n) (Q:=fun a'=>∀w',(∃n,w'=w.drewN n)→Q .normal a' w') hro (fun _ w' hw' h=>h w' hw') _ _ _ _ ⟨1,rfl⟩ ?_));have:=wpAnyQIn_lex (F:=F) (n:=n) (C:=fun w'=>∃n,w'=w.drewN n) (md:= .any) hB.1 l 0 (Array.replicate l.toArray.size false) a (by simp) (by simpa using hB.2) h;simpa using this
theorem a1S{B:Nat}{a W:World}(h:Below B a W)(k:Nat):Below B a (W.drewN k):=⟨h.os,h.tape,h.output,h.size,h.block⟩
theorem a3N(B:Nat)(W:World)(k:Nat):KeepsFrom B W (W.drewN k):=KeepsFrom.of_grownBy (K3 W k none) (fun j e=>by cases e)
end
attribute [local go_sem] Oper.semAt_some
variable {α β:Type}
theorem b2e{f:Nat→Option α}{r:α}:∀{pre0 l:List Nat} {k:Nat},(pre0++ [k])<+:l→(∀j∈pre0,f j=none)→f k=some r→l.findSome? f=some r:=by
 rintro pre0 l k ⟨t,rfl⟩ h1 h2;rw[List.findSome?_append,List.findSome?_append];rw[List.findSome?_eq_none_iff.2 h1];simp[h2]
theorem b1s{f:Nat→Option α}{l:List Nat}(h:∀j∈l,f j=none):l.findSome? f=none:=List.findSome?_eq_none_iff.2 h
def a0B(L:List Cl)(c m:ByteArray):ByteArray:=match L3 L c m with|some p=>(cl L p.1).name|none=>⟨#[]⟩
theorem a8z(w:World)(lim b:Nat)(L:List Cl)(p:Addr)(cap m1 m2 m3:Nat)(q:Nat→Qs)(h:Hid (G9 w lim b L p cap m1 m2 m3 q))(hl:lim≤w.heap.size)(hU:Hid (UpL L))(hD:Hid (a0L L))(hZ:Hid (z9 G2 L))(c o:ByteArray)(hc:c.size≤maxLen)(ho:o.size≤maxLen):
 Calls prog 103 #[.pointer (some ⟨b,0,none⟩), .string c, .string o] w fun e w'=>e= .returned (.string (a0B L c o))∧w.grownBy w' none:=by
 refine(callsIn_wide (n:=9)).1 ?_;refine callsIn_of_wp_marks func103 rfl trivial ?_ rfl;simp only[ntmps103,List.size_toArray,List.length_cons,List.length_nil,Nat.reduceAdd,Nat.reduceSub,Array.replicate_succ,Array.replicate_zero,List.push_toArray,List.append_toArray,List.nil_append,List.cons_append];gi_wp2_with (refine⟨trivial,?_⟩;gi_at_call 167;refine(a4A _ _ trivial rfl _ _ _).mono ?_;rintro e w' ⟨rfl,rfl⟩)
 have hB0:Below w.heap.size w (((((w.alloc (.cells #[.pointer (some ⟨b,0,none⟩)] 156)).alloc (.cells #[.string o] 9)).alloc (.cells #[.string ⟨#[]⟩] 9)).alloc (.cells #[.pointer (some ⟨b,0,none⟩)] 156)).alloc (.cells #[.string c] 9)):=(((((Below.refl _ w).alloc (Nat.le_refl _) _).alloc (by simp) _).alloc (by simp;omega) _).alloc (by simp;omega) _).alloc (by simp;omega) _;have hsz:(((((w.alloc (.cells #[.pointer (some ⟨b,0,none⟩)] 156)).alloc (.cells #[.string o] 9)).alloc (.cells #[.string ⟨#[]⟩] 9)).alloc (.cells #[.pointer (some ⟨b,0,none⟩)] 156)).alloc (.cells #[.string c] 9)).heap.size=w.heap.size+5:=by simp
 have k0:=((((A3.new w #[.pointer (some ⟨b,0,none⟩)] 156).keep (A2 _ (.cells #[.string o] 9) none) (by simp)).keep (A2 _ (.cells #[.string ⟨#[]⟩] 9) none) (by simp)).keep (A2 _ (.cells #[.pointer (some ⟨b,0,none⟩)] 156) none) (by simp)).keep (A2 _ (.cells #[.string c] 9) none) (by simp);have k1:=(((A3.new (w.alloc (.cells #[.pointer (some ⟨b,0,none⟩)] 156)) #[.string o] 9).keep (A2 _ (.cells #[.string ⟨#[]⟩] 9) none) (by simp)).keep (A2 _ (.cells #[.pointer (some ⟨b,0,none⟩)] 156) none) (by simp)).keep (A2 _ (.cells #[.string c] 9) none) (by simp);have k2:=((A3.new ((w.alloc (.cells #[.pointer (some ⟨b,0,none⟩)] 156)).alloc (.cells #[.string o] 9)) #[.string ⟨#[]⟩] 9).keep (A2 _ (.cells #[.pointer (some ⟨b,0,none⟩)] 156) none) (by simp)).keep (A2 _ (.cells #[.string c] 9) none) (by simp);have k3:=(A3.new (((w.alloc (.cells #[.pointer (some ⟨b,0,none⟩)] 156)).alloc (.cells #[.string o] 9)).alloc (.cells #[.string ⟨#[]⟩] 9)) #[.pointer (some ⟨b,0,none⟩)] 156).keep (A2 _ (.cells #[.string c] 9) none) (by simp);have k4:=A3.new ((((w.alloc (.cells #[.pointer (some ⟨b,0,none⟩)] 156)).alloc (.cells #[.string o] 9)).alloc (.cells #[.string ⟨#[]⟩] 9)).alloc (.cells #[.pointer (some ⟨b,0,none⟩)] 156)) #[.string c] 9;simp only[World.size_alloc]at k1 k2 k3 k4;obtain⟨W0,hW0⟩:∃W0,((((w.alloc (.cells #[.pointer (some ⟨b,0,none⟩)] 156)).alloc (.cells #[.string o] 9)).alloc (.cells #[.string ⟨#[]⟩] 9)).alloc (.cells #[.pointer (some ⟨b,0,none⟩)] 156)).alloc (.cells #[.string c] 9)=W0:=⟨_,rfl⟩
 rw[hW0]at hB0 hsz k0 k1 k2 k3 k4⊢;clear hW0;have HK0:=A0 (h.out.below hB0 hl)
 refine wpIn_rangeFunc_ownH rfl (by omega) (gf:=254) (lb:= #[.pointer (some ⟨w.heap.size+1+1+1,0,none⟩), .pointer (some ⟨w.heap.size+1+1+1+1,0,none⟩)]) rfl trivial (enters_of func254 (by kernel_rfl) rfl)
  (a5H _ _ trivial rfl (by omega) w.heap.size (w.heap.size+1+1+1) (w.heap.size+1+1+1+1) lim b L p cap m1 m2 m3 q c hc hU W0 (by omega) (by omega) (k3.cell 0 _ rfl) (k4.cell 0 _ rfl) HK0 hl (by omega)) a5g (a5h (by omega) (by omega)) (Below.refl _ _) (fun _=>rfl)
  (fun pre W=>((∀k∈pre,N5 (cl L k.1) o=none)∧A3 W (w.heap.size) #[.pointer (some ⟨b,0,none⟩)] 156∧A3 W (w.heap.size+1) #[.string o] 9∧A3 W (w.heap.size+1+1) #[.string ⟨#[]⟩] 9∧A3 W (w.heap.size+1+1+1+1) #[.string c] 9)∧Below w.heap.size w W)
  (fun d pre W=>(d= .ret∧(∃pre0 k i,pre=pre0++ [k]∧(∀j∈pre0,N5 (cl L j.1) o=none)∧N5 (cl L k.1) o=some i∧A3 W (w.heap.size+1+1) #[.string (cl L k.1).name] 9))∧Below w.heap.size w W)
  (OwnFrom.and (fun s X Y row hs hg hr=>⟨hs.1,Own.from (L2 _ _ _) _ () X Y row hs.2.1 hg hr,Own.from (L2 _ _ _) _ () X Y row hs.2.2.1 hg hr,Own.from (L2 _ _ _) _ () X Y row hs.2.2.2.1 hg hr,Own.from (L2 _ _ _) _ () X Y row hs.2.2.2.2 hg hr⟩) (ownFrom_below (Nat.le_refl _) (by omega)))
  (fun d=>OwnFrom.and (fun s X Y row hs hg hr=>by obtain⟨h1,pre0,k,i,h2,h3,h4,h5⟩:=hs;exact⟨h1,pre0,k,i,h2,h3,h4,Own.from (L2 _ _ _) _ () X Y row h5 hg hr⟩) (ownFrom_below (Nat.le_refl _) (by omega)))
  ⟨⟨by simp,k0,k1,k2,k4⟩,hB0⟩
  (fun x a' W=>∃Bx,w.heap.size+5≤Bx∧A3 W Bx #[.string (cl L x.1).name, .string (cl L x.1).super, .slice (q x.1).fa (cl L x.1).fields.length (q x.1).fk, .slice (q x.1).ma (cl L x.1).methods.length (q x.1).mc] 44∧a'={tmps:= #[.pointer (some ⟨b,0,none⟩), .string c, .string o, .pointer (some ⟨w.heap.size,0,none⟩),undef, .pointer (some ⟨w.heap.size+1,0,none⟩), .pointer (some ⟨w.heap.size+1+1,0,none⟩), .pointer (some ⟨Bx,0,none⟩),undef,undef, .pointer (some ⟨b,0,none⟩), .string c, .func (.func 254) #[] #[.pointer (some ⟨w.heap.size+1+1+1,0,none⟩), .pointer (some ⟨w.heap.size+1+1+1+1,0,none⟩)], .agg #[.string (cl L x.1).name, .string (cl L x.1).super, .slice (q x.1).fa (cl L x.1).fields.length (q x.1).fk, .slice (q x.1).ma (cl L x.1).methods.length (q x.1).mc],undef,undef,undef,undef,undef,undef,undef,undef,undef,undef,undef,undef,undef,undef,undef],defers:=[]})
  (fun x a' _ X Y row hs hg hr=>by obtain⟨Bx,h1,h2,h3⟩:=hs;exact⟨Bx,h1,L2 Bx _ _ () X Y row h2 hg (fun r e=>(hr r e).2),h3⟩)
  ?assign ?body ?done ?stop
 case assign=>
  rintro l pre x W K ⟨⟨hne,hk0,hk1,hk2,hk4⟩,hB1⟩ hK;dsimp only[a2o,P9];gi_wp2
  have h3:=hk4.lt;exact hK _ _ ((KeepsOthers.alloc _ _).from _) ⟨(Below.refl _ W).alloc hB1.size _,Below.heap_alloc W _ _ (by omega)⟩ ⟨⟨hne,hk0.keep (A2 _ _ none) (by simp),hk1.keep (A2 _ _ none) (by simp),hk2.keep (A2 _ _ none) (by simp),hk4.keep (A2 _ _ none) (by simp)⟩,hB1.alloc hB1.size _⟩ ⟨W.heap.size,by omega,A3.new W _ _,rfl⟩
 case body=>
  rintro l pre x a' W hl2 _ ⟨⟨hne,hk0,hk1,hk2,hk4⟩,hB1⟩ ⟨Bx,hBx,hbx,rfl⟩ hlt;have cx:=hbx.c0;have c0:=hk0.c0;have c1:=hk1.c0;have cr:=hk2.c0;have fr:=hk2.frozen 0;have HKW:=A0 (h.out.below hB1 hl);have c3:=HKW.out.c3;obtain⟨r,hr⟩:∃r,r=N5 (cl L x.1) o:=⟨_,rfl⟩
  have hfr:K5 (N3 G2 L) (L9 (cl L x.1).name o)=r:=by rw[a5J G2 hD.out hZ.out x.2 o ho,a6E,hr]
  have hrun:=fun k:Nat=>a6W (w:=W.drewN k) HKW.out.n3 (cl L x.1).name o (HKW.out.names x.1 x.2).1 ho r hfr
  clear hfr;have HR:=A0 hr;clear hr;cases r with
  |none=>
   simp only[Option.getD_none,Option.isSome_none]at hrun;gi_wp2
   refine a3M rfl (by kernel_rfl) (by kernel_rfl) (by kernel_rfl) ?_;repeat (gi_big_quiet_step (fail))
   refine wpQuietIn_nil ?_;intro _ hw';obtain⟨nq,hw''⟩:=hw';subst hw'';gi_wp2
   exact⟨a3N _ _ _,⟨a1S (Below.refl _ _) _,rfl⟩,⟨fun k hk=>(List.mem_append.1 hk).elim (hne k) (fun e=>by simp at e;subst e;exact HR.out.symm),hk0,hk1,hk2,hk4⟩,a1S hB1 _⟩
  |some i=>
   simp only[Option.getD_some,Option.isSome_some]at hrun;gi_wp2
   refine a3M rfl (by kernel_rfl) (by kernel_rfl) (by kernel_rfl) ?_;repeat (gi_big_quiet_step (fail))
   refine wpQuietIn_nil ?_;intro _ hw';obtain⟨nq,hw''⟩:=hw';subst hw'';gi_wp2
   exact⟨(a3N _ _ _).trans ((KeepsOthers.setCell _ _ _).from _),⟨rfl,pre,x,i,rfl,hne,HR.out.symm,hk2.set 0 _⟩,(a1S hB1 _).setCell (p:=⟨w.heap.size+1+1,0,none⟩) (by simp;omega) _⟩
 case done=>
  rintro D ys W hD hys ⟨⟨hne,hk0,hk1,hk2,hk4⟩,hB1⟩ hK;have cr:=hk2.c0;have fr:=hk2.frozen 0;gi_wp2
  have hK':=(KeepsOthers.setCell W ⟨w.heap.size+1+1,0,none⟩ (.string ⟨#[]⟩)).same D _ hK rfl;refine⟨by simp, .inl ⟨_,_,rfl,run_takeDeferred hK',?_⟩⟩;have hb5:=(hk2.set 0 (.string ⟨#[]⟩)).keep (grownBy_putObj' _ D (.deferred none)) (by simp;omega);have hc5:=hb5.c0
  have hf:a0B L c o=⟨#[]⟩:=by
   unfold a0B L3;exact c7e
  rw[hf];exact⟨.string ⟨#[]⟩,by simp[results,results103,go_sem,hc5],rfl,a0i ((hB1.setCell (p:=⟨w.heap.size+1+1,0,none⟩) (by simp;omega) _).grown (grownBy_putObj' _ D _) (by simp;exact hB1.size) (fun k e=>by cases e;omega))⟩
 case stop=>
  rintro D d pre W hD hpre ⟨⟨rfl,pre0,k,i,rfl,h0,h1,hk2⟩,hB1⟩ hK;have cr:=hk2.c0;gi_wp2
  refine⟨by simp, .inl ⟨_,_,rfl,run_takeDeferred hK,?_⟩⟩;have hb5:=hk2.keep (grownBy_putObj' _ D (.deferred none)) (by simp;omega);have hc5:=hb5.c0
  have hf:a0B L c o=(cl L k.1).name:=by
   unfold a0B L3
   exact c5t
  rw[hf];exact⟨.string (cl L k.1).name,by simp[results,results103,go_sem,hc5],rfl,a0i (hB1.grown (grownBy_putObj' _ D _) hB1.size (fun k e=>by cases e;omega))⟩
attribute [local go_sem] Oper.semAt_some
variable {w w':World}
variable {i k lim sz:Nat}
variable {a:Option Addr}
theorem a1R{B:Nat}{enc:α→List Value}{xs:List α}(h:B8 w lim sz enc a xs)(hb:Below B w w')(hl:lim≤B):B8 w' lim sz enc a xs:=fun j hj=>by
 obtain⟨p,h1,h2,h3⟩:=h j hj;exact⟨p,h1,h2,fun r u hu=>(hb.cell (by rw[U9];omega)).trans (h3 r u hu)⟩
def l9(w:World)(lim:Nat)(L:List Cl)(q:Nat→Qs):Prop:=∀i,i<L.length→B8 w lim 3 H8 (q i).fa (cl L i).fields
def a4b(L:List Cl)(c n:ByteArray):Value:=match T1 L c n with
 |some p=> .tuple #[.agg #[.int .i64 ((cl L p.1).fields.getD p.2 a0G).ty.kind, .string ((cl L p.1).fields.getD p.2 a0G).ty.name], .bool true]
 |none=> .tuple #[.agg #[.int .i64 0, .string ⟨#[]⟩], .bool false]
variable {c:Cl}
variable {n:ByteArray}
theorem c1y(h:Y7 c n=some i):i<c.fields.length:=by
 unfold Y7 at h;obtain⟨h1,-⟩:=List.findIdx?_eq_some_iff_getElem.1 h;exact h1
theorem a8I(w:World)(lim b:Nat)(L:List Cl)(p:Addr)(cap m1 m2 m3:Nat)(q:Nat→Qs)(h:Hid (G9 w lim b L p cap m1 m2 m3 q))(hl:lim≤w.heap.size)(hU:Hid (UpL L))(hD:Hid (a0L L))(hZ:Hid (z9 K2 L))(hP:Hid (l9 w lim L q))(c o:ByteArray)(hc:c.size≤maxLen)(ho:o.size≤maxLen):
 Calls prog 248 #[.pointer (some ⟨b,0,none⟩), .string c, .string o] w fun e w'=>e= .returned (a4b L c o)∧w.grownBy w' none:=by
 refine(callsIn_wide (n:=9)).1 ?_;refine callsIn_of_wp_marks func248 rfl trivial ?_ rfl;simp only[ntmps248,List.size_toArray,List.length_cons,List.length_nil,Nat.reduceAdd,Nat.reduceSub,Array.replicate_succ,Array.replicate_zero,List.push_toArray,List.append_toArray,List.nil_append,List.cons_append];gi_wp2_with (refine⟨trivial,?_⟩;gi_at_call 167;refine(a4A _ _ trivial rfl _ _ _).mono ?_;rintro e w' ⟨rfl,rfl⟩)
 have hB0:Below w.heap.size w ((((((w.alloc (.cells #[.pointer (some ⟨b,0,none⟩)] 156)).alloc (.cells #[.string o] 9)).alloc (.cells #[.int .i64 0, .string ⟨#[]⟩] 98)).alloc (.cells #[.bool false] 4)).alloc (.cells #[.pointer (some ⟨b,0,none⟩)] 156)).alloc (.cells #[.string c] 9)):=((((((Below.refl _ w).alloc (Nat.le_refl _) _).alloc (by simp) _).alloc (by simp;omega) _).alloc (by simp;omega) _).alloc (by simp;omega) _).alloc (by simp;omega) _;have hsz:((((((w.alloc (.cells #[.pointer (some ⟨b,0,none⟩)] 156)).alloc (.cells #[.string o] 9)).alloc (.cells #[.int .i64 0, .string ⟨#[]⟩] 98)).alloc (.cells #[.bool false] 4)).alloc (.cells #[.pointer (some ⟨b,0,none⟩)] 156)).alloc (.cells #[.string c] 9)).heap.size=w.heap.size+6:=by simp
 have k0:=(((((A3.new w #[.pointer (some ⟨b,0,none⟩)] 156).keep (A2 _ (.cells #[.string o] 9) none) (by simp)).keep (A2 _ (.cells #[.int .i64 0, .string ⟨#[]⟩] 98) none) (by simp)).keep (A2 _ (.cells #[.bool false] 4) none) (by simp)).keep (A2 _ (.cells #[.pointer (some ⟨b,0,none⟩)] 156) none) (by simp)).keep (A2 _ (.cells #[.string c] 9) none) (by simp);have k1:=((((A3.new (w.alloc (.cells #[.pointer (some ⟨b,0,none⟩)] 156)) #[.string o] 9).keep (A2 _ (.cells #[.int .i64 0, .string ⟨#[]⟩] 98) none) (by simp)).keep (A2 _ (.cells #[.bool false] 4) none) (by simp)).keep (A2 _ (.cells #[.pointer (some ⟨b,0,none⟩)] 156) none) (by simp)).keep (A2 _ (.cells #[.string c] 9) none) (by simp);have k2:=(((A3.new ((w.alloc (.cells #[.pointer (some ⟨b,0,none⟩)] 156)).alloc (.cells #[.string o] 9)) #[.int .i64 0, .string ⟨#[]⟩] 98).keep (A2 _ (.cells #[.bool false] 4) none) (by simp)).keep (A2 _ (.cells #[.pointer (some ⟨b,0,none⟩)] 156) none) (by simp)).keep (A2 _ (.cells #[.string c] 9) none) (by simp);have k3:=((A3.new (((w.alloc (.cells #[.pointer (some ⟨b,0,none⟩)] 156)).alloc (.cells #[.string o] 9)).alloc (.cells #[.int .i64 0, .string ⟨#[]⟩] 98)) #[.bool false] 4).keep (A2 _ (.cells #[.pointer (some ⟨b,0,none⟩)] 156) none) (by simp)).keep (A2 _ (.cells #[.string c] 9) none) (by simp);have k4:=(A3.new ((((w.alloc (.cells #[.pointer (some ⟨b,0,none⟩)] 156)).alloc (.cells #[.string o] 9)).alloc (.cells #[.int .i64 0, .string ⟨#[]⟩] 98)).alloc (.cells #[.bool false] 4)) #[.pointer (some ⟨b,0,none⟩)] 156).keep (A2 _ (.cells #[.string c] 9) none) (by simp);have k5:=A3.new (((((w.alloc (.cells #[.pointer (some ⟨b,0,none⟩)] 156)).alloc (.cells #[.string o] 9)).alloc (.cells #[.int .i64 0, .string ⟨#[]⟩] 98)).alloc (.cells #[.bool false] 4)).alloc (.cells #[.pointer (some ⟨b,0,none⟩)] 156)) #[.string c] 9;simp only[World.size_alloc]at k1 k2 k3 k4 k5;obtain⟨W0,hW0⟩:∃W0,(((((w.alloc (.cells #[.pointer (some ⟨b,0,none⟩)] 156)).alloc (.cells #[.string o] 9)).alloc (.cells #[.int .i64 0, .string ⟨#[]⟩] 98)).alloc (.cells #[.bool false] 4)).alloc (.cells #[.pointer (some ⟨b,0,none⟩)] 156)).alloc (.cells #[.string c] 9)=W0:=⟨_,rfl⟩
 rw[hW0]at hB0 hsz k0 k1 k2 k3 k4 k5⊢;clear hW0;have HK0:=A0 (h.out.below hB0 hl)
 refine wpIn_rangeFunc_ownH rfl (by omega) (gf:=254) (lb:= #[.pointer (some ⟨w.heap.size+1+1+1+1,0,none⟩), .pointer (some ⟨w.heap.size+1+1+1+1+1,0,none⟩)]) rfl trivial (enters_of func254 (by kernel_rfl) rfl)
  (a5H _ _ trivial rfl (by omega) w.heap.size (w.heap.size+1+1+1+1) (w.heap.size+1+1+1+1+1) lim b L p cap m1 m2 m3 q c hc hU W0 (by omega) (by omega) (k4.cell 0 _ rfl) (k5.cell 0 _ rfl) HK0 hl (by omega)) a5g (a5h (by omega) (by omega)) (Below.refl _ _) (fun _=>rfl)
  (fun pre W=>((∀k∈pre,Y7 (cl L k.1) o=none)∧A3 W (w.heap.size) #[.pointer (some ⟨b,0,none⟩)] 156∧A3 W (w.heap.size+1) #[.string o] 9∧A3 W (w.heap.size+1+1) #[.int .i64 0, .string ⟨#[]⟩] 98∧A3 W (w.heap.size+1+1+1) #[.bool false] 4∧A3 W (w.heap.size+1+1+1+1+1) #[.string c] 9)∧Below w.heap.size w W)
  (fun d pre W=>(d= .ret∧(∃pre0 k i,pre=pre0++ [k]∧(∀j∈pre0,Y7 (cl L j.1) o=none)∧Y7 (cl L k.1) o=some i∧A3 W (w.heap.size+1+1) #[.int .i64 ((cl L k.1).fields.getD i a0G).ty.kind, .string ((cl L k.1).fields.getD i a0G).ty.name] 98∧A3 W (w.heap.size+1+1+1) #[.bool true] 4))∧Below w.heap.size w W)
  (OwnFrom.and (fun s X Y row hs hg hr=>⟨hs.1,Own.from (L2 _ _ _) _ () X Y row hs.2.1 hg hr,Own.from (L2 _ _ _) _ () X Y row hs.2.2.1 hg hr,Own.from (L2 _ _ _) _ () X Y row hs.2.2.2.1 hg hr,Own.from (L2 _ _ _) _ () X Y row hs.2.2.2.2.1 hg hr,Own.from (L2 _ _ _) _ () X Y row hs.2.2.2.2.2 hg hr⟩) (ownFrom_below (Nat.le_refl _) (by omega)))
  (fun d=>OwnFrom.and (fun s X Y row hs hg hr=>by obtain⟨h1,pre0,k,i,h2,h3,h4,h5,h6⟩:=hs;exact⟨h1,pre0,k,i,h2,h3,h4,Own.from (L2 _ _ _) _ () X Y row h5 hg hr,Own.from (L2 _ _ _) _ () X Y row h6 hg hr⟩) (ownFrom_below (Nat.le_refl _) (by omega)))
  ⟨⟨by simp,k0,k1,k2,k3,k5⟩,hB0⟩
  (fun x a' W=>∃Bx,w.heap.size+6≤Bx∧A3 W Bx #[.string (cl L x.1).name, .string (cl L x.1).super, .slice (q x.1).fa (cl L x.1).fields.length (q x.1).fk, .slice (q x.1).ma (cl L x.1).methods.length (q x.1).mc] 44∧a'={tmps:= #[.pointer (some ⟨b,0,none⟩), .string c, .string o, .pointer (some ⟨w.heap.size,0,none⟩),undef, .pointer (some ⟨w.heap.size+1,0,none⟩), .pointer (some ⟨w.heap.size+1+1,0,none⟩), .pointer (some ⟨w.heap.size+1+1+1,0,none⟩), .pointer (some ⟨Bx,0,none⟩),undef,undef, .pointer (some ⟨b,0,none⟩), .string c, .func (.func 254) #[] #[.pointer (some ⟨w.heap.size+1+1+1+1,0,none⟩), .pointer (some ⟨w.heap.size+1+1+1+1+1,0,none⟩)], .agg #[.string (cl L x.1).name, .string (cl L x.1).super, .slice (q x.1).fa (cl L x.1).fields.length (q x.1).fk, .slice (q x.1).ma (cl L x.1).methods.length (q x.1).mc],undef,undef,undef,undef,undef,undef,undef,undef,undef,undef,undef,undef,undef,undef,undef,undef,undef,undef,undef,undef],defers:=[]})
  (fun x a' _ X Y row hs hg hr=>by obtain⟨Bx,h1,h2,h3⟩:=hs;exact⟨Bx,h1,L2 Bx _ _ () X Y row h2 hg (fun r e=>(hr r e).2),h3⟩)
  ?assign ?body ?done ?stop
 case assign=>
  rintro l pre x W K ⟨⟨hne,hk0,hk1,hk2,hk3,hk5⟩,hB1⟩ hK;dsimp only[a2o,P9];gi_wp2
  have h3:=hk5.lt;exact hK _ _ ((KeepsOthers.alloc _ _).from _) ⟨(Below.refl _ W).alloc hB1.size _,Below.heap_alloc W _ _ (by omega)⟩ ⟨⟨hne,hk0.keep (A2 _ _ none) (by simp),hk1.keep (A2 _ _ none) (by simp),hk2.keep (A2 _ _ none) (by simp),hk3.keep (A2 _ _ none) (by simp),hk5.keep (A2 _ _ none) (by simp)⟩,hB1.alloc hB1.size _⟩ ⟨W.heap.size,by omega,A3.new W _ _,rfl⟩
 case body=>
  rintro l pre x a' W hl2 _ ⟨⟨hne,hk0,hk1,hk2,hk3,hk5⟩,hB1⟩ ⟨Bx,hBx,hbx,rfl⟩ hlt;have cx:=hbx.c0;have c0:=hk0.c0;have c1:=hk1.c0;have cr:=hk2.c0;have fr:=hk2.frozen 0;have HKW:=A0 (h.out.below hB1 hl);have c3:=HKW.out.c2;have cr3:=hk3.c0;have fr3:=hk3.frozen 0;have cr2:=hk2.c1;have fr2:=hk2.frozen 1;have cx2:=hbx.c2;obtain⟨r,hr⟩:∃r,r=Y7 (cl L x.1) o:=⟨_,rfl⟩
  have hfr:K5 (N3 K2 L) (L9 (cl L x.1).name o)=r:=by rw[a5J K2 hD.out hZ.out x.2 o ho,b0A,hr]
  have hrun:=fun k:Nat=>a6W (w:=W.drewN k) HKW.out.n2 (cl L x.1).name o (HKW.out.names x.1 x.2).1 ho r hfr
  clear hfr;have HR:=A0 hr;clear hr;cases r with
  |none=>
   simp only[Option.getD_none,Option.isSome_none]at hrun;gi_wp2
   refine a3M rfl (by kernel_rfl) (by kernel_rfl) (by kernel_rfl) ?_;repeat (gi_big_quiet_step (fail))
   refine wpQuietIn_nil ?_;intro _ hw';obtain⟨nq,hw''⟩:=hw';subst hw'';gi_wp2
   exact⟨a3N _ _ _,⟨a1S (Below.refl _ _) _,rfl⟩,⟨fun k hk=>(List.mem_append.1 hk).elim (hne k) (fun e=>by simp at e;subst e;exact HR.out.symm),hk0,hk1,hk2,hk3,hk5⟩,a1S hB1 _⟩
  |some i=>
   simp only[Option.getD_some,Option.isSome_some]at hrun;have hil:=c1y HR.out.symm;obtain⟨pf,hpf,hpb,hpc⟩:=a1R (hP.out x.1 x.2) hB1 hl i hil;obtain⟨fd,hfd⟩:∃fd,fd=(cl L x.1).fields[i]:=⟨_,rfl⟩
   have g1:W.cell? ⟨(pf.add (i*3)).block,(pf.add (i*3)).off+1,none⟩=some (.int .i64 fd.ty.kind):=by rw[C0 pf (i*3) 0,hfd];exact hpc 1 _ rfl
   have g2:W.cell? ⟨(pf.add (i*3)).block,(pf.add (i*3)).off+2,none⟩=some (.string fd.ty.name):=by rw[C0 pf (i*3) 1,hfd];exact hpc 2 _ rfl
   have g2':W.cell? ⟨(pf.add (i*3)).block,(pf.add (i*3)).off+1+1,none⟩=some (.string fd.ty.name):=g2;rw[hpf]at cx2;clear hpc hP;gi_wp2
   refine a3M rfl (by kernel_rfl) (by kernel_rfl) (by kernel_rfl) ?_;repeat (gi_big_quiet_step (fail))
   refine wpQuietIn_nil ?_;intro _ hw';obtain⟨nq,hw''⟩:=hw';subst hw'';gi_wp2
   have hgd:(cl L x.1).fields.getD i a0G=(cl L x.1).fields[i]:=by rw[List.getD_eq_getElem?_getD,List.getElem?_eq_getElem hil];rfl
   refine⟨(a3N _ _ _).trans (((KeepsOthers.setCell _ _ _).from _).trans (((KeepsOthers.setCell _ _ _).from _).trans ((KeepsOthers.setCell _ _ _).from _))),⟨rfl,pre,x,i,rfl,hne,HR.out.symm,?_,?_⟩,(((a1S hB1 _).setCell (p:=⟨w.heap.size+1+1,0,none⟩) (by simp;omega) _).setCell (p:=⟨w.heap.size+1+1,1,none⟩) (by simp;omega) _).setCell (p:=⟨w.heap.size+1+1+1,0,none⟩) (by simp;omega) _⟩
   ·rw[hgd];have hk2':A3 (W.drewN nq) (w.heap.size+1+1) #[.int .i64 0, .string ⟨#[]⟩] 98:=hk2;exact((hk2'.set 0 _).set 1 _).keep (A9 _ ⟨w.heap.size+1+1+1,0,none⟩ _) (by simp)
   ·have hk3':A3 (W.drewN nq) (w.heap.size+1+1+1) #[.bool false] 4:=hk3;exact((hk3'.keep (A9 (W.drewN nq) ⟨w.heap.size+1+1,0,none⟩ _) (by simp)).keep (A9 _ ⟨w.heap.size+1+1,1,none⟩ _) (by simp)).set 0 _
 case done=>
  rintro D ys W hD hys ⟨⟨hne,hk0,hk1,hk2,hk3,hk5⟩,hB1⟩ hK;obtain⟨cr,cr2⟩:=hk2.q2;obtain⟨fr,fr2⟩:=hk2.z2;have cr3:=hk3.c0;have fr3:=hk3.frozen 0;gi_wp2
  have hK':=(KeepsOthers.setCell ((W.setCell ⟨w.heap.size+1+1,0,none⟩ (.int .i64 0)).setCell ⟨w.heap.size+1+1,1,none⟩ (.string ⟨#[]⟩)) ⟨w.heap.size+1+1+1,0,none⟩ (.bool false)).same D _ ((KeepsOthers.setCell (W.setCell ⟨w.heap.size+1+1,0,none⟩ (.int .i64 0)) ⟨w.heap.size+1+1,1,none⟩ (.string ⟨#[]⟩)).same D _ ((KeepsOthers.setCell W ⟨w.heap.size+1+1,0,none⟩ (.int .i64 0)).same D _ hK rfl) rfl) rfl;refine⟨by simp, .inl ⟨_,_,rfl,run_takeDeferred hK',?_⟩⟩;have hb2:=(((hk2.set 0 (.int .i64 0)).set 1 (.string ⟨#[]⟩)).keep (A9 _ ⟨w.heap.size+1+1+1,0,none⟩ (.bool false)) (by simp)).keep (grownBy_putObj' _ D (.deferred none)) (by simp;omega);have hb3:=(((hk3.keep (A9 W ⟨w.heap.size+1+1,0,none⟩ (.int .i64 0)) (by simp)).keep (A9 _ ⟨w.heap.size+1+1,1,none⟩ (.string ⟨#[]⟩)) (by simp)).set 0 (.bool false)).keep (grownBy_putObj' _ D (.deferred none)) (by simp;omega);obtain⟨hc1,hc2⟩:=hb2.q2;have hc3:=hb3.c0
  have hf:a4b L c o= .tuple #[.agg #[.int .i64 0, .string ⟨#[]⟩], .bool false]:=by
   unfold a4b T1;exact c7e
  rw[hf];exact⟨_,by simp[results,results248,go_sem,hc1,hc2,hc3],rfl,a0i ((((hB1.setCell (p:=⟨w.heap.size+1+1,0,none⟩) (by simp;omega) _).setCell (p:=⟨w.heap.size+1+1,1,none⟩) (by simp;omega) _).setCell (p:=⟨w.heap.size+1+1+1,0,none⟩) (by simp;omega) _).grown (grownBy_putObj' _ D _) (by simp;exact hB1.size) (fun k e=>by cases e;omega))⟩
 case stop=>
  rintro D d pre W hD hpre ⟨⟨rfl,pre0,k,i,rfl,h0,h1,hk2,hk3⟩,hB1⟩ hK;gi_wp2
  refine⟨by simp, .inl ⟨_,_,rfl,run_takeDeferred hK,?_⟩⟩;have hb2:=hk2.keep (grownBy_putObj' _ D (.deferred none)) (by simp;omega);have hb3:=hk3.keep (grownBy_putObj' _ D (.deferred none)) (by simp;omega);obtain⟨hc1,hc2⟩:=hb2.q2;have hc3:=hb3.c0
  have hf:a4b L c o= .tuple #[.agg #[.int .i64 ((cl L k.1).fields.getD i a0G).ty.kind, .string ((cl L k.1).fields.getD i a0G).ty.name], .bool true]:=by
   unfold a4b T1
   exact c5t
  rw[hf];obtain⟨fd,hfd⟩:∃fd,fd=(cl L k.1).fields.getD i a0G:=⟨_,rfl⟩
  rw[←hfd]at hc1 hc2⊢;exact⟨_,by simp[results,results248,go_sem,hc1,hc2,hc3],rfl,a0i (hB1.grown (grownBy_putObj' _ D _) hB1.size (fun k e=>by cases e;omega))⟩
theorem b7e(f:T7):(H8 f).length=3:=rfl
theorem b2P{f:α→List β}{c:Nat}:∀{l:List α},(∀x∈l,(f x).length≤c)→(l.flatMap f).length≤l.length*c
 | [],_=>by simp
 |x::l,h=>by
  have h1:=h x (by simp);have h2:=b2P (fun y hy=>h y (by simp[hy])) (l:=l);rw[List.flatMap_cons,List.length_append,List.length_cons,Nat.succ_mul];omega
theorem b8s{fs:List T7}(h:B8 w lim 3 H8 a fs)(hk:k<fs.length):∃p:Addr,a=some p∧p.block<lim∧w.cell? (p.add (k*3))=some (.string fs[k].name)∧
 w.cell? ⟨(p.add (k*3)).block,(p.add (k*3)).off+1,none⟩=some (.int .i64 fs[k].ty.kind)∧w.cell? ⟨(p.add (k*3)).block,(p.add (k*3)).off+2,none⟩=some (.string fs[k].ty.name):=by
 obtain⟨p,h1,h2,h3⟩:=h k hk;exact⟨p,h1,h2,h3 0 _ rfl,by rw[C0 p (k*3) 0];exact h3 1 _ rfl,by rw[C0 p (k*3) 1];exact h3 2 _ rfl⟩
def mv(m:Me)(pa:Option Addr)(pk:Nat)(ca:Option Addr)(ck:Nat)(ha:Option Addr)(hk:Nat):List Value:=
 [.string m.name, .slice pa m.params.length pk, .int .i64 m.ret.kind, .string m.ret.name, .int .i64 m.stack, .int .i64 m.locals, .slice ca m.code.length ck, .slice ha m.handlers.length hk]
def S8(w:World)(lim:Nat)(L:List Cl)(q:Nat→Qs):Prop:=
 ∀i,i<L.length→∀j,j<(cl L i).methods.length→∃(p:Addr) (pa ca ha:Option Addr) (pk ck hk:Nat),(q i).ma=some p∧p.block<lim∧
  B8 w lim 2 C9 pa ((cl L i).methods.getD j I9).params∧B8 w lim 4 T3 ca ((cl L i).methods.getD j I9).code∧B8 w lim 4 T4 ha ((cl L i).methods.getD j I9).handlers∧
  ∀r u,(mv ((cl L i).methods.getD j I9) pa pk ca ck ha hk)[r]? =some u→w.cell? (p.add (j*8+r))=some u
def a2l(L:List Cl)(c n:ByteArray):Option (Nat×Nat):=(C3 L c).bind fun k=>(N5 (cl L k) n).map fun i=>(k,i)
theorem b3h(h:N5 c n=some i):i<c.methods.length:=by
 unfold N5 at h;obtain⟨h1,-⟩:=List.findIdx?_eq_some_iff_getElem.1 h;exact h1
variable {L fs:List Cl}
theorem a8E{m n:Nat}(h:w.ownsMap (H:=Unit) prog 9 (plainElem prog 3) m n (O2 (Y6 L)))(s:ByteArray)(hs:s.size≤maxLen):
 (Instr.lookup 148 (.map (some m)) (.string s) false).run prog w= .ok (.int .i64 ((C3 L s).getD 0:Nat)) w:=by
 obtain⟨c,h1,h2,-⟩:=h.lookup_int a5a underlying148 underlying3 (a0y w) (WideMaps.keyOf_string_mk underlying9 hs);have ha:(O2 (Y6 L)).atKey (.string s.data.toList) (.lit (.int .i64 0))= .lit (.int .i64 ((C3 L s).getD 0:Nat)):=b0K L s;rw[ha]at h2;simp only[DataW.lit.injEq,Lit.int.injEq,true_and]at h2;subst h2;exact h1
theorem c1i(f:Cl→List ByteArray)(hd:a0L L)(hs:z9 f L)(c n:ByteArray)(hc:c.size≤maxLen)(hn:n.size≤maxLen):
 K5 (N3 f L) (L9 c n)=(C3 L c).bind fun k=>(f (cl L k)).findIdx? (fun x=>decide (x=n)):=by
 cases hf:C3 L c with
 |none=>
  rw[a6U f c n hc hn L hs (fun x hx=>by
   obtain⟨j,hj,rfl⟩:=List.getElem_of_mem hx;have:=a6K hf j hj;rwa[R8 hj]at this)]
  rfl
 |some k=>
  obtain⟨h1,h2,-⟩:=M9 hf;rw[←h2,a5J f hd hs h1 n hn];rfl
def a2M(w:World)(lim:Nat)(L:List Cl)(r:Option (Nat×Nat))(e:Ending):Prop:=match r with
 |none=>e= .returned (.tuple #[.agg mZ, .bool false])
 |some k=>∃(pa ca ha:Option Addr) (pk ck hk:Nat),e= .returned (.tuple #[.agg (mv (E1 L k) pa pk ca ck ha hk).toArray, .bool true])∧B8 w lim 2 C9 pa (E1 L k).params∧B8 w lim 4 T3 ca (E1 L k).code∧B8 w lim 4 T4 ha (E1 L k).handlers
theorem a4t(w:World)(lim b:Nat)(L:List Cl)(p:Addr)(cap m1 m2 m3:Nat)(q:Nat→Qs)(h:Hid (G9 w lim b L p cap m1 m2 m3 q))(hl:lim≤w.heap.size)(hD:Hid (a0L L))(hZ:Hid (z9 G2 L))(hP:Hid (S8 w lim L q))(c o:ByteArray)(hc:c.size≤maxLen)(ho:o.size≤maxLen):
 Calls prog 69 #[.pointer (some ⟨b,0,none⟩), .string c, .string o] w fun e w'=>w.grownBy w' none∧a2M w lim L (a2l L c o) e:=by
 have c3:=h.out.c3;have hr0:=c1i G2 hD.out hZ.out c o hc ho;obtain⟨W1,hW1⟩:∃W1,W1=w.alloc (.cells mZ 102):=⟨_,rfl⟩
 have hg1:w.grownBy W1 none:=by rw[hW1];exact A2 _ _ _
 have HK1:=A0 (h.out.keep hg1 hl);have hB1:A3 W1 w.heap.size mZ 102:=by rw[hW1];exact A3.new w _ _
 have cA:=HK1.out.c3;cases hm:a2l L c o with
 |none=>
  have hr:K5 (N3 G2 L) (L9 c o)=none:=by
   rw[hr0];unfold a2l at hm;cases hf:C3 L c with
   |none=>rfl
   |some k=>
    rw[hf]at hm;simp only[Option.bind_some,Option.map_eq_none_iff]at hm⊢;rw[a6E,hm]
  have hrun:=a6W HK1.out.n3 c o hc ho none hr;simp only[Option.getD_none,Option.isSome_none]at hrun;rw[hW1]at hrun hB1 cA;obtain⟨fr0,fr1,fr2,fr3,fr4,fr5,fr6,fr7⟩:=hB1.z8;obtain⟨d0,d1,d2,d3,d4,d5,d6,d7⟩:=hB1.q8;clear hr0 hr hg1 HK1 hW1;go_enter func69,ntmps69;go_wp2
  refine bodyPost_ret (v:= .tuple #[.agg mZ, .bool false]) (by simp[results,results69,go_sem,d0,d1,d2,d3,d4,d5,d6,d7]) rfl ?_;exact⟨A2 _ _ _,rfl⟩
 |some k=>
  obtain⟨k,i⟩:=k
  have hk:C3 L c=some k∧N5 (cl L k) o=some i:=by
   unfold a2l at hm;cases hf:C3 L c with
   |none=>rw[hf]at hm;cases hm
   |some k'=>
    rw[hf]at hm;simp only[Option.bind_some,Option.map_eq_some_iff,Prod.mk.injEq]at hm;obtain⟨i',h1,rfl,rfl⟩:=hm;exact⟨rfl,h1⟩
  have hr:K5 (N3 G2 L) (L9 c o)=some i:=by rw[hr0,hk.1,Option.bind_some,a6E,hk.2]
  have hkl:=(M9 hk.1).1;have hil:=b3h hk.2;have hrun:=a6W HK1.out.n3 c o hc ho _ hr;simp only[Option.getD_some,Option.isSome_some]at hrun;obtain⟨pm,pa,ca,ha,pk,ck,hk0,e1,e2,e3,e4,e5,e6⟩:=hP.out k hkl i hil;obtain⟨md,hmd⟩:∃md,md=(cl L k).methods.getD i I9:=⟨_,rfl⟩
  have hcw:∀(ob:Obj),(w.alloc ob).drew.cell? ⟨b,0,none⟩=some (.slice (some p) L.length cap)∧(w.alloc ob).drew.cell? ⟨b,1,none⟩=some (.map (some m1))∧(w.alloc ob).drew.cell? ⟨(p.add (k*4)).block,(p.add (k*4)).off+3,none⟩=some (.slice (some pm) (cl L k).methods.length (q k).mc)∧(w.alloc ob).drew.cell? (pm.add (i*8))=some (.string md.name)∧(w.alloc ob).drew.cell? ⟨(pm.add (i*8)).block,(pm.add (i*8)).off+1,none⟩=some (.slice pa md.params.length pk)∧(w.alloc ob).drew.cell? ⟨(pm.add (i*8)).block,(pm.add (i*8)).off+2,none⟩=some (.int .i64 md.ret.kind)∧(w.alloc ob).drew.cell? ⟨(pm.add (i*8)).block,(pm.add (i*8)).off+3,none⟩=some (.string md.ret.name)∧(w.alloc ob).drew.cell? ⟨(pm.add (i*8)).block,(pm.add (i*8)).off+4,none⟩=some (.int .i64 md.stack)∧(w.alloc ob).drew.cell? ⟨(pm.add (i*8)).block,(pm.add (i*8)).off+5,none⟩=some (.int .i64 md.locals)∧(w.alloc ob).drew.cell? ⟨(pm.add (i*8)).block,(pm.add (i*8)).off+6,none⟩=some (.slice ca md.code.length ck)∧(w.alloc ob).drew.cell? ⟨(pm.add (i*8)).block,(pm.add (i*8)).off+7,none⟩=some (.slice ha md.handlers.length hk0)∧(Instr.lookup 148 (.map (some m1)) (.string c) false).run prog (w.alloc ob).drew= .ok (.int .i64 (k:Int)) (w.alloc ob).drew:=fun ob=>by
   have hg:=A1 (A2 w ob none) (B6 _ _);have HK:=h.out.keep hg hl;have HM1:=fun r u hu=>hg.cell (e6 r u (by rw[←hmd];exact hu)) (by simp)
   have hr1:=a8E HK.n1 c hc;rw[hk.1]at hr1;refine⟨HK.c0,HK.c1,?_,HM1 0 _ rfl,?_,?_,?_,?_,?_,?_,?_,hr1⟩
   ·rw[C0 p (k*4) 2,←e1];exact HK.row k hkl 3 _ rfl
   ·rw[C0 pm (i*8) 0];exact HM1 1 _ rfl
   ·rw[C0 pm (i*8) 1];exact HM1 2 _ rfl
   ·rw[C0 pm (i*8) 2];exact HM1 3 _ rfl
   ·rw[C0 pm (i*8) 3];exact HM1 4 _ rfl
   ·rw[C0 pm (i*8) 4];exact HM1 5 _ rfl
   ·rw[C0 pm (i*8) 5];exact HM1 6 _ rfl
   ·rw[C0 pm (i*8) 6];exact HM1 7 _ rfl
  rw[hW1]at hrun hB1 cA;obtain⟨fr0,fr1,fr2,fr3,fr4,fr5,fr6,fr7⟩:=hB1.z8;obtain⟨d0,d1,d2,d3,d4,d5,d6,d7⟩:=hB1.q8;have hcS:=hcw;clear hcw;clear hr0 hr hg1 HK1 hW1;go_enter func69,ntmps69;go_wp2
  go_region_held2 (fun w'=>w'.cell? ⟨b,0,none⟩=some (.slice (some p) L.length cap)∧w'.cell? ⟨b,1,none⟩=some (.map (some m1))∧w'.cell? ⟨(p.add (k*4)).block,(p.add (k*4)).off+3,none⟩=some (.slice (some pm) (cl L k).methods.length (q k).mc)∧w'.cell? (pm.add (i*8))=some (.string md.name)∧w'.cell? ⟨(pm.add (i*8)).block,(pm.add (i*8)).off+1,none⟩=some (.slice pa md.params.length pk)∧w'.cell? ⟨(pm.add (i*8)).block,(pm.add (i*8)).off+2,none⟩=some (.int .i64 md.ret.kind)∧w'.cell? ⟨(pm.add (i*8)).block,(pm.add (i*8)).off+3,none⟩=some (.string md.ret.name)∧w'.cell? ⟨(pm.add (i*8)).block,(pm.add (i*8)).off+4,none⟩=some (.int .i64 md.stack)∧w'.cell? ⟨(pm.add (i*8)).block,(pm.add (i*8)).off+5,none⟩=some (.int .i64 md.locals)∧w'.cell? ⟨(pm.add (i*8)).block,(pm.add (i*8)).off+6,none⟩=some (.slice ca md.code.length ck)∧w'.cell? ⟨(pm.add (i*8)).block,(pm.add (i*8)).off+7,none⟩=some (.slice ha md.handlers.length hk0)∧(Instr.lookup 148 (.map (some m1)) (.string c) false).run prog w'= .ok (.int .i64 (k:Int)) w') (exact hcS _) (fail)
  have hgi:(cl L k).methods[i]=md:=by rw[hmd,List.getD_eq_getElem?_getD,List.getElem?_eq_getElem hil];rfl
  have hB2:=(A3.new w (mv md pa pk ca ck ha hk0).toArray 102).keep (B6 _ none) (by simp);obtain⟨g0,g1,g2,g3,g4,g5,g6,g7⟩:=hB2.q8;simp only[hgi];clear hB1 hB2 fr0 fr1 fr2 fr3 fr4 fr5 fr6 fr7 d0 d1 d2 d3 d4 d5 d6 d7 hcS;simp only[mv]at g0 g1 g2 g3 g4 g5 g6 g7;go_wp2
  refine bodyPost_ret (v:= .tuple #[.agg (mv md pa pk ca ck ha hk0).toArray, .bool true]) (by simp[results,results69,go_sem,g0,g1,g2,g3,g4,g5,g6,g7,mv]) rfl ?_;refine⟨A1 (A2 _ _ none) (B6 _ _),?_⟩;unfold a2M;refine⟨pa,ca,ha,pk,ck,hk0,?_,?_⟩
  ·unfold E1;rw[←hmd]
  ·unfold E1;exact⟨e3,e4,e5⟩
variable {q:Nat→Qs}
theorem S8.keep(h:S8 w lim L q)(hg:w.grownBy w' none):S8 w' lim L q:=fun i hi j hj=>by
 obtain⟨p,pa,ca,ha,pk,ck,hk,h1,h2,h3,h4,h5,h6⟩:=h i hi j hj;exact⟨p,pa,ca,ha,pk,ck,hk,h1,h2,h3.keep hg,h4.keep hg,h5.keep hg,fun r u hu=>hg.cell (h6 r u hu) (by simp)⟩
theorem a8n{enc:α→List Value}{xs:List α}(h:B8 w' lim sz enc a xs)(hg:w.grownBy w' none)(hl:lim≤w.heap.size):B8 w lim sz enc a xs:=fun j hj=>by
 obtain⟨p,h1,h2,h3⟩:=h j hj;refine⟨p,h1,h2,fun r u hu=> ?_⟩;rw[←h3 r u hu];exact(World.cell?_of_block (w:=w) (hg.block (p.add (j*sz+r)).block (by rw[U9];omega) (by simp))).symm
def a7F(L:List Cl):Prop:=C3 L ⟨#[]⟩=none
theorem b0J(hD:a0L L)(hN:a7F L)(hU:UpL L)(c o:ByteArray):a2l L (a0B L c o) o=L3 L c o:=by
 unfold a0B;cases hm:L3 L c o with
 |none=>
  unfold a2l;rw[hN];rfl
 |some p=>
  obtain⟨k,i⟩:=p;unfold L3 at hm;obtain⟨k',hk',hf⟩:=List.exists_of_findSome?_eq_some hm;cases hmi:N5 (cl L k') o with
  |none=>rw[hmi]at hf;cases hf
  |some i'=>
   rw[hmi]at hf;simp only[Option.map_some,Option.some.injEq,Prod.mk.injEq]at hf;obtain⟨rfl,rfl⟩:=hf;have hkl:=a2G _ _ _ hk';show a2l L (cl L k').name o=some (k',i');unfold a2l;rw[a6L hD hkl];simp[hmi]
theorem b5K(w:World)(lim b:Nat)(L:List Cl)(p:Addr)(cap m1 m2 m3:Nat)(q:Nat→Qs)(h:Hid (G9 w lim b L p cap m1 m2 m3 q))(hl:lim≤w.heap.size)(hU:Hid (UpL L))(hD:Hid (a0L L))(hN:Hid (a7F L))(hZ:Hid (z9 G2 L))(hP:Hid (S8 w lim L q))(c o:ByteArray)(hc:c.size≤maxLen)(ho:o.size≤maxLen):
 Calls prog 62 #[.pointer (some ⟨b,0,none⟩), .string c, .string o] w fun e w'=>w.grownBy w' none∧a2M w lim L (L3 L c o) e:=by
 have HK1:∀ob,Hid (G9 (w.alloc ob) lim b L p cap m1 m2 m3 q):=fun ob=>h.out.keep (A2 w ob none) hl
 have ho':(a0B L c o).size≤maxLen:=by
  unfold a0B;cases hm:L3 L c o with
  |none=>exact Nat.zero_le _
  |some k=>
   unfold L3 at hm;obtain⟨k',hk',hf⟩:=List.exists_of_findSome?_eq_some hm;have hkl:=a2G _ _ _ hk';cases hmi:N5 (cl L k') o with
   |none=>rw[hmi]at hf;cases hf
   |some i'=>
    rw[hmi]at hf;simp only[Option.map_some,Option.some.injEq]at hf;subst hf;exact(h.out.names k' hkl).1
 have hme:=b0J hD.out hN.out hU.out c o;obtain⟨on,hon⟩:∃on,on=a0B L c o:=⟨_,rfl⟩
 rw[←hon]at ho' hme;obtain⟨mo,hmo⟩:∃mo,mo=L3 L c o:=⟨_,rfl⟩
 rw[←hmo]at hme⊢;have HON:=A0 hon;have HME:=A0 hme;have HO':=A0 ho';clear hon hme hmo ho';cases mo with
 |none=>
  go_enter func62,ntmps62
  go_wp2_with (first
   |(go_at_call 103
     go_loud (refine(a8z _ lim b L p cap m1 m2 m3 q (HK1 _) (by simp;omega) hU hD hZ c o hc ho).mono ?_;rintro e w1 ⟨rfl,hg1⟩;rw[←HON.out])
     have hg:=A1 (A2 _ _ none) hg1;have hB1:=(A3.new w mZ 102).keep hg1 (by simp);have HK2:=A0 (h.out.keep hg hl);have hl2:=Nat.le_trans hl hg.size;dsimp only)
   |(go_at_call 69
     refine(a4t w1 lim b L p cap m1 m2 m3 q HK2 hl2 hD hZ (hP.out.keep hg) on o HO'.out ho).mono ?_;intro e w2 hq;have hg2:=hq.1;have hm2:=hq.2;rw[HME.out]at hm2;clear hq;unfold a2M at hm2;dsimp only at hm2;subst hm2;have hB2:=hB1.keep hg2 (by simp);obtain⟨d0,d1,d2,d3,d4,d5,d6,d7⟩:=hB2.q8;obtain⟨fr0,fr1,fr2,fr3,fr4,fr5,fr6,fr7⟩:=hB2.z8;dsimp only))
  refine bodyPost_ret (v:= .tuple #[.agg mZ, .bool false]) (by simp[results,results62,go_sem,d0,d1,d2,d3,d4,d5,d6,d7]) rfl ?_;exact⟨D5 (A1 hg hg2) (@a3U w2 w.heap.size 0 1 2 3 4 5 6 7 _ _ _ _ _ _ _ _) (fun k e=>by cases e;exact .inl (Nat.le_refl _)),rfl⟩
 |some k=>
  go_enter func62,ntmps62
  go_wp2_with (first
   |(go_at_call 103
     go_loud (refine(a8z _ lim b L p cap m1 m2 m3 q (HK1 _) (by simp;omega) hU hD hZ c o hc ho).mono ?_;rintro e w1 ⟨rfl,hg1⟩;rw[←HON.out])
     have hg:=A1 (A2 _ _ none) hg1;have hB1:=(A3.new w mZ 102).keep hg1 (by simp);have HK2:=A0 (h.out.keep hg hl);have hl2:=Nat.le_trans hl hg.size;dsimp only)
   |(go_at_call 69
     refine(a4t w1 lim b L p cap m1 m2 m3 q HK2 hl2 hD hZ (hP.out.keep hg) on o HO'.out ho).mono ?_;intro e w2 hq;have hg2:=hq.1;have hm2:=hq.2;rw[HME.out]at hm2;clear hq;unfold a2M at hm2;dsimp only at hm2;obtain⟨pa,ca,ha,pk,ck,hk,he,r1,r2,r3⟩:=hm2;generalize hmd:E1 L k=md at he r1 r2 r3;unfold mv at he;subst he;have HMD:=A0 hmd;clear hmd;have hB2:=hB1.keep hg2 (by simp);obtain⟨d0,d1,d2,d3,d4,d5,d6,d7⟩:=hB2.q8;obtain⟨fr0,fr1,fr2,fr3,fr4,fr5,fr6,fr7⟩:=hB2.z8;dsimp only))
  refine bodyPost_ret (v:= .tuple #[.agg (mv md pa pk ca ck ha hk).toArray, .bool true]) (by simp[results,results62,go_sem,d0,d1,d2,d3,d4,d5,d6,d7,mv]) rfl ?_;refine⟨D5 (A1 hg hg2) (@a3U w2 w.heap.size 0 1 2 3 4 5 6 7 _ _ _ _ _ _ _ _) (fun k e=>by cases e;exact .inl (Nat.le_refl _)),?_⟩;unfold a2M;dsimp only;rw[HMD.out];exact⟨pa,ca,ha,pk,ck,hk,rfl,a8n r1 hg hl,a8n r2 hg hl,a8n r3 hg hl⟩
def PM(w:World)(lim:Nat)(a:Option Addr)(ms:List Me):Prop:=∀j,j<ms.length→∃(p:Addr) (pa ca ha:Option Addr) (pk ck hk:Nat),a=some p∧p.block<lim∧
    B8 w lim 2 C9 pa (ms.getD j I9).params∧B8 w lim 4 T3 ca (ms.getD j I9).code∧B8 w lim 4 T4 ha (ms.getD j I9).handlers∧
    ∀r u,(mv (ms.getD j I9) pa pk ca ck ha hk)[r]? =some u→w.cell? (p.add (j*8+r))=some u
theorem S8.at(h:S8 w lim L q)(hi:i<L.length):PM w lim (q i).ma (cl L i).methods:=h i hi
theorem b9A{ms:List Me}(h:PM w lim a ms)(hk:k<ms.length):∃(p:Addr) (pa ca ha:Option Addr) (pk ck hh:Nat),a=some p∧p.block<lim∧
 B8 w lim 2 C9 pa ms[k].params∧B8 w lim 4 T3 ca ms[k].code∧B8 w lim 4 T4 ha ms[k].handlers∧
 w.cell? (p.add (k*8))=some (.string ms[k].name)∧w.cell? ⟨(p.add (k*8)).block,(p.add (k*8)).off+1,none⟩=some (.slice pa ms[k].params.length pk)∧
 w.cell? ⟨(p.add (k*8)).block,(p.add (k*8)).off+2,none⟩=some (.int .i64 ms[k].ret.kind)∧w.cell? ⟨(p.add (k*8)).block,(p.add (k*8)).off+3,none⟩=some (.string ms[k].ret.name)∧
 w.cell? ⟨(p.add (k*8)).block,(p.add (k*8)).off+4,none⟩=some (.int .i64 ms[k].stack)∧w.cell? ⟨(p.add (k*8)).block,(p.add (k*8)).off+5,none⟩=some (.int .i64 ms[k].locals)∧
 w.cell? ⟨(p.add (k*8)).block,(p.add (k*8)).off+6,none⟩=some (.slice ca ms[k].code.length ck)∧w.cell? ⟨(p.add (k*8)).block,(p.add (k*8)).off+7,none⟩=some (.slice ha ms[k].handlers.length hh):=by
 obtain⟨p,pa,ca,ha,pk,ck,hh,h1,h2,h3,h4,h5,h6⟩:=h k hk;have e:ms.getD k I9=ms[k]:=by rw[List.getD_eq_getElem?_getD,List.getElem?_eq_getElem hk];rfl
 rw[e]at h3 h4 h5 h6
 exact⟨p,pa,ca,ha,pk,ck,hh,h1,h2,h3,h4,h5,h6 0 _ rfl,by rw[C0 p (k*8) 0];exact h6 1 _ rfl,by rw[C0 p (k*8) 1];exact h6 2 _ rfl,by rw[C0 p (k*8) 2];exact h6 3 _ rfl,
  by rw[C0 p (k*8) 3];exact h6 4 _ rfl,by rw[C0 p (k*8) 4];exact h6 5 _ rfl,by rw[C0 p (k*8) 5];exact h6 6 _ rfl,by rw[C0 p (k*8) 6];exact h6 7 _ rfl⟩
def Szc(c:Cl):Prop:=c.fields.length≤65536∧c.methods.length≤65536∧∀(j:Nat) (hj:j<c.methods.length),c.methods[j].params.length≤65536∧c.methods[j].handlers.length≤65536
theorem a5v(w:World)(lim b:Nat)(L:List Cl)(p:Addr)(cap m1 m2 m3:Nat)(q:Nat→Qs)(h:Hid (G9 w lim b L p cap m1 m2 m3 q))(hl:lim≤w.heap.size)(k:Nat)(s:ByteArray)(hs:Hid (s.size≤maxLen)):
 Calls prog 245 #[.pointer (some ⟨b,0,none⟩), .agg #[.int .i64 k, .string s]] w fun e w'=>e= .returned (.bool (P7 L ⟨k,s⟩))∧w.grownBy w' none:=by
 have HK1:∀ob,Hid (G9 (w.alloc ob) lim b L p cap m1 m2 m3 q):=fun ob=>h.out.keep (A2 w ob none) hl
 by_cases h2:k=2
 ·subst h2;obtain⟨v,hv⟩:∃v,v=G3 L s:=⟨_,rfl⟩
  have HV:=A0 hv;have HR:Hid (P7 L ⟨2,s⟩=v):=by unfold Hid P7;rw[if_pos (.inl rfl),hv]
  clear hv;rw[HR.out];go_enter func245,ntmps245;go_wp2_with (go_at_call 244;go_loud (refine(a5U _ lim b L p cap m1 m2 m3 q (HK1 _) s hs).mono ?_;rintro e w1 ⟨rfl,rfl⟩;rw[←HV.out]))
  go_ret;exact⟨rfl,A2 _ _ _⟩
 ·by_cases h4:k=4
  ·subst h4;obtain⟨v,hv⟩:∃v,v=G3 L s:=⟨_,rfl⟩
   have HV:=A0 hv;have HR:Hid (P7 L ⟨4,s⟩=v):=by unfold Hid P7;rw[if_pos (.inr rfl),hv]
   clear hv;rw[HR.out];go_enter func245,ntmps245;go_wp2_with (go_at_call 244;go_loud (refine(a5U _ lim b L p cap m1 m2 m3 q (HK1 _) s hs).mono ?_;rintro e w1 ⟨rfl,rfl⟩;rw[←HV.out]))
   go_ret;exact⟨rfl,A2 _ _ _⟩
  ·have HR:Hid (P7 L ⟨k,s⟩=decide (k≠0)):=by unfold Hid P7;rw[if_neg (by rintro(e|e);exact h2 e;exact h4 e)]
   rw[HR.out];clear HR HK1;by_cases h0:k=0
   ·subst h0;go_enter func245,ntmps245;go_wp2
    go_ret;exact⟨rfl,A2 _ _ _⟩
   ·have hA:((k:Int)==2)=false:=by simp;omega
    have hB:((k:Int)==4)=false:=by simp;omega
    go_enter func245,ntmps245;go_wp2
    go_ret;exact⟨by simp[h0],A2 _ _ _⟩
theorem b4e(w:World)(lim b:Nat)(L:List Cl)(p:Addr)(cap m1 m2 m3:Nat)(q:Nat→Qs)(h:Hid (G9 w lim b L p cap m1 m2 m3 q))(i:Nat)(hi:i<L.length):
 Calls prog 159 #[.pointer (some ⟨b,0,none⟩), .int .i64 i] w fun e w'=>e= .returned (.bool (nsP L i))∧w.grownBy w' none:=by
 have c0:=h.out.c0;have f1:w.cell? ⟨(p.add (i*4)).block,(p.add (i*4)).off+1,none⟩=some (.string (cl L i).super):=by rw[C0 p (i*4) 0];exact h.out.row i hi 1 _ rfl
 have hs:=A0 ((h.out.names i hi).2);obtain⟨s,hsd⟩:∃s,s=(cl L i).super:=⟨_,rfl⟩
 obtain⟨v,hv⟩:∃v,v=G3 L s:=⟨_,rfl⟩
 have HV:=A0 hv;have HR:Hid (nsP L i= !v):=by unfold Hid nsP;rw[hv,hsd]
 rw[←hsd]at f1 hs;clear hv hsd;rw[HR.out];go_enter func159,ntmps159;go_wp2_with (go_at_call 244;go_loud (refine(a5U _ lim b L p cap m1 m2 m3 q h s hs).mono ?_;rintro e w1 ⟨rfl,rfl⟩;rw[←HV.out]))
 go_ret;exact⟨rfl,I8 _ _⟩
theorem b5Q(w:World)(lim b:Nat)(L:List Cl)(p:Addr)(cap m1 m2 m3:Nat)(q:Nat→Qs)(h:Hid (G9 w lim b L p cap m1 m2 m3 q))(i:Nat)(hi:i<L.length):
 Calls prog 158 #[.pointer (some ⟨b,0,none⟩), .int .i64 i] w fun e w'=>e= .returned (.bool (twP L i))∧w.grownBy w' none:=by
 have c0:=h.out.c0;have c1:=h.out.c1;have f0:w.cell? (p.add (i*4))=some (.string (cl L i).name):=h.out.row i hi 0 _ rfl;have hs:=(h.out.names i hi).1;have hrun:=fun k:Nat=>a8E (w:=w.drewN k) h.out.n1 (cl L i).name hs
 obtain⟨s,hsd⟩:∃s,s=(cl L i).name:=⟨_,rfl⟩
 obtain⟨k,hk⟩:∃k,C3 L (cl L i).name=some k:=by
  cases hf:C3 L (cl L i).name with
  |none=>exact absurd rfl (a6K hf i hi)
  |some k=>exact⟨k,rfl⟩
 rw[hk]at hrun;simp only[Option.getD_some]at hrun;have HR:Hid (twP L i=decide (k≠i)):=by unfold Hid twP;rw[hk];simp
 rw[←hsd]at f0 hrun;clear hsd hk hs;rw[HR.out];by_cases hki:k=i
 ·subst hki;go_enter func158,ntmps158;go_wp2
  go_quiet (fail)
  go_wp2
  go_ret;exact⟨by simp,K3 _ _ _⟩
 ·go_enter func158,ntmps158;go_wp2
  go_quiet (fail)
  go_wp2
  go_ret;exact⟨by simp[hki];omega,K3 _ _ _⟩
def a6q(m:Me):Prop:=(∀t∈m.params,t.name.size≤maxLen)∧(∀h∈m.handlers,h.cls.size≤maxLen)∧m.ret.name.size≤maxLen∧m.params.length≤65536∧m.handlers.length≤65536
theorem a9Z(w:World)(lim b:Nat)(L:List Cl)(p:Addr)(cap m1 m2 m3:Nat)(q:Nat→Qs)(h:Hid (G9 w lim b L p cap m1 m2 m3 q))(hl:lim≤w.heap.size)(m:Me)(pa ca ha:Option Addr)(pk ck hk:Nat)
 (hz:Hid (a6q m)) (r1:Hid (B8 w lim 2 C9 pa m.params)) (r3:Hid (B8 w lim 4 T4 ha m.handlers)):
 Calls prog 247 #[.pointer (some ⟨b,0,none⟩), .agg #[.string m.name, .slice pa m.params.length pk, .int .i64 m.ret.kind, .string m.ret.name, .int .i64 m.stack, .int .i64 m.locals, .slice ca m.code.length ck, .slice ha m.handlers.length hk]] w fun e w'=>e= .returned (.bool (m8 L m))∧w.grownBy w' none:=by
 have hpl:=hz.out.2.2.2.1;have hhl:=hz.out.2.2.2.2;go_enter func247,ntmps247;go_wp2_with fail
 obtain⟨W1,hW1⟩:∃W1,W1=w.alloc (.cells #[.string m.name, .slice pa m.params.length pk, .int .i64 m.ret.kind, .string m.ret.name, .int .i64 m.stack, .int .i64 m.locals, .slice ca m.code.length ck, .slice ha m.handlers.length hk] 102):=⟨_,rfl⟩
 have hg1:w.grownBy W1 none:=by rw[hW1];exact A2 _ _ _
 have HB1:Hid (A3 W1 w.heap.size #[.string m.name, .slice pa m.params.length pk, .int .i64 m.ret.kind, .string m.ret.name, .int .i64 m.stack, .int .i64 m.locals, .slice ca m.code.length ck, .slice ha m.handlers.length hk] 102):=by rw[hW1];exact A3.new w _ _
 have HG1:=A0 hg1;rw[←hW1];clear hW1 hg1;go_loopw [12] (fun i wr=>∃j:Nat,j≤m.params.length∧i= .int .i64 j∧W1.grownBy wr none∧∀r,r<j→P7 L (m.params.getD r ⟨0,⟨#[]⟩⟩)=true) (fun i _=>m.params.length-(intOf i).toNat)
 case atStart=>exact a5u
 case round=>
  obtain⟨j,hj,rfl,hgr,hv⟩:=hrel;have HG:=A0 hgr;have HV:=A0 hv;have HGW:=A0 (A1 HG1.out HG.out);clear hgr hv;by_cases hlt:j<m.params.length
  ·obtain⟨pp,hpp,hpb,hpc⟩:=r1.out.keep HGW.out j hlt;obtain⟨t,ht⟩:∃t,t=m.params[j]:=⟨_,rfl⟩
   rw[←ht]at hpc;have f0:wr.cell? (pp.add (j*2))=some (.int .i64 t.kind):=hpc 0 _ rfl;have f1:wr.cell? ⟨(pp.add (j*2)).block,(pp.add (j*2)).off+1,none⟩=some (.string t.name):=by rw[C0 pp (j*2) 0];exact hpc 1 _ rfl
   have HKa:∀ob,Hid (G9 (wr.alloc ob) lim b L p cap m1 m2 m3 q):=fun ob=>(h.out.keep HGW.out hl).keep (A2 wr ob none) (Nat.le_trans hl HGW.out.size)
   have hla:∀ob,lim≤(wr.alloc ob).heap.size:=fun ob=>by have:=HGW.out.size;simp;omega
   have HS:=A0 (hz.out.1 t (by rw[ht];exact List.getElem_mem hlt));have HT:=A0 ht;have HTD:Hid (m.params.getD j ⟨0,⟨#[]⟩⟩=t):=by unfold Hid;rw[ht,List.getD_eq_getElem?_getD,List.getElem?_eq_getElem hlt];rfl
   obtain⟨v,hvv⟩:∃v,v=P7 L ⟨t.kind,t.name⟩:=⟨_,rfl⟩
   have HVV:=A0 hvv;subst hpp;clear hpc ht hvv;cases v with
   |true=>
    go_wp2_with (go_at_call 245;go_loud (refine(a5v _ lim b L p cap m1 m2 m3 q (HKa _) (hla _) t.kind t.name HS).mono ?_;rintro e w2 ⟨rfl,hg2⟩;rw[←HVV.out];have HG2:=A1 (A1 HG.out (A2 wr _ none)) hg2))
    exact c5e
   |false=>
    go_wp2_with (go_at_call 245;go_loud (refine(a5v _ lim b L p cap m1 m2 m3 q (HKa _) (hla _) t.kind t.name HS).mono ?_;rintro e w2 ⟨rfl,hg2⟩;rw[←HVV.out];have HG2:=A1 (A1 HGW.out (A2 wr _ none)) hg2))
    go_ret
    have hno:m8 L m=true:=by
     have:(m.params.any fun p=> !P7 L p)=true:=List.any_eq_true.2 ⟨t,by rw[HT.out];exact List.getElem_mem hlt,by show(!P7 L ⟨t.kind,t.name⟩)=true;rw[←HVV.out];rfl⟩;unfold m8;rw[this];rfl
    rw[hno];exact⟨rfl,HG2⟩
  ·have hjn:j=m.params.length:=by omega
   subst hjn
   have HPA:Hid ((m.params.any fun p=> !P7 L p)=false):=by
    exact a3b
   have HBr:=A0 (HB1.out.keep HG.out (by simp));have c7:=HBr.out.c7;clear HV hlt;go_wp2_with fail
   go_loopw [24] (fun i wx=>∃j:Nat,j≤m.handlers.length∧i= .int .i64 j∧W1.grownBy wx none∧∀r,r<j→G3 L (m.handlers.getD r ⟨0,0,0,⟨#[]⟩⟩).cls=true) (fun i _=>m.handlers.length-(intOf i).toNat)
   case atStart=>exact⟨0,Nat.zero_le _,rfl,HG.out,fun r hr=>by omega⟩
   case round=>
    obtain⟨j,hj,rfl,hgr,hv⟩:=hrel;have HG3:=A0 hgr;have HV:=A0 hv;have HGW3:=A0 (A1 HG1.out HG3.out);clear hgr hv;by_cases hlt:j<m.handlers.length
    ·obtain⟨pp,hpp,hpb,hpc⟩:=r3.out.keep HGW3.out j hlt;obtain⟨t,ht⟩:∃t,t=m.handlers[j]:=⟨_,rfl⟩
     rw[←ht]at hpc;have f0:wr.cell? (pp.add (j*4))=some (.int .i64 t.from_):=hpc 0 _ rfl;have f1:wr.cell? ⟨(pp.add (j*4)).block,(pp.add (j*4)).off+1,none⟩=some (.int .i64 t.to):=by rw[C0 pp (j*4) 0];exact hpc 1 _ rfl
     have f2:wr.cell? ⟨(pp.add (j*4)).block,(pp.add (j*4)).off+2,none⟩=some (.int .i64 t.at_):=by rw[C0 pp (j*4) 1];exact hpc 2 _ rfl
     have f3:wr.cell? ⟨(pp.add (j*4)).block,(pp.add (j*4)).off+3,none⟩=some (.string t.cls):=by rw[C0 pp (j*4) 2];exact hpc 3 _ rfl
     have HKa:∀ob,Hid (G9 (wr.alloc ob) lim b L p cap m1 m2 m3 q):=fun ob=>(h.out.keep HGW3.out hl).keep (A2 wr ob none) (Nat.le_trans hl HGW3.out.size)
     have HS:=A0 (hz.out.2.1 t (by rw[ht];exact List.getElem_mem hlt));have HT:=A0 ht;have HTD:Hid (m.handlers.getD j ⟨0,0,0,⟨#[]⟩⟩=t):=by unfold Hid;rw[ht,List.getD_eq_getElem?_getD,List.getElem?_eq_getElem hlt];rfl
     obtain⟨v,hvv⟩:∃v,v=G3 L t.cls:=⟨_,rfl⟩
     have HVV:=A0 hvv;subst hpp;clear hpc ht hvv c7;cases v with
     |true=>
      go_wp2_with (go_at_call 244;go_loud (refine(a5U _ lim b L p cap m1 m2 m3 q (HKa _) t.cls HS).mono ?_;rintro e w2 ⟨rfl,rfl⟩;rw[←HVV.out]))
      go_roundw
      case rel=>exact⟨j+1,by omega,by go_num,A1 HG3.out (A2 wr _ none),fun r hr=>by
       rcases Nat.lt_or_ge r j with h1|h1
       ·exact HV.out r h1
       ·obtain rfl:r=j:=by omega
        rw[HTD.out,←HVV.out]⟩
      case measure=>simp[intOf];omega
     |false=>
      go_wp2_with (go_at_call 244;go_loud (refine(a5U _ lim b L p cap m1 m2 m3 q (HKa _) t.cls HS).mono ?_;rintro e w2 ⟨rfl,rfl⟩;rw[←HVV.out]))
      go_ret
      have hno:m8 L m=true:=by
       have:(m.handlers.any fun h=> !G3 L h.cls)=true:=List.any_eq_true.2 ⟨t,by rw[HT.out];exact List.getElem_mem hlt,by rw[←HVV.out];rfl⟩;unfold m8;rw[this];simp
      rw[hno];exact⟨rfl,A1 HGW3.out (A2 wr _ none)⟩
    ·have hjn:j=m.handlers.length:=by omega
     subst hjn
     have HHA:Hid ((m.handlers.any fun h=> !G3 L h.cls)=false):=by
      exact a3b
     have HBx:=A0 (HB1.out.keep HG3.out (by simp));have c2:=HBx.out.c2;have c3:=HBx.out.c3;have HNO:Hid (m8 L m=(decide (m.ret.kind≠0)&& !P7 L m.ret)):=by unfold Hid m8;rw[HPA.out,HHA.out];rfl
     have HKx:=A0 (h.out.keep HGW3.out hl);have hlx:=Nat.le_trans hl HGW3.out.size;have HSR:=A0 hz.out.2.2.1;clear HV hlt c7;obtain⟨kd,hkd⟩:∃kd,kd=m.ret.kind:=⟨_,rfl⟩
     obtain⟨rn,hrn⟩:∃rn,rn=m.ret.name:=⟨_,rfl⟩
     have hret:m.ret=⟨kd,rn⟩:=by rw[hkd,hrn]
     rw[hret]at HSR HNO;rw[←hkd]at c2;rw[←hrn]at c3;clear hkd hrn hret;by_cases hk0:kd=0
     ·subst hk0;go_wp2_with fail
      go_ret;rw[HNO.out];exact⟨rfl,HGW3.out⟩
     ·have hA:((kd:Int)==0)=false:=by simp;omega
      obtain⟨v,hvv⟩:∃v,v=P7 L ⟨kd,rn⟩:=⟨_,rfl⟩
      have HVV:=A0 hvv;rw[←hvv]at HNO;clear hvv;go_wp2_with (go_at_call 245;go_loud (refine(a5v _ lim b L p cap m1 m2 m3 q HKx hlx kd rn HSR).mono ?_;rintro e w2 ⟨rfl,hg2⟩;rw[←HVV.out]))
      go_ret;rw[HNO.out];exact⟨by simp[hk0],A1 HGW3.out hg2⟩
def SzL(L:List Cl):Prop:=∀i,i<L.length→(∀j,j<(cl L i).methods.length→a6q ((cl L i).methods.getD j I9))∧(∀f∈(cl L i).fields,f.ty.name.size≤maxLen∧f.name.size≤maxLen)∧(cl L i).fields.length≤65536∧(cl L i).methods.length≤65536
theorem b4C(w:World)(lim b:Nat)(L:List Cl)(p:Addr)(cap m1 m2 m3:Nat)(q:Nat→Qs)(h:Hid (G9 w lim b L p cap m1 m2 m3 q))(hl:lim≤w.heap.size)(hP:Hid (S8 w lim L q))(hZ:Hid (SzL L))(i:Nat)(hi:i<L.length):
 Calls prog 314 #[.slice (q i).ma (cl L i).methods.length (q i).mc, .func (.func 247) #[.pointer (some ⟨b,0,none⟩)] #[]] w fun e w'=>
  ∃v:Int,e= .returned (.int .i64 v)∧Hid ((!decide (v<0))=(cl L i).methods.any (m8 L))∧w.grownBy w' none:=by
 have hml:=(hZ.out i hi).2.2.2;obtain⟨n,hn⟩:∃n,n=(cl L i).methods.length:=⟨_,rfl⟩
 have HN:=A0 hn;rw[←hn]at hml⊢;clear hn;go_enter func314,ntmps314;go_wp2_with fail
 go_loopw [5,8] (fun _ k wr=>∃j:Nat,j≤n∧k= .int .i64 j∧w.grownBy wr none∧∀r,r<j→m8 L ((cl L i).methods.getD r I9)=false) (fun _ k _=>n-(intOf k).toNat)
 case atStart=>exact a5u
 case round=>
  obtain⟨j,hj,rfl,hgr,hv⟩:=hrel;have HG:=A0 hgr;have HV:=A0 hv;clear hgr hv;by_cases hlt:j<n
  ·have hjm:j<(cl L i).methods.length:=by rw[←HN.out];exact hlt
   obtain⟨pm,pa,ca,ha,pk,ck,hk,e1,e2,e3,e4,e5,e6⟩:=hP.out.keep HG.out i hi j hjm;obtain⟨md,hmd⟩:∃md,md=(cl L i).methods.getD j I9:=⟨_,rfl⟩
   rw[←hmd]at e3 e5 e6;have HM:=A0 hmd;have HS:Hid (a6q md):=by rw[hmd];exact(hZ.out i hi).1 j hjm
   have f0:wr.cell? (pm.add (j*8))=some (.string md.name):=e6 0 _ rfl;have f1:wr.cell? ⟨(pm.add (j*8)).block,(pm.add (j*8)).off+1,none⟩=some (.slice pa md.params.length pk):=by rw[C0 pm (j*8) 0];exact e6 1 _ rfl
   have f2:wr.cell? ⟨(pm.add (j*8)).block,(pm.add (j*8)).off+2,none⟩=some (.int .i64 md.ret.kind):=by rw[C0 pm (j*8) 1];exact e6 2 _ rfl
   have f3:wr.cell? ⟨(pm.add (j*8)).block,(pm.add (j*8)).off+3,none⟩=some (.string md.ret.name):=by rw[C0 pm (j*8) 2];exact e6 3 _ rfl
   have f4:wr.cell? ⟨(pm.add (j*8)).block,(pm.add (j*8)).off+4,none⟩=some (.int .i64 md.stack):=by rw[C0 pm (j*8) 3];exact e6 4 _ rfl
   have f5:wr.cell? ⟨(pm.add (j*8)).block,(pm.add (j*8)).off+5,none⟩=some (.int .i64 md.locals):=by rw[C0 pm (j*8) 4];exact e6 5 _ rfl
   have f6:wr.cell? ⟨(pm.add (j*8)).block,(pm.add (j*8)).off+6,none⟩=some (.slice ca md.code.length ck):=by rw[C0 pm (j*8) 5];exact e6 6 _ rfl
   have f7:wr.cell? ⟨(pm.add (j*8)).block,(pm.add (j*8)).off+7,none⟩=some (.slice ha md.handlers.length hk):=by rw[C0 pm (j*8) 6];exact e6 7 _ rfl
   have HKr:=A0 (h.out.keep HG.out hl);have hlr:=Nat.le_trans hl HG.out.size;have R3:=A0 e3;have R5:=A0 e5;obtain⟨v,hvv⟩:∃v,v=m8 L md:=⟨_,rfl⟩
   have HVV:=A0 hvv;clear hvv hmd e3 e4 e5 e6;rw[e1];cases v with
   |true=>
    go_wp2_with (go_at_call 247;go_loud (refine(a9Z _ lim b L p cap m1 m2 m3 q HKr hlr md pa ca ha pk ck hk HS R3 R5).mono ?_;rintro e w2 ⟨rfl,hg2⟩;rw[←HVV.out]))
    go_ret;refine⟨_,rfl,?_,A1 HG.out hg2⟩;have:=List.any_eq_true.2 ⟨md,by rw[HM.out,List.getD_eq_getElem?_getD,List.getElem?_eq_getElem hjm];exact List.getElem_mem hjm,HVV.out.symm⟩;rw[this];unfold Hid;simp
   |false=>
    go_wp2_with (go_at_call 247;go_loud (refine(a9Z _ lim b L p cap m1 m2 m3 q HKr hlr md pa ca ha pk ck hk HS R3 R5).mono ?_;rintro e w2 ⟨rfl,hg2⟩;rw[←HVV.out]))
    go_roundw
    case rel=>exact⟨j+1,by omega,by go_num,A1 HG.out hg2,fun r hr=>by
     rcases Nat.lt_or_ge r j with h1|h1
     ·exact HV.out r h1
     ·obtain rfl:r=j:=by omega
      rw[←HM.out,←HVV.out]⟩
    case measure=>simp[intOf];omega
  ·have hjn:j=n:=by omega
   subst hjn;go_wp2_with fail
   go_ret;refine⟨_,rfl,?_,HG.out⟩
   have:(cl L i).methods.any (m8 L)=false:=List.any_eq_false.2 (fun t ht=>by
    obtain⟨r,hr,rfl⟩:=List.getElem_of_mem ht;have:=HV.out r (by rw[HN.out];exact hr);rw[List.getD_eq_getElem?_getD,List.getElem?_eq_getElem hr]at this;simpa using this)
   rw[this];rfl
theorem b4k(w:World)(lim b:Nat)(L:List Cl)(p:Addr)(cap m1 m2 m3:Nat)(q:Nat→Qs)(h:Hid (G9 w lim b L p cap m1 m2 m3 q))(hl:lim≤w.heap.size)(hP:Hid (S8 w lim L q))(hZ:Hid (SzL L))(i:Nat)(hi:i<L.length):
 Calls prog 246 #[.slice (q i).ma (cl L i).methods.length (q i).mc, .func (.func 247) #[.pointer (some ⟨b,0,none⟩)] #[]] w fun e w'=>
  e= .returned (.bool ((cl L i).methods.any (m8 L)))∧w.grownBy w' none:=by
 obtain⟨r,hr⟩:∃r,r=(cl L i).methods.any (m8 L):=⟨_,rfl⟩
 have HR:=A0 hr;rw[←hr];clear hr;go_enter func246,ntmps246;go_wp2_with (go_at_call 314;go_loud (refine(b4C _ lim b L p cap m1 m2 m3 q h hl hP hZ i hi).mono ?_;rintro e w2 ⟨v,rfl,HV,hg2⟩))
 go_ret;refine⟨?_,hg2⟩;have:=HV.out;rw[←HR.out]at this
 have e:decide (0≤v)= !decide (v<0):=by
  by_cases hv:v<0
  ·simp only[hv,decide_true,Bool.not_true,decide_eq_false_iff_not];omega
  ·simp only[hv,decide_false,Bool.not_false,decide_eq_true_eq];omega
 rw[←this,←e];rfl
theorem b4j(w:World)(lim b:Nat)(L:List Cl)(p:Addr)(cap m1 m2 m3:Nat)(q:Nat→Qs)(h:Hid (G9 w lim b L p cap m1 m2 m3 q))(hl:lim≤w.heap.size)(hF:Hid (l9 w lim L q))(hP:Hid (S8 w lim L q))(hZ:Hid (SzL L))(i:Nat)(hi:i<L.length):
 Calls prog 161 #[.pointer (some ⟨b,0,none⟩), .int .i64 i] w fun e w'=>e= .returned (.bool (tyP L i))∧w.grownBy w' none:=by
 have c0:=h.out.c0;have hpc:=h.out.row i hi;have f0:w.cell? (p.add (i*4))=some (.string (cl L i).name):=hpc 0 _ rfl;have f1:w.cell? ⟨(p.add (i*4)).block,(p.add (i*4)).off+1,none⟩=some (.string (cl L i).super):=by rw[C0 p (i*4) 0];exact hpc 1 _ rfl
 have f2:w.cell? ⟨(p.add (i*4)).block,(p.add (i*4)).off+2,none⟩=some (.slice (q i).fa (cl L i).fields.length (q i).fk):=by rw[C0 p (i*4) 1];exact hpc 2 _ rfl
 have f3:w.cell? ⟨(p.add (i*4)).block,(p.add (i*4)).off+3,none⟩=some (.slice (q i).ma (cl L i).methods.length (q i).mc):=by rw[C0 p (i*4) 2];exact hpc 3 _ rfl
 clear hpc;have hfl:=(hZ.out i hi).2.2.1;obtain⟨cc,hcc⟩:∃cc,cc=cl L i:=⟨_,rfl⟩
 have HCC:=A0 hcc;rw[←hcc]at f0 f1 f2 f3 hfl;clear hcc;go_enter func161,ntmps161;go_wp2_with fail
 obtain⟨W1,hW1⟩:∃W1,W1=w.alloc (.cells #[.string cc.name, .string cc.super, .slice (q i).fa cc.fields.length (q i).fk, .slice (q i).ma cc.methods.length (q i).mc] 44):=⟨_,rfl⟩
 have HG1:Hid (w.grownBy W1 none):=by rw[hW1];exact A2 _ _ _
 have HB1:Hid (A3 W1 w.heap.size #[.string cc.name, .string cc.super, .slice (q i).fa cc.fields.length (q i).fk, .slice (q i).ma cc.methods.length (q i).mc] 44):=by rw[hW1];exact A3.new w _ _
 rw[←hW1];clear hW1;go_loopw [18] (fun k wr=>∃j:Nat,j≤cc.fields.length∧k= .int .i64 j∧W1.grownBy wr none∧∀r,r<j→P7 L (cc.fields.getD r a0G).ty=true) (fun k _=>cc.fields.length-(intOf k).toNat)
 case atStart=>exact a5u
 case round=>
  obtain⟨j,hj,rfl,hgr,hv⟩:=hrel;have HG:=A0 hgr;have HV:=A0 hv;have HGW:=A0 (A1 HG1.out HG.out);clear hgr hv;by_cases hlt:j<cc.fields.length
  ·obtain⟨pp,hpp,hpb,hpc⟩:=(hF.out i hi).keep HGW.out j (by rw[←HCC.out];exact hlt);obtain⟨t,ht⟩:∃t,t=cc.fields[j]:=⟨_,rfl⟩
   have hpc':∀r u,(H8 t)[r]? =some u→wr.cell? (pp.add (j*3+r))=some u:=by
    intro r u hu;refine hpc r u ?_;rw[ht]at hu;simpa only[HCC.out]using hu
   have g0:wr.cell? (pp.add (j*3))=some (.string t.name):=hpc' 0 _ rfl;have g1:wr.cell? ⟨(pp.add (j*3)).block,(pp.add (j*3)).off+1,none⟩=some (.int .i64 t.ty.kind):=by rw[C0 pp (j*3) 0];exact hpc' 1 _ rfl
   have g2:wr.cell? ⟨(pp.add (j*3)).block,(pp.add (j*3)).off+2,none⟩=some (.string t.ty.name):=by rw[C0 pp (j*3) 1];exact hpc' 2 _ rfl
   have HKa:∀ob,Hid (G9 (wr.alloc ob) lim b L p cap m1 m2 m3 q):=fun ob=>(h.out.keep HGW.out hl).keep (A2 wr ob none) (Nat.le_trans hl HGW.out.size)
   have hla:∀ob,lim≤(wr.alloc ob).heap.size:=fun ob=>by have:=HGW.out.size;simp;omega
   have hmem:t∈cc.fields:=by rw[ht];exact List.getElem_mem hlt
   have HS:=A0 (((hZ.out i hi).2.1 t (by rw[←HCC.out];exact hmem)).1);have HTD:Hid (cc.fields.getD j a0G=t):=by unfold Hid;rw[ht,List.getD_eq_getElem?_getD,List.getElem?_eq_getElem hlt];rfl
   obtain⟨v,hvv⟩:∃v,v=P7 L ⟨t.ty.kind,t.ty.name⟩:=⟨_,rfl⟩
   have HVV:=A0 hvv;rw[hpp];clear hpc hpc' ht hvv f0 f1 f2 f3 c0;cases v with
   |true=>
    go_wp2_with (go_at_call 245;go_loud (refine(a5v _ lim b L p cap m1 m2 m3 q (HKa _) (hla _) t.ty.kind t.ty.name HS).mono ?_;rintro e w2 ⟨rfl,hg2⟩;rw[←HVV.out];have HG2:=A1 (A1 HG.out (A2 wr _ none)) hg2))
    exact c5e
   |false=>
    go_wp2_with (go_at_call 245;go_loud (refine(a5v _ lim b L p cap m1 m2 m3 q (HKa _) (hla _) t.ty.kind t.ty.name HS).mono ?_;rintro e w2 ⟨rfl,hg2⟩;rw[←HVV.out];have HG2:=A1 (A1 HGW.out (A2 wr _ none)) hg2))
    go_ret
    have hno:tyP L i=true:=by
     have:((cl L i).fields.any fun f=> !P7 L f.ty)=true:=List.any_eq_true.2 ⟨t,by rw[←HCC.out];exact hmem,by show(!P7 L ⟨t.ty.kind,t.ty.name⟩)=true;rw[←HVV.out];rfl⟩;unfold tyP;rw[this];rfl
    rw[hno];exact⟨rfl,HG2⟩
  ·have hjn:j=cc.fields.length:=by omega
   subst hjn
   have HFA:Hid (((cl L i).fields.any fun f=> !P7 L f.ty)=false):=by
    rw[←HCC.out];exact a3b
   have HBr:=A0 (HB1.out.keep HG.out (by simp));have c7:=HBr.out.c3;have hmf:∀(fn:Fn) (first cap:Array Value) (w:World),(Instr.makeFunc fn first cap).run prog w= .ok (.func fn first cap) w:=fun _ _ _ _=>rfl
   have HKr:=A0 (h.out.keep HGW.out hl);have hlr:=Nat.le_trans hl HGW.out.size;rw[HCC.out]at c7;have HPr:=A0 (hP.out.keep HGW.out);obtain⟨v,hvv⟩:∃v,v=(cl L i).methods.any (m8 L):=⟨_,rfl⟩
   have HVV:=A0 hvv;clear HV hlt f0 f1 f2 f3 c0 hvv;go_wp2_with (go_at_call 246;go_loud (refine(b4k _ lim b L p cap m1 m2 m3 q HKr hlr HPr hZ i hi).mono ?_;rintro e w2 ⟨rfl,hg2⟩;rw[←HVV.out]))
   go_ret;have hno:tyP L i=v:=by unfold tyP;rw[HFA.out,←HVV.out];rfl
   rw[hno];exact⟨rfl,A1 HGW.out hg2⟩
theorem b0H:∀(xs ys:List Ty) (j:Nat) (h1:j<xs.length) (h2:j<ys.length),L7 xs[j] ys[j]=false→s8 xs ys=false:=fun xs ys j h1 h2 h=>by
 cases hb:s8 xs ys with
 |false=>rfl
 |true=>
  have:=(a6O xs ys).1 hb;subst this;rw[a5A]at h;cases h
variable {xs ys:List Ty}
theorem b6v(hl:xs.length=ys.length)(h:∀j (h1:j<xs.length) (h2:j<ys.length),L7 xs[j] ys[j]=true):s8 xs ys=true:=
 (a6O xs ys).2 (List.ext_getElem hl (fun j h1 h2=>(a2v _ _).1 (h j h1 h2)))
theorem b7y(h:xs.length≠ys.length):s8 xs ys=false:=by
 cases hb:s8 xs ys with
 |false=>rfl
 |true=>exact absurd (congrArg List.length ((a6O xs ys).1 hb)) h
theorem b6a(w:World)(l1 l2:Nat)(xs ys:List Ty)(a1 a2:Option Addr)(k1 k2:Nat)(h1:Hid (B8 w l1 2 C9 a1 xs))(h2:Hid (B8 w l2 2 C9 a2 ys))(hx:xs.length≤65536)(hy:ys.length≤65536):
 Calls prog 315 #[.slice a1 xs.length k1, .slice a2 ys.length k2] w fun e w'=>e= .returned (.bool (s8 xs ys))∧w.grownBy w' none:=by
 by_cases hl:xs.length=ys.length
 ·obtain⟨n,hn⟩:∃n,n=xs.length:=⟨_,rfl⟩
  have HX:=A0 hn;have HY:=A0 (hn.trans hl);rw[←hl,←hn];have hnn:n≤65536:=by omega
  clear hn hl hx hy;go_enter func315,ntmps315;go_wp2_with fail
  go_loopw [5,13] (fun _ k wr=>∃j:Nat,j≤n∧k= .int .i64 j∧w.grownBy wr none∧∀r,r<j→∀(g1:r<xs.length) (g2:r<ys.length),L7 xs[r] ys[r]=true) (fun _ k _=>n-(intOf k).toNat)
  case atStart=>exact a5u
  case round=>
   obtain⟨j,hj,rfl,hgr,hv⟩:=hrel;have HG:=A0 hgr;have HV:=A0 hv;clear hgr hv;by_cases hlt:j<n
   ·have hjx:j<xs.length:=by rw[←HX.out];exact hlt
    have hjy:j<ys.length:=by rw[←HY.out];exact hlt
    obtain⟨p1,e1,-,pc1⟩:=h1.out.keep HG.out j hjx;obtain⟨p2,e2,-,pc2⟩:=h2.out.keep HG.out j hjy;obtain⟨x,hxx⟩:∃x,x=xs[j]:=⟨_,rfl⟩
    obtain⟨y,hyy⟩:∃y,y=ys[j]:=⟨_,rfl⟩
    rw[←hxx]at pc1;rw[←hyy]at pc2;have HXX:=A0 hxx;have HYY:=A0 hyy;have f0:wr.cell? (p1.add (j*2))=some (.int .i64 x.kind):=pc1 0 _ rfl;have f1:wr.cell? ⟨(p1.add (j*2)).block,(p1.add (j*2)).off+1,none⟩=some (.string x.name):=by rw[C0 p1 (j*2) 0];exact pc1 1 _ rfl
    have g0:wr.cell? (p2.add (j*2))=some (.int .i64 y.kind):=pc2 0 _ rfl;have g1:wr.cell? ⟨(p2.add (j*2)).block,(p2.add (j*2)).off+1,none⟩=some (.string y.name):=by rw[C0 p2 (j*2) 0];exact pc2 1 _ rfl
    rw[e1,e2];clear pc1 pc2 hxx hyy;obtain⟨xk,xn⟩:=x;obtain⟨yk,yn⟩:=y;dsimp only at f0 f1 g0 g1;by_cases hk:xk=yk
    ·subst hk;by_cases hnm:xn=yn
     ·subst hnm;have HE:=A0 (HXX.out.symm.trans HYY.out);clear HXX HYY;go_wp2
      go_quiet (fail)
      go_wp2
      go_roundw
      case rel=>exact⟨j+1,by omega,by go_num,A1 HG.out (K3 _ _ _),fun r hr g1 g2=>by
       rcases Nat.lt_or_ge r j with h1|h1
       ·exact HV.out r h1 g1 g2
       ·obtain rfl:r=j:=by omega
        exact(a2v _ _).2 HE.out⟩
      case measure=>simp[intOf];omega
     ·have hN:¬xn.toList=yn.toList:=fun e=>hnm (a3p e)
      have HE:=A0 (b0H xs ys j hjx hjy (by rw[←HXX.out,←HYY.out];simp[L7,hnm]));exact c6x
    ·have hK:¬((xk:Int)=(yk:Int)):=by omega
     have HE:=A0 (b0H xs ys j hjx hjy (by rw[←HXX.out,←HYY.out];simp[L7,hk]));exact c6x
   ·have hjn:j=n:=by omega
    subst hjn;go_wp2_with fail
    go_ret;have:=b6v (HX.out.symm.trans HY.out) (fun r h1 h2=>HV.out r (by rw[HX.out];exact h1) h1 h2);rw[this];exact⟨rfl,HG.out⟩
 ·rw[b7y hl];have hA:((xs.length:Int)==(ys.length:Int))=false:=by simp;omega
  go_enter func315,ntmps315;go_wp2
  go_ret;exact⟨rfl,I8 _ _⟩
theorem b1v(w:World)(l1 l2:Nat)(m o:Me)(pa1 ca1 ha1 pa2 ca2 ha2:Option Addr)(pk1 ck1 hk1 pk2 ck2 hk2:Nat)(h1:Hid (B8 w l1 2 C9 pa1 m.params))(h2:Hid (B8 w l2 2 C9 pa2 o.params))(hx:m.params.length≤65536)(hy:o.params.length≤65536):
 Calls prog 249 #[.agg #[.string m.name, .slice pa1 m.params.length pk1, .int .i64 m.ret.kind, .string m.ret.name, .int .i64 m.stack, .int .i64 m.locals, .slice ca1 m.code.length ck1, .slice ha1 m.handlers.length hk1], .agg #[.string o.name, .slice pa2 o.params.length pk2, .int .i64 o.ret.kind, .string o.ret.name, .int .i64 o.stack, .int .i64 o.locals, .slice ca2 o.code.length ck2, .slice ha2 o.handlers.length hk2]] w fun e w'=>e= .returned (.bool (a1p m o))∧w.grownBy w' none:=by
 obtain⟨r,hr⟩:∃r,r=a1p m o:=⟨_,rfl⟩
 have HR:=A0 hr;rw[←hr];clear hr;obtain⟨xr,hxr⟩:∃x,x=m.ret:=⟨_,rfl⟩
 obtain⟨yr,hyr⟩:∃y,y=o.ret:=⟨_,rfl⟩
 have HAL:Hid (a1p m o=(L7 xr yr&&s8 m.params o.params)):=by unfold Hid a1p;rw[hxr,hyr]
 rw[←hxr,←hyr];clear hxr hyr;obtain⟨xk,xn⟩:=xr;obtain⟨yk,yn⟩:=yr;dsimp only;obtain⟨W1,hW1⟩:∃W1,W1=(w.alloc (.cells #[.string m.name, .slice pa1 m.params.length pk1, .int .i64 xk, .string xn, .int .i64 m.stack, .int .i64 m.locals, .slice ca1 m.code.length ck1, .slice ha1 m.handlers.length hk1] 102)).alloc (.cells #[.string o.name, .slice pa2 o.params.length pk2, .int .i64 yk, .string yn, .int .i64 o.stack, .int .i64 o.locals, .slice ca2 o.code.length ck2, .slice ha2 o.handlers.length hk2] 102):=⟨_,rfl⟩
 have HG1:Hid (w.grownBy W1 none):=by rw[hW1];exact A1 (A2 _ _ none) (A2 _ _ none)
 have R1:=A0 (h1.out.keep HG1.out);have R2:=A0 (h2.out.keep HG1.out);rw[hW1]at R1 R2 HG1;clear hW1;by_cases hk:xk=yk
 ·subst hk;by_cases hnm:xn=yn
  ·subst hnm;obtain⟨v,hv⟩:∃v,v=s8 m.params o.params:=⟨_,rfl⟩
   have HV:=A0 hv;have HRV:Hid (r=v):=by unfold Hid;rw[HR.out,HAL.out,a5A,hv];rfl
   clear hv;go_enter func249,ntmps249;go_wp2_with (go_at_call 315;go_loud (refine(b6a _ l1 l2 m.params o.params pa1 pa2 pk1 pk2 R1 R2 hx hy).mono ?_;rintro e w2 ⟨rfl,hg2⟩;rw[←HV.out]))
   go_ret;rw[HRV.out];exact⟨rfl,A1 HG1.out hg2⟩
  ·have hN:¬xn.toList=yn.toList:=fun e=>hnm (a3p e)
   have HRV:Hid (r=false):=by unfold Hid;rw[HR.out,HAL.out];simp[L7,hnm]
   go_enter func249,ntmps249;go_wp2
   go_ret;rw[HRV.out];exact⟨rfl,HG1.out⟩
 ·have hK:¬((xk:Int)=(yk:Int)):=by omega
  have HRV:Hid (r=false):=by unfold Hid;rw[HR.out,HAL.out];simp[L7,hk]
  go_enter func249,ntmps249;go_wp2
  go_ret;rw[HRV.out];exact⟨rfl,HG1.out⟩
theorem a3W(w:World)(e:TypeId)(sz n base:Nat)(xs:List Value)(hl:xs.length=n*sz)(hb:base≤w.heap.size)(hn:n≤maxLen):(w.alloc (.cells xs.toArray e)).ownsRow base e sz (.slice (some ⟨w.heap.size,0,none⟩) n n) n xs:=
 ⟨hl, .inr ⟨w.heap.size,n,xs.toArray,rfl,hb,heap_alloc_new w _,Nat.le_refl _,hn,by simpa using hl,by simp[←hl]⟩⟩
def q0:Qs:=⟨none,0,none,0⟩
def O9(qf:Nat→Qs)(i:Nat):Qs:=if i<9 then q0 else qf (i-9)
theorem a9h:A7.length=9:=rfl
theorem a7W{f g:α→List β}:∀{l:List α},(∀x∈l,f x=g x)→l.flatMap f=l.flatMap g
 | [],_=>rfl
 |a::l,h=>by rw[List.flatMap_cons,List.flatMap_cons,h a (by simp),a7W (fun x hx=>h x (by simp[hx]))]
theorem I4{base e n b:Nat}{v:Value}{xs:List Value}{cs:Array Value}{t:TypeId}(h:w.ownsRow base e sz v n xs)(hb:A3 w b cs t)(ht:t≠e):v.ownBlock≠some b:=by
 rcases h.2 with⟨rfl,-⟩|⟨g,cap,cur,rfl,-,hg,-⟩
 ·simp[Value.ownBlock]
 ·simp only[Value.ownBlock,ne_eq,Option.some.injEq];rintro rfl;rw[show w.heap[g]? =some (.cells cs t (0,0))from hb]at hg;cases hg;exact ht rfl
structure Gvn(w:World)(lim:Nat)(fs:List Cl)(qf:Nat→Qs):Prop where
 fields:l9 w lim fs qf
 meths:S8 w lim fs qf
 sz:∀i,i<fs.length→Szc (cl fs i)
 names:∀i,i<fs.length→(cl fs i).name.size≤maxLen∧(cl fs i).super.size≤maxLen
 memb:∀i,i<fs.length→(cl fs i).fields.length≤255∧(cl fs i).methods.length≤255
 few:fs.length≤12
theorem Gvn.keep{qf:Nat→Qs}(h:Gvn w lim fs qf)(hg:w.grownBy w' none):Gvn w' lim fs qf:=
 ⟨fun i hi=>(h.fields i hi).keep hg,h.meths.keep hg,h.sz,h.names,h.memb,h.few⟩
theorem b2q(hi:9≤i)(hk:i-9<k)(hf:i-9<fs.length):cl (A7++fs.take k) i=cl fs (i-9):=by
 obtain⟨j,rfl⟩:∃j,i=9+j:=⟨i-9,by omega⟩
 rw[T2,Nat.add_sub_cancel_left];unfold cl;rw[List.getD_eq_getElem?_getD,List.getElem?_take,if_pos (by omega),←List.getD_eq_getElem?_getD]
theorem a8N(hk:k≤fs.length):(A7++fs.take k).length=9+k:=by simp[a9h];omega
theorem a3S(hi:i<9):(cl A7 i).fields=[]∧(cl A7 i).methods=[]∧(cl A7 i).name.size≤maxLen∧(cl A7 i).super.size≤maxLen:=by
 rcases a3C hi with rfl|rfl|rfl|rfl|rfl|rfl|rfl|rfl|rfl<;>exact⟨rfl,rfl,by decide,by decide⟩
section
variable{w:World}{lim:Nat}{fs:List Cl}{qf:Nat→Qs}{k:Nat}
theorem Gvn.partF(h:Gvn w lim fs qf)(hk:k≤fs.length):l9 w lim (A7++fs.take k) (O9 qf):=fun i hi=>by
 rw[a8N hk]at hi;by_cases h9:i<9
 ·rw[U8 h9,(a3S h9).1];intro j hj;cases hj
 ·rw[b2q (by omega) (by omega) (by omega),O9,if_neg h9];exact h.fields _ (by omega)
theorem Gvn.partM(h:Gvn w lim fs qf)(hk:k≤fs.length):S8 w lim (A7++fs.take k) (O9 qf):=fun i hi=>by
 rw[a8N hk]at hi;by_cases h9:i<9
 ·rw[U8 h9,(a3S h9).2.1];intro j hj;cases hj
 ·rw[b2q (by omega) (by omega) (by omega),O9,if_neg h9];exact h.meths _ (by omega)
end
variable {p:Nat→Bool}
variable {lim lim' n:Nat}
theorem b0h{k:Nat}(hk:k<n)(h:p k=true)(hb:∀j,j<k→p j=false):a0j p n=some k:=by
 cases hf:a0j p n with
 |none=>rw[a6A hf k hk]at h;cases h
 |some i=>
  unfold a0j at hf;have h1:=List.find?_some hf
  have h2:k<i→False:=fun hlt=>by
   have:=List.find?_eq_some_iff_append.1 hf;obtain⟨-,us,vs,e,hno⟩:=this
   have hlen:us.length=i:=by
    have h3:(List.range n)[us.length]? =some i:=by rw[e];simp
    have h4:=List.getElem?_range (n:=n) (i:=us.length) (by
     have:=(List.getElem?_eq_some_iff.1 h3).1;simpa using this)
    rw[h4]at h3;injection h3
   have h5:(List.range n)[k]? =us[k]? :=by rw[e,List.getElem?_append_left (by omega)]
   rw[List.getElem?_range hk]at h5;have:=hno k (List.mem_of_getElem? h5.symm);rw[h]at this;cases this
  rcases Nat.lt_trichotomy i k with h3|h3|h3
  ·rw[hb i h3]at h1;cases h1
  ·rw[h3]
  ·exact(h2 h3).elim
theorem b5X(h:∀j,j<n→p j=false):a0j p n=none:=by
 unfold a0j;rw[List.find?_eq_none];intro j hj;rw[h j (List.mem_range.1 hj)];simp
variable {w:World}
variable {L:List Cl}
variable {q:Nat→Qs}
theorem l9.upto(h:l9 w lim L q)(hl:lim≤lim'):l9 w lim' L q:=fun i hi=>(h i hi).upto hl
theorem PM.upto{a:Option Addr}{ms:List Me}(h:PM w lim a ms)(hl:lim≤lim'):PM w lim' a ms:=fun j hj=>by
 obtain⟨p,pa,ca,ha,pk,ck,hk,h1,h2,h3,h4,h5,h6⟩:=h j hj;exact⟨p,pa,ca,ha,pk,ck,hk,h1,Nat.lt_of_lt_of_le h2 hl,h3.upto hl,h4.upto hl,h5.upto hl,h6⟩
theorem S8.upto(h:S8 w lim L q)(hl:lim≤lim'):S8 w lim' L q:=fun i hi=>PM.upto (h i hi) hl
open Go.RowKit
section
variable{F:Fence}{n:Nat}{P:Program}
variable {α:Type}
def b2U(F:Fence)(n:Nat)(P:Program)(g:Nat)(lb:Array Value)(encs:α→Array Value)(Kp:World→World→Prop)(S Sp:List α→Prop)(N:Nat)(w:World):Prop:=
 ∀(l:Nat) (mu:World→Nat) (J Jx:List α→World→Prop) (W:World),Below w.heap.size w W→AbidesFrom W.heap.size J→AbidesFrom W.heap.size Jx→
  (∀pre W1,J pre W1→pre.length<N∧mu W1+pre.length=N)→
  (∀pre x W1,J pre W1→YieldAt F (n-1) P l (encs x) W1 fun e W'=>(e= .returned (.bool true)∧J (pre++ [x]) W'∧Kp W1 W')∨(e= .returned (.bool false)∧Jx (pre++ [x]) W'))→
  J [] W→CallsIn F n P g (#[.func (.yield l) #[] #[]]++lb) W fun e W'=>(∃v,e= .returned v)∧((∃xs,S xs∧J xs W')∨(∃pre,Sp pre∧Jx pre W'))
structure j9(w W:World)(r:Loop):Prop where
 loop:W.heap[w.heap.size+1]? =some (.loop r)
 block:W.heap[w.heap.size]? =some (.deferred (some []))
variable {A B w:World}
variable {r:Loop}
theorem j9.grown{row:Option Nat}(h:j9 w A r)(hg:A.grownBy B row)(hr:∀k,row=some k→∃o:Obj,A.heap[k]? =some o∧o.isWalk=true):j9 w B r:=
 ⟨(grownBy_keeps hg hr h.loop rfl).trans h.loop,(grownBy_keeps hg hr h.block rfl).trans h.block⟩
theorem j9.kept(h:j9 w A r)(hk:KeepsFrom w.heap.size A B):j9 w B r:=
 ⟨hk.same _ _ (Nat.le_succ _) h.loop rfl,hk.same _ _ (Nat.le_refl _) h.block rfl⟩
theorem j9.put{r':Loop}(h:j9 w A r):j9 w (A.putObj (w.heap.size+1) (.loop r')) r':=
 ⟨World.putObj_heap_same (Array.getElem?_eq_some_iff.1 h.loop).1,(World.putObj_heap_other (by omega)).trans h.block⟩
theorem b6B{g:Operand}{ps:Array Tmp}{assign body:Code}{Q:Exit→Act→World→Prop}{a:Act}(hro:F.round=none)(h1:1≤n)
 {gf:Nat} {lb:Array Value} (hg:a.eval g= .func (.func gf) #[] lb) (hFg:F.fn gf) (eg:∀args w,(callFunc gf args).run P w= .ok (.enter gf args) w)
 {encs:α→Array Value} {Kp:World→World→Prop} {S Sp:List α→Prop} {N:Nat} {w0:World} (hseq:b2U F (n-1) P gf lb encs Kp S Sp N w0)
 (hKt:∀{A B C:World},Kp A B→Kp B C→Kp A C) (hKb:∀(W:World) (l:Nat) (o o':Obj),w.heap.size≤l→W.heap[l]? =some o→o.isCells=false→o.isWalk=false→Kp W (W.putObj l o'))
 (hb0:Below w0.heap.size w0 w) (hps:∀x,(encs x).size=ps.size) (mu:World→Nat)
 (I:List α→World→Prop) (Ix:Code→List α→World→Prop) (hI:OwnFrom w.heap.size I) (hIx:∀c,OwnFrom w.heap.size (Ix c)) (hmu:∀pre W,I pre W→pre.length<N∧mu W+pre.length=N)
 (h0:I [] w) (Ax:α→Act→World→Prop) (hAx:∀x a',OwnFrom w.heap.size (fun(_:Unit) W=>Ax x a' W))
 (hassign:∀(l:Nat) (pre:List α) (x:α) (W:World) (K:Act→World→Prop),I pre W→(∀a' W',KeepsFrom w.heap.size W W'→Kp W W'→I pre W'→Ax x a' W'→K a' W')→
   assign.wpIn (F.inRound l) (n-1-1) P (Exit.then K (fun _ _ _=>False)) {tmps:=(ps.zip (encs x)).foldl (fun t (p,v)=>t.setIfInBounds p v) a.tmps,defers:=[]} W)
 (hbody:∀(l:Nat) (pre:List α) (x:α) (a':Act) (W:World),I pre W→Ax x a' W→body.wpIn (F.inRound l) (n-1-1) P (ownPostG w.heap.size Kp I Ix (pre++ [x]) W) a' W)
 (hdone:∀(D:Nat) (xs:List α) (W:World),w.heap.size≤D→S xs→I xs W→W.heap[D]? =some (.deferred (some []))→Q .normal {a with defers:={target:= .collected D,args:= #[]}::a.defers} W)
 (hstop:∀(D:Nat) (c:Code) (pre:List α) (W:World),w.heap.size≤D→Sp pre→Ix c pre W→W.heap[D]? =some (.deferred (some []))→c.wpIn F n P Q {a with defers:={target:= .collected D,args:= #[]}::a.defers} W):
 (Code.rangeFunc g ps assign body).wpIn F n P Q a w:=by
 refine wpIn_rangeFunc fun fn hfn=> ?_
 rw[hro];generalize hrec:(fun(st:LoopState) (pe:Option Code)=>({state:=st,pending:=pe,fn,tmps:=a.tmps,params:=ps,assign,body,defers:=w.heap.size}:Loop))=rec;have hst:∀st pe,rec st pe={state:=st,pending:=pe,fn,tmps:=a.tmps,params:=ps,assign,body,defers:=w.heap.size}:=fun st pe=>by rw[←hrec]
 generalize hW1:(w.alloc (.deferred (some []))).alloc (.loop (rec .ready none))=W1;have hsz:W1.heap.size=w.heap.size+2:=by rw[←hW1];simp
 have hT1:j9 w W1 (rec .ready none):=by
  rw[←hW1];refine⟨?_,(Below.heap_alloc _ _ _ (by simp)).trans (World.alloc_heap_new w _)⟩;have:=World.alloc_heap_new (w.alloc (.deferred (some []))) (.loop (rec .ready none));rwa[World.size_alloc]at this
 have hI1:I [] W1:=by rw[←hW1];exact hI.alloc _ (hI.alloc _ h0)
 have hb1:Below w0.heap.size w0 W1:=by rw[←hW1];exact hb0.trans ((((Below.refl _ w).alloc (Nat.le_refl _) _).alloc (by simp) _).mono hb0.size)
 refine⟨w.heap.size+1,[{target:= .collected w.heap.size,args:= #[]}],W1,{target:= .fn (.func gf) lb,args:= #[.func (.yield (w.heap.size+1)) #[] #[]]},W1,gf, #[.func (.yield (w.heap.size+1)) #[] #[]]++lb,W1,?_,?_,?_,?_,fun _=>h1,?_⟩
 ·rw[←hW1,hst];exact run_enterLoop_outer _ _ _ _ _
 ·simp only[resolve,hg];simp[go_sem]
 ·intro f' hf';simp[Target.leads]at hf';subst hf';exact hFg
 ·simp[invoke,go_sem,eg]
 have hfar:∀{A:World} {row:Option Nat},(∀r,row=some r→W1.heap.size≤r∧∃o:Obj,A.heap[r]? =some o∧o.isWalk=true)→∀r,row=some r→w.heap.size≤r∧∃o:Obj,A.heap[r]? =some o∧o.isCells=false:=fun hr r e=>by
  obtain⟨hB,o,ho,hw⟩:=hr r e;exact⟨by omega,o,ho,Obj.not_cells_of_walk hw⟩
 have hturn:∀{pre:List α} {A:World} {r r':Loop},I pre A→j9 w A r→I pre (A.putObj (w.heap.size+1) (.loop r')):=fun hi hT=>hI.putObj _ hi (by omega) hT.loop rfl
 have hkp:∀{A:World} {r r':Loop},j9 w A r→Kp A (A.putObj (w.heap.size+1) (.loop r')):=fun hT=>hKb _ _ _ _ (by omega) hT.loop rfl rfl
 have hend:∀(jump:Option Code) {W3:World},j9 w W3 (rec .busy none)→(Instr.endRound (w.heap.size+1) jump).run P W3= .ok (.bool jump.isNone) (W3.putObj (w.heap.size+1) (.loop (rec (if jump.isNone then .ready else .done) jump))):=fun jump W3 hT=>by
  have:=run_endRound (P:=P) jump hT.loop;rw[hst]at this⊢;exact this
 refine(hseq (w.heap.size+1) mu (fun pre W=>I pre W∧j9 w W (rec .ready none)) (fun pre W=>∃c,Ix c pre W∧j9 w W (rec .done (some c))) W1 hb1
  (fun s A B row hs hg' hr=>⟨hI s A B row hs.1 hg' (hfar hr),hs.2.grown hg' (fun r e=>(hr r e).2)⟩)
  (fun s A B row hs hg' hr=>hs.elim fun c hc=>⟨c,hIx c s A B row hc.1 hg' (hfar hr),hc.2.grown hg' (fun r e=>(hr r e).2)⟩)
  (fun pre W hj=>hmu pre W hj.1) ?_ ⟨hI1,hT1⟩).mono ?_
 ·rintro pre x W ⟨hi,hT⟩;have hy:=run_yield (P:=P) (args:=encs x) hT.loop (by rw[hst];exact hps x);rw[hst]at hy;refine⟨fn,_,assign,body,hy,roundIn_of_wpIn hfn (hassign _ pre x W _ hi fun a' Wa hka hpa hia hax=> ?_)⟩;have hTa:=hT.kept hka;refine⟨Wa.putObj (w.heap.size+1) (.loop (rec .busy none)),?_,wpIn_mono (hbody _ pre x a' _ (hturn hia hTa) ((hAx x a').putObj (s:=()) _ hax (by omega) hTa.loop rfl)) ?_⟩
  ·have:=run_beginRound (P:=P) hTa.loop (by rw[hst]);rw[hst]at this⊢;exact this
  ·have hp2:Kp W (Wa.putObj (w.heap.size+1) (.loop (rec .busy none))):=hKt hpa (hkp hTa);rintro e a3 W3 hp
   have hout:∀c,KeepsFrom w.heap.size (Wa.putObj (w.heap.size+1) (.loop (rec .busy none))) W3→Ix c (pre++ [x]) W3→∃v w',(Instr.endRound (w.heap.size+1) (some c)).run P W3= .ok v w'∧
    ((Ending.returned v= .returned (.bool true)∧(I (pre++ [x]) w'∧j9 w w' (rec .ready none))∧Kp W w')∨(Ending.returned v= .returned (.bool false)∧∃c,Ix c (pre++ [x]) w'∧j9 w w' (rec .done (some c)))):=fun c hk hx=>by
    have hT3:=(hTa.put (r':=rec .busy none)).kept hk;exact⟨_,_,hend (some c) hT3, .inr ⟨rfl,c,(hIx c).putObj _ hx (by omega) hT3.loop rfl,hT3.put⟩⟩
   cases e with
   |normal=>
    obtain⟨hk,hp3,hi3⟩:=hp;have hT3:=(hTa.put (r':=rec .busy none)).kept hk;exact⟨_,_,hend none hT3, .inl ⟨rfl,⟨hturn hi3 hT3,hT3.put⟩,hKt (hKt hp2 hp3) (hkp hT3)⟩⟩
   |ret=>exact hout .ret hp.1 hp.2
   |exit id=>exact hout (.exit id) hp.1 hp.2
   |goto t=>exact hout (.goto t) hp.1 hp.2
   |panic ch=>exact hp.elim
   |outgrown=>exact hp.elim
 ·have hover:∀(st:LoopState) (pe:Option Code) {W2:World},st≠ .busy→j9 w W2 (rec st pe)→(Instr.endLoop (w.heap.size+1)).run P W2= .ok pe (W2.putObj (w.heap.size+1) (.loop (rec .exhausted pe))):=fun st pe W2 hne hT=>by
   have:=run_endLoop (P:=P) hT.loop (by rw[hst];exact hne);rw[hst]at this⊢;exact this
  rintro e W2 ⟨⟨v,rfl⟩,(⟨xs,hS,hi,hT⟩|⟨pre,hSp,c,hi,hT⟩)⟩
  ·exact⟨none,_,hover .ready none (by simp) hT,hdone _ xs _ (Nat.le_refl _) hS (hturn hi hT) hT.put.block⟩
  ·exact⟨some c,_,hover .done (some c) (by simp) hT,hstop _ c pre _ (Nat.le_refl _) hSp ((hIx c).putObj _ hi (by omega) hT.loop rfl) hT.put.block⟩
end
theorem b0P{w:World}{m k:Nat}{l:List (Ky×Nat)}(h:w.ownsMap (H:=Unit) prog 255 (plainElem prog 3) m k (O2 l))(c n:ByteArray)(hc:c.size≤maxLen)(hn:n.size≤maxLen)(r:Option Nat)(hr:K5 l (L9 c n)=r):
 (Instr.lookup 149 (.map (some m)) (.agg #[.string c, .string n]) false).run prog w= .ok (.int .i64 (r.getD 0:Nat)) w:=by
 obtain⟨d,h1,h2,-⟩:=h.lookup_int a5b underlying149 underlying3 (a0y w) (a3Q c n hc hn);have ha:(O2 l).atKey (.string (L9 c n)) (.lit (.int .i64 0))= .lit (.int .i64 (r.getD 0:Nat)):=by rw[(a4P l).at_,hr]
 rw[ha]at h2;simp only[DataW.lit.injEq,Lit.int.injEq,true_and]at h2;subst h2;exact h1
theorem l9.keep{w w':World}{lim:Nat}{L:List Cl}{q:Nat→Qs}(h:l9 w lim L q)(hg:w.grownBy w' none):l9 w' lim L q:=fun i hi=>(h i hi).keep hg
theorem b4D(L:List Cl)(c n:ByteArray):∃(fk:Nat) (fn:ByteArray),a4b L c n= .tuple #[.agg #[.int .i64 fk, .string fn], .bool (T1 L c n).isSome]:=by
 unfold a4b;cases T1 L c n with
 |none=>exact⟨0,⟨#[]⟩,rfl⟩
 |some p=>exact⟨_,_,rfl⟩
theorem b8t{c:Cl}{j:Nat}(hj:j<c.fields.length):∃k,Y7 c c.fields[j].name=some k:=by
 cases h:Y7 c c.fields[j].name with
 |some k=>exact⟨k,rfl⟩
 |none=>
  unfold Y7 at h;have:=List.findIdx?_eq_none_iff.1 h c.fields[j] (List.getElem_mem hj);simp at this
theorem b9B{c:Cl}{j:Nat}(hj:j<c.methods.length):∃k,N5 c c.methods[j].name=some k:=by
 cases h:N5 c c.methods[j].name with
 |some k=>exact⟨k,rfl⟩
 |none=>
  unfold N5 at h;have:=List.findIdx?_eq_none_iff.1 h c.methods[j] (List.getElem_mem hj);simp at this
def a3D(L:List Cl)(i j:Nat):Bool:=(T1 L (cl L i).super ((cl L i).fields.getD j ⟨C5,0,C5⟩).name).isSome||decide (Y7 (cl L i) ((cl L i).fields.getD j ⟨C5,0,C5⟩).name≠some j)
def a4l(L:List Cl)(i j:Nat):Bool:=decide (N5 (cl L i) (((cl L i).methods.map (·.name)).getD j C5)≠some j)
theorem c2q(L:List Cl)(i:Nat):mbP L i=((List.range (cl L i).fields.length).any (a3D L i)||(List.range (cl L i).methods.length).any (a4l L i)):=rfl
theorem b4f(w:World)(lim b:Nat)(L:List Cl)(p:Addr)(cap m1 m2 m3:Nat)(q:Nat→Qs)(h:Hid (G9 w lim b L p cap m1 m2 m3 q))(hl:lim≤w.heap.size)(hU:Hid (UpL L))(hD:Hid (a0L L))(hZf:Hid (z9 K2 L))(hZm:Hid (z9 G2 L))(hF:Hid (l9 w lim L q))(hP:Hid (S8 w lim L q))(hZ:Hid (SzL L))(i:Nat)(hi:i<L.length):
 Calls prog 162 #[.pointer (some ⟨b,0,none⟩), .int .i64 i] w fun e w'=>e= .returned (.bool (mbP L i))∧w.grownBy w' none:=by
 have c0:=h.out.c0;have hpc:=h.out.row i hi;have f0:w.cell? (p.add (i*4))=some (.string (cl L i).name):=hpc 0 _ rfl;have f1:w.cell? ⟨(p.add (i*4)).block,(p.add (i*4)).off+1,none⟩=some (.string (cl L i).super):=by rw[C0 p (i*4) 0];exact hpc 1 _ rfl
 have f2:w.cell? ⟨(p.add (i*4)).block,(p.add (i*4)).off+2,none⟩=some (.slice (q i).fa (cl L i).fields.length (q i).fk):=by rw[C0 p (i*4) 1];exact hpc 2 _ rfl
 have f3:w.cell? ⟨(p.add (i*4)).block,(p.add (i*4)).off+3,none⟩=some (.slice (q i).ma (cl L i).methods.length (q i).mc):=by rw[C0 p (i*4) 2];exact hpc 3 _ rfl
 clear hpc;have hfl:=(hZ.out i hi).2.2.1;have hml:=(hZ.out i hi).2.2.2;have hn1:=(h.out.names i hi).1;have hn2:=(h.out.names i hi).2;have HMB:=A0 (c2q L i);obtain⟨cc,hcc⟩:∃cc,cc=cl L i:=⟨_,rfl⟩
 have HCC:=A0 hcc;rw[←hcc]at f0 f1 f2 f3 hfl hml hn1 hn2 HMB;clear hcc;go_enter func162,ntmps162;go_wp2_with fail
 obtain⟨W1,hW1⟩:∃W1,W1=w.alloc (.cells #[.string cc.name, .string cc.super, .slice (q i).fa cc.fields.length (q i).fk, .slice (q i).ma cc.methods.length (q i).mc] 44):=⟨_,rfl⟩
 have HG1:Hid (w.grownBy W1 none):=by rw[hW1];exact A2 _ _ _
 have HB1:Hid (A3 W1 w.heap.size #[.string cc.name, .string cc.super, .slice (q i).fa cc.fields.length (q i).fk, .slice (q i).ma cc.methods.length (q i).mc] 44):=by rw[hW1];exact A3.new w _ _
 rw[←hW1];clear hW1;go_loopw [22] (fun k wr=>∃j:Nat,j≤cc.fields.length∧k= .int .i64 j∧W1.grownBy wr none∧∀r,r<j→a3D L i r=false) (fun k _=>cc.fields.length-(intOf k).toNat)
 case atStart=>exact a5u
 case round=>
  obtain⟨j,hj,rfl,hgr,hv⟩:=hrel;have HG:=A0 hgr;have HV:=A0 hv;have HGW:=A0 (A1 HG1.out HG.out);clear hgr hv;by_cases hlt:j<cc.fields.length
  ·obtain⟨pp,hpp,hpb,hpc⟩:=(hF.out i hi).keep HGW.out j (by rw[←HCC.out];exact hlt);obtain⟨t,ht⟩:∃t,t=cc.fields[j]:=⟨_,rfl⟩
   have hpc':∀r u,(H8 t)[r]? =some u→wr.cell? (pp.add (j*3+r))=some u:=by
    intro r u hu;refine hpc r u ?_;rw[ht]at hu;simpa only[HCC.out]using hu
   have g0:wr.cell? (pp.add (j*3))=some (.string t.name):=hpc' 0 _ rfl;have g1:wr.cell? ⟨(pp.add (j*3)).block,(pp.add (j*3)).off+1,none⟩=some (.int .i64 t.ty.kind):=by rw[C0 pp (j*3) 0];exact hpc' 1 _ rfl
   have g2:wr.cell? ⟨(pp.add (j*3)).block,(pp.add (j*3)).off+2,none⟩=some (.string t.ty.name):=by rw[C0 pp (j*3) 1];exact hpc' 2 _ rfl
   have HGa:∀ob,Hid (w.grownBy (wr.alloc ob) none):=fun ob=>A1 HGW.out (A2 wr ob none)
   have HKa:∀ob,Hid (G9 (wr.alloc ob) lim b L p cap m1 m2 m3 q):=fun ob=>h.out.keep (HGa ob).out hl
   have hla:=fun ob=>Nat.le_trans hl (HGa ob).out.size
   have HFa:∀ob,Hid (l9 (wr.alloc ob) lim L q):=fun ob=>hF.out.keep (HGa ob).out
   have hmem:t∈cc.fields:=by rw[ht];exact List.getElem_mem hlt
   have hts:=((hZ.out i hi).2.1 t (by rw[←HCC.out];exact hmem)).2;obtain⟨fx,hfx⟩:=b8t hlt;rw[←ht]at hfx;have HFX:=A0 hfx;have HBr:=A0 (HB1.out.keep HG.out (by simp));have hBa:=HBr.out.keep (A2 wr (.cells #[.string t.name, .int .i64 t.ty.kind, .string t.ty.name] 129) none) (by simp);obtain⟨ca0,ca1⟩:=hBa.q2;obtain⟨fk,fn,hfo⟩:=b4D L cc.super t.name;obtain⟨ab,hab⟩:∃ab,ab=(T1 L cc.super t.name).isSome:=⟨_,rfl⟩
   rw[←hab]at hfo;have HFO:=A0 hfo
   have HBD:Hid (a3D L i j=(ab||decide (fx≠j))):=by
    have hgd:(cl L i).fields.getD j ⟨C5,0,C5⟩=t:=by rw[←HCC.out,ht,List.getD_eq_getElem?_getD,List.getElem?_eq_getElem hlt];rfl
    unfold Hid a3D;rw[hgd,←HCC.out,HFX.out,hab];simp
   have hr0:K5 (N3 K2 L) (L9 cc.name t.name)=some fx:=by rw[HCC.out,a5J K2 hD.out hZf.out hi t.name hts,b0A,←HCC.out];exact hfx
   rw[hpp];clear hpc hpc' ht f0 f1 f2 f3 c0 hfx hfo hab;go_wp2_with (go_at_call 248;go_loud (refine(a8I _ lim b L p cap m1 m2 m3 q (HKa _) (hla _) hU hD hZf (HFa _) cc.super t.name hn2 hts).mono ?_;rintro e w3 ⟨rfl,hg3⟩;rw[HFO.out];have hBc:=hBa.keep hg3 (by simp);have HG3:=A0 (A1 (HGa _).out hg3);have HG3':=A0 (A1 (A1 HG.out (A2 wr _ none)) hg3);have hBf:=(A3.new wr #[.string t.name, .int .i64 t.ty.kind, .string t.ty.name] 129).keep hg3 (by simp));try dsimp only)
   have HGo:Hid (w3.grownBy (w3.alloc (.cells #[.int .i64 fk, .string fn] 98)) none):=A2 _ _ none;have HG4:=A0 (A1 HG3.out HGo.out);have HG4':=A0 (A1 HG3'.out HGo.out);have HK4:=A0 (h.out.keep HG4.out hl);have d2:=HK4.out.c2;have hBd:=hBc.keep HGo.out (by simp);have hBe:=hBf.keep HGo.out (by simp);have d0:=hBd.c0;have d1:=hBe.c0;have hrun:=fun k:Nat=>b0P (w:=(w3.alloc (.cells #[.int .i64 fk, .string fn] 98)).drewN k) HK4.out.n2 cc.name t.name hn1 hts _ hr0
   simp only[Option.getD_some]at hrun;clear ca0 ca1 hBa hBc hBf hBd hBe hr0;cases ab with
   |true=>
    have HYES:Hid (mbP L i=true):=by
     have:(List.range cc.fields.length).any (a3D L i)=true:=List.any_eq_true.2 ⟨j,List.mem_range.2 hlt,by rw[HBD.out];rfl⟩;unfold Hid;rw[HMB.out,this];rfl
    go_quiet (fail)
    go_wp2
    go_ret;rw[HYES.out];exact⟨rfl,A1 HG4.out (K3 _ _ _)⟩
   |false=>
    by_cases hfj:fx=j
    ·subst hfj;have HNO:Hid (a3D L i fx=false):=by unfold Hid;rw[HBD.out];simp
     go_quiet (fail)
     go_wp2
     go_roundw
     case rel=>exact c5p
     case measure=>simp[intOf];omega
    ·have HYES:Hid (mbP L i=true):=by
      have:(List.range cc.fields.length).any (a3D L i)=true:=List.any_eq_true.2 ⟨j,List.mem_range.2 hlt,by rw[HBD.out];simp[hfj]⟩;unfold Hid;rw[HMB.out,this];rfl
     have hN:((fx:Int)==(j:Int))=false:=by simp;omega
     go_quiet (fail)
     go_wp2
     go_ret;rw[HYES.out];exact⟨rfl,A1 HG4.out (K3 _ _ _)⟩
  ·have hjn:j=cc.fields.length:=by omega
   subst hjn;have HFA:Hid ((List.range cc.fields.length).any (a3D L i)=false):=List.any_eq_false.2 (fun r hr=>by rw[HV.out r (List.mem_range.1 hr)];simp);have HBr:=A0 (HB1.out.keep HG.out (by simp));have c7:=HBr.out.c3;clear HV hlt f0 f1 f2 f3 c0;go_wp2_with fail
   go_loopw [55] (fun k wx=>∃j:Nat,j≤cc.methods.length∧k= .int .i64 j∧W1.grownBy wx none∧∀r,r<j→a4l L i r=false) (fun k _=>cc.methods.length-(intOf k).toNat)
   case atStart=>exact⟨0,Nat.zero_le _,rfl,HG.out,fun r hr=>by omega⟩
   case round=>
    obtain⟨j,hj,rfl,hgr,hv⟩:=hrel;have HG5:=A0 hgr;have HV:=A0 hv;have HGW5:=A0 (A1 HG1.out HG5.out);clear hgr hv;by_cases hlt:j<cc.methods.length
    ·have hjm:j<(cl L i).methods.length:=by rw[←HCC.out];exact hlt
     obtain⟨pm,pa,ca,ha,pk,ck,hk,e1,e2,e3,e4,e5,e6⟩:=hP.out.keep HGW5.out i hi j hjm;obtain⟨md,hmd⟩:∃md,md=(cl L i).methods.getD j I9:=⟨_,rfl⟩
     rw[←hmd]at e6;have hmd2:md=cc.methods[j]:=by rw[hmd,←HCC.out,List.getD_eq_getElem?_getD,List.getElem?_eq_getElem hlt];rfl
     have f0:wr.cell? (pm.add (j*8))=some (.string md.name):=e6 0 _ rfl;have f1:wr.cell? ⟨(pm.add (j*8)).block,(pm.add (j*8)).off+1,none⟩=some (.slice pa md.params.length pk):=by rw[C0 pm (j*8) 0];exact e6 1 _ rfl
     have f2:wr.cell? ⟨(pm.add (j*8)).block,(pm.add (j*8)).off+2,none⟩=some (.int .i64 md.ret.kind):=by rw[C0 pm (j*8) 1];exact e6 2 _ rfl
     have f3:wr.cell? ⟨(pm.add (j*8)).block,(pm.add (j*8)).off+3,none⟩=some (.string md.ret.name):=by rw[C0 pm (j*8) 2];exact e6 3 _ rfl
     have f4:wr.cell? ⟨(pm.add (j*8)).block,(pm.add (j*8)).off+4,none⟩=some (.int .i64 md.stack):=by rw[C0 pm (j*8) 3];exact e6 4 _ rfl
     have f5:wr.cell? ⟨(pm.add (j*8)).block,(pm.add (j*8)).off+5,none⟩=some (.int .i64 md.locals):=by rw[C0 pm (j*8) 4];exact e6 5 _ rfl
     have f6:wr.cell? ⟨(pm.add (j*8)).block,(pm.add (j*8)).off+6,none⟩=some (.slice ca md.code.length ck):=by rw[C0 pm (j*8) 5];exact e6 6 _ rfl
     have f7:wr.cell? ⟨(pm.add (j*8)).block,(pm.add (j*8)).off+7,none⟩=some (.slice ha md.handlers.length hk):=by rw[C0 pm (j*8) 6];exact e6 7 _ rfl
     have hts:md.name.size≤maxLen:=by
      refine(hZm.out (cl L i) (by rw[R8 hi];exact List.getElem_mem hi)).2 md.name ?_;unfold G2;rw[←HCC.out];exact List.mem_map.2 ⟨md,by rw[hmd2];exact List.getElem_mem hlt,rfl⟩
     obtain⟨fx,hfx⟩:=b9B hlt;rw[←hmd2]at hfx;have HFX:=A0 hfx
     have HBD:Hid (a4l L i j=decide (fx≠j)):=by
      have hgd:((cl L i).methods.map (·.name)).getD j C5=md.name:=by rw[←HCC.out,hmd2,List.getD_eq_getElem?_getD,List.getElem?_map,List.getElem?_eq_getElem hlt];rfl
      unfold Hid a4l;rw[hgd,←HCC.out,HFX.out];simp
     have hr0:K5 (N3 G2 L) (L9 cc.name md.name)=some fx:=by rw[HCC.out,a5J G2 hD.out hZm.out hi md.name hts,a6E,←HCC.out];exact hfx
     have HGo:Hid (wr.grownBy (wr.alloc (.cells (mV md pa pk ca ck ha hk) 102)) none):=A2 _ _ none;have HG4:=A0 (A1 HGW5.out HGo.out);have HG4':=A0 (A1 HG5.out HGo.out);have HK4:=A0 (h.out.keep HG4.out hl);have d2:=HK4.out.c3;have hBd:=HB1.out.keep HG4'.out (by simp);have hBe:=A3.new wr (mV md pa pk ca ck ha hk) 102;have d0:=hBd.c0;have d1:=hBe.c0;have hrun:=fun k:Nat=>b0P (w:=(wr.alloc (.cells (mV md pa pk ca ck ha hk) 102)).drewN k) HK4.out.n3 cc.name md.name hn1 hts _ hr0
     simp only[Option.getD_some]at hrun;rw[e1];clear hBd hBe hr0 hfx hmd hmd2 e3 e4 e5 e6 c7;by_cases hfj:fx=j
     ·subst hfj;have HNO:Hid (a4l L i fx=false):=by unfold Hid;rw[HBD.out];simp
      go_wp2_with fail
      go_quiet (fail)
      go_wp2
      go_roundw
      case rel=>exact c5p
      case measure=>simp[intOf];omega
     ·have HYES:Hid (mbP L i=true):=by
       have:(List.range cc.methods.length).any (a4l L i)=true:=List.any_eq_true.2 ⟨j,List.mem_range.2 hlt,by rw[HBD.out];simp[hfj]⟩;unfold Hid;rw[HMB.out,this];simp
      have hN:((fx:Int)==(j:Int))=false:=by simp;omega
      go_wp2_with fail
      go_quiet (fail)
      go_wp2
      go_ret;rw[HYES.out];exact⟨rfl,A1 HG4.out (K3 _ _ _)⟩
    ·have hjn:j=cc.methods.length:=by omega
     subst hjn;have HMA:Hid ((List.range cc.methods.length).any (a4l L i)=false):=List.any_eq_false.2 (fun r hr=>by rw[HV.out r (List.mem_range.1 hr)];simp);have HNO:Hid (mbP L i=false):=by unfold Hid;rw[HMB.out,HFA.out,HMA.out];rfl
     clear HV hlt c7;go_wp2_with fail
     go_ret;rw[HNO.out];exact⟨rfl,HGW5.out⟩
attribute [local go_sem] Oper.semAt_some
theorem b9a(F:Fence)(n:Nat)(hF:F.fn 254)(hro:F.round=none)(hn:1≤n)(l n₀ b1 b2 lim b:Nat)(L:List Cl)(p:Addr)(cap m1 m2 m3:Nat)(q:Nat→Qs)(nm:ByteArray)(hnm:nm.size≤maxLen)(mu:World→Nat)
 (J Jx:List Nat→World→Prop)
 (hJa:∀pre A B,J pre A→A.grownBy B none→J pre B) (hJb:∀pre A B,Jx pre A→A.grownBy B none→Jx pre B)
 (hmu:∀pre W,J pre W→pre.length<L.length∧mu W+pre.length=L.length)
 (hY:∀pre x W,x<L.length→J pre W→YieldAt F (n-1) prog l #[a2o L q x] W fun e W'=>
   (e= .returned (.bool true)∧J (pre++ [x]) W'∧KpU n₀ b1 W W')∨(e= .returned (.bool false)∧Jx (pre++ [x]) W'))
 (W:World) (hb1:W.cell? ⟨b1,0,none⟩=some (.pointer (some ⟨b,0,none⟩))) (hb2:W.cell? ⟨b2,0,none⟩=some (.string nm)) (hK:Hid (G9 W lim b L p cap m1 m2 m3 q)) (hlim:lim≤n₀) (h0:J [] W):
 CallsIn F n prog 254 #[.func (.yield l) #[] #[], .pointer (some ⟨b1,0,none⟩), .pointer (some ⟨b2,0,none⟩)] W fun e W'=>(∃v,e= .returned v)∧
  ((∃ys,ys=E9 L L.length nm∧J ys W')∨(∃pre,pre<+:E9 L L.length nm∧Jx pre W')):=by
 have c1:=hK.out.c1;obtain⟨v5,hv5⟩:∃v,v=G3 L nm:=⟨_,rfl⟩
 obtain⟨v4,hv4⟩:∃v,v=(C3 L nm).getD 0:=⟨_,rfl⟩
 have hrun:=fun k:Nat=>a7i (w:=W.drewN k) hK.out.n1 nm hnm
 rw[←hv5,←hv4]at hrun;have HV5:=A0 hv5;have HV4:=A0 hv4;clear hv5 hv4;obtain⟨Ffn,Fd,Fa,Fr⟩:=F;obtain rfl:Fr=none:=hro;refine callsIn_of_wp func254 rfl hF ?_ rfl;simp only[ntmps254,List.size_toArray,List.length_cons,List.length_nil,Nat.reduceAdd,Nat.reduceSub,Array.replicate_succ,Array.replicate_zero,List.push_toArray,List.append_toArray,List.nil_append,List.cons_append];gi_wp2
 gi_quiet (fail)
 gi_wp2
 have hJ0:=hJa [] W _ h0 (K3 W nq none);have HK0:=A0 (hK.out.drewN nq);have hb1':(W.drewN nq).cell? ⟨b1,0,none⟩=some (.pointer (some ⟨b,0,none⟩)):=hb1;clear hb1 hb2 h0 hK c1 hrun
 gi_loopw [4,5] (fun u4 u5 wr=>∃(pre:List Nat) (nm':ByteArray),J pre wr∧E9 L L.length nm=pre++E9 L (L.length-pre.length) nm'∧nm'.size≤maxLen∧u4= .int .i64 ((C3 L nm').getD 0:Nat)∧u5= .bool (G3 L nm')∧G9 wr lim b L p cap m1 m2 m3 q∧wr.cell? ⟨b1,0,none⟩=some (.pointer (some ⟨b,0,none⟩)))
  (fun _ _ wz=>mu wz)
 case atStart=>exact⟨[],nm,hJ0,rfl,hnm,by rw[HV4.out],by rw[HV5.out],HK0.out,hb1'⟩
 case round=>
  clear hJ0 HK0 hb1' HV4 HV5;obtain⟨pre,nm',hJp,hup,hns,rfl,rfl,hkl,hb1⟩:=hrel;have HK:=A0 hkl;have HUP:=A0 hup;have hml:=hmu pre wr hJp;have HML:=A0 hml.2
  have hus:E9 L (L.length-pre.length) nm'=match C3 L nm' with|none=> []|some i=>i::E9 L (L.length-(pre.length+1)) (cl L i).super:=by
   obtain⟨k,hk⟩:∃k,L.length-pre.length=k+1:=⟨L.length-pre.length-1,by omega⟩
   rw[hk,show L.length-(pre.length+1)=k from by omega];rfl
  clear hml;clear hkl hup;cases hf:C3 L nm' with
  |none=>
   have hv5:G3 L nm'=false:=by unfold G3;rw[hf];rfl
   rw[hf]at hus;have HS:Hid (E9 L (L.length-pre.length) nm'=[]):=hus;rw[hv5];clear hus;gi_wp2
   refine⟨fun _ h=>(by cases h),?_⟩;gi_wp2
   go_end0;exact⟨⟨_,rfl⟩, .inl ⟨pre,by rw[HUP.out,HS.out,List.append_nil],hJp⟩⟩
  |some i=>
   have hv5:G3 L nm'=true:=by unfold G3;rw[hf];rfl
   have hi:=(M9 hf).1;rw[hf]at hus;have HS:Hid (E9 L (L.length-pre.length) nm'=i::E9 L (L.length-(pre.length+1)) (cl L i).super):=hus;obtain⟨fn,tmps,assign,body,hy,hR⟩:=hY pre i wr hi hJp;have hns2:=(HK.out.names i hi).2;have hpc:=HK.out.row i hi;have f0:wr.cell? (p.add (i*4))=some (.string (cl L i).name):=hpc 0 _ rfl;have f1:wr.cell? ⟨(p.add (i*4)).block,(p.add (i*4)).off+1,none⟩=some (.string (cl L i).super):=by rw[C0 p (i*4) 0];exact hpc 1 _ rfl
   have f2:wr.cell? ⟨(p.add (i*4)).block,(p.add (i*4)).off+2,none⟩=some (.slice (q i).fa (cl L i).fields.length (q i).fk):=by rw[C0 p (i*4) 1];exact hpc 2 _ rfl
   have f3:wr.cell? ⟨(p.add (i*4)).block,(p.add (i*4)).off+3,none⟩=some (.slice (q i).ma (cl L i).methods.length (q i).mc):=by rw[C0 p (i*4) 2];exact hpc 3 _ rfl
   have c0:=HK.out.c0;rw[hv5];simp only[Option.getD_some];clear hpc hus;have hy':(Instr.yield l #[.agg #[.string (cl L i).name, .string (cl L i).super, .slice (q i).fa (cl L i).fields.length (q i).fk, .slice (q i).ma (cl L i).methods.length (q i).mc]]).run prog wr= .ok (.round l fn tmps assign body) wr:=hy;clear hy;gi_wp2
   refine hR.mono ?_;rintro e W3 (⟨rfl,hJ3,hk3,hk4⟩|⟨rfl,hJx3⟩)
   ·have HK3:=A0 (HK.out.below hk3 hlim);have hb3:W3.cell? ⟨b1,0,none⟩=some (.pointer (some ⟨b,0,none⟩)):=by rw[World.cell?_of_block (w:=wr) hk4];exact hb1
    have c03:=HK3.out.c0;have c13:=HK3.out.c1;have f13:W3.cell? ⟨(p.add (i*4)).block,(p.add (i*4)).off+1,none⟩=some (.string (cl L i).super):=by rw[C0 p (i*4) 0];exact HK3.out.row i hi 1 _ rfl
    obtain⟨sp,hsp⟩:∃sp,sp=(cl L i).super:=⟨_,rfl⟩
    rw[←hsp]at f13 hns2;obtain⟨v52,hv52⟩:∃v,v=G3 L sp:=⟨_,rfl⟩
    obtain⟨v42,hv42⟩:∃v,v=(C3 L sp).getD 0:=⟨_,rfl⟩
    have hrun:=fun k:Nat=>a7i (w:=W3.drewN k) HK3.out.n1 sp hns2
    rw[←hv52,←hv42]at hrun;have HV5:=A0 hv52;have HV4:=A0 hv42;have HSP:=A0 hsp;clear hv52 hv42 hsp f0 f1 f2 f3 c0 hk3 hk4 hb1;gi_wp2
    gi_quiet (fail)
    go_roundw
    case rel=>
     exact⟨.int .i64 v42, .bool v52,_,_,_,_,_,_,_,_,_,_,_,_,_,_,_,_,_,_,_,_,_,_,_,_,_,_,_,_,⟨pre++ [i],sp,hJa _ _ _ hJ3 (K3 _ _ _),by rw[HUP.out,HS.out,HSP.out,List.length_append,List.length_singleton];simp,hns2,by rw[HV4.out],by rw[HV5.out],HK3.out.drewN _,hb3⟩,rfl⟩
    case measure=>
     have h1:=hmu (pre++ [i]) _ (hJa _ _ _ hJ3 (K3 W3 nq none));have h2:=HML.out;simp only[List.length_append,List.length_singleton]at h1;show mu (W3.drewN nq)<mu wr;omega
   ·gi_wp2
    go_end0;exact⟨⟨_,rfl⟩, .inr ⟨pre++ [i],⟨E9 L (L.length-(pre.length+1)) (cl L i).super,by rw[HUP.out,HS.out];simp⟩,hJx3⟩⟩
theorem c0I(F:Fence)(n:Nat)(hF:F.fn 254)(hro:F.round=none)(hn:1≤n)(n₀ b1 b2 lim b:Nat)(L:List Cl)(p:Addr)(cap m1 m2 m3:Nat)(q:Nat→Qs)(nm:ByteArray)(hnm:nm.size≤maxLen)(w:World)
 (h1:b1<w.heap.size) (h2:b2<w.heap.size) (hc1:w.cell? ⟨b1,0,none⟩=some (.pointer (some ⟨b,0,none⟩))) (hc2:w.cell? ⟨b2,0,none⟩=some (.string nm)) (hK:Hid (G9 w lim b L p cap m1 m2 m3 q)) (hlim:lim≤n₀) (hn0:n₀≤w.heap.size):
 b2U F n prog 254 #[.pointer (some ⟨b1,0,none⟩), .pointer (some ⟨b2,0,none⟩)] (fun i:Ci L=> #[a2o L q i.1]) (KpU n₀ b1) (fun ys=>U4 ys=E9 L L.length nm) (fun pre=>U4 pre<+:E9 L L.length nm) L.length w:=fun l mu J Jx W hW hJ hJx hmu hY h0=>by
 refine(b9a F n hF hro hn l n₀ b1 b2 lim b L p cap m1 m2 m3 q nm hnm mu (fun pre W=>∃pr:List (Ci L),U4 pr=pre∧J pr W) (fun pre W=>∃pr:List (Ci L),U4 pr=pre∧Jx pr W)
  (fun pre A B hj hg=>by obtain⟨pr,e,hj⟩:=hj;exact⟨pr,e,hJ pr A B none hj hg (fun r e=>by cases e)⟩) (fun pre A B hj hg=>by obtain⟨pr,e,hj⟩:=hj;exact⟨pr,e,hJx pr A B none hj hg (fun r e=>by cases e)⟩)
  (fun pre W hj=>by obtain⟨pr,rfl,hj⟩:=hj;simpa[U4]using hmu pr W hj)
  (fun pre x W1 hx hj=>by
    obtain⟨pr,rfl,hj⟩:=hj;refine(hY pr ⟨x,hx⟩ W1 hj).mono (fun e W' hr=> ?_);rcases hr with⟨h1,h2,h3⟩|⟨h1,h2⟩
    ·exact .inl ⟨h1,⟨_,by simp[U4],h2⟩,h3⟩
    ·exact .inr ⟨h1,⟨_,by simp[U4],h2⟩⟩) W
  ((hW.cell (p:=⟨b1,0,none⟩) h1).trans hc1) ((hW.cell (p:=⟨b2,0,none⟩) h2).trans hc2) (hK.out.below hW (Nat.le_trans hlim hn0)) hlim ⟨[],rfl,h0⟩).mono ?_
 rintro e W' ⟨hv,⟨ys,rfl,pr,he,hj⟩|⟨pre,hp,pr,rfl,hj⟩⟩
 ·exact⟨hv, .inl ⟨pr,he,hj⟩⟩
 ·exact⟨hv, .inr ⟨pr,hp,hj⟩⟩
end Kx
end
end Go.Proofs.YtdhophglnhcjbaaGreatDoor
