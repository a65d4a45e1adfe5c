/- P02: a part of the proof that the last text tells. -/
import Derived.Test.YtdhophglnhcjbaaGreatDoorP01
import Derived.Test.YtdhophglnhcjbaaGreatDoorP00
import Derived.Deep.RegionHeld2
set_option linter.all false
namespace Go.Proofs.YtdhophglnhcjbaaGreatDoor
open Go.RowKit Go.Shelf Cf
namespace Kx
theorem i9{a b:Bool}(h:a=b):Ending.returned (.bool a)= .returned (.bool b):=by rw[h]
variable {α:Type}
variable {k:Nat}
theorem a2w{p:α→Bool}{l:List α}(hk:k<l.length)(h:p l[k]=true):l.any p=true:=List.any_eq_true.2 ⟨_,List.getElem_mem hk,h⟩
theorem a2u{p:α→Bool}{l:List α}(h:∀j (hj:j<l.length),p l[j]=false):l.any p=false:=by
 rw[List.any_eq_false];intro x hx;obtain⟨j,hj,rfl⟩:=List.getElem_of_mem hx;rw[h j hj];simp
variable {w:World}
variable {L:List Cl}
theorem a2W{lim:Nat}{q:Nat→Qs}{a:Option Addr}{l:List Nat}(h:C0 w lim 4 (K4 L q) a l)(hk:k<l.length):∃p:Addr,a=some p∧p.block<lim∧w.cell? (p.add (k*4))=some (.string (cl L l[k]).name)∧
 w.cell? ⟨(p.add (k*4)).block,(p.add (k*4)).off+1,none⟩=some (.string (cl L l[k]).super)∧w.cell? ⟨(p.add (k*4)).block,(p.add (k*4)).off+2,none⟩=some (.slice (q l[k]).fa (cl L l[k]).fields.length (q l[k]).fk)∧
 w.cell? ⟨(p.add (k*4)).block,(p.add (k*4)).off+3,none⟩=some (.slice (q l[k]).ma (cl L l[k]).methods.length (q l[k]).mc):=by
 obtain⟨p,h1,h2,h3⟩:=h k hk;exact⟨p,h1,h2,h3 0 _ rfl,by rw[B9 p (k*4) 0];exact h3 1 _ rfl,by rw[B9 p (k*4) 1];exact h3 2 _ rfl,by rw[B9 p (k*4) 2];exact h3 3 _ rfl⟩
theorem a5T(n:ByteArray):(up L n).length≤L.length:=by
 unfold up
 have:∀k n,(D8 L k n).length≤k:=by
  intro k;induction k with
  |zero=>intro n;simp[D8]
  |succ k ih=>intro n;rw[D8];split
              ·simp
              ·have:=ih (cl L ‹Nat›).super;simp;omega
 exact this _ _
set_option maxRecDepth 100000 in
set_option maxHeartbeats 1000000 in
theorem b4m(w:World)(lim wb:Nat)(L:List Cl)(p:Addr)(cap:Nat)(q:Nat→Qs)(h:Hid (Wo w lim wb L p cap q))(s o:ByteArray):
 Calls Tryz.prog 183 #[.pointer (some ⟨wb,0,none⟩), .string s, .string o] w fun e w'=>e= .returned (.bool (I6 L s o))∧w.grownBy w' none:=by
 have hsm:=h.out.small;go_enter Tryz.func183,Tryz.ntmps183;go_wp2_with (go_at_call 130;refine(a6P _ lim wb L p cap q h s).mono ?_;rintro e w' ⟨a,kc,rfl,hrow,hg⟩)
 have hul:=a5T (L:=L) s;obtain⟨l,hl⟩:∃l,l=up L s:=⟨_,rfl⟩
 rw[←hl]at hrow hul⊢;have HL:=A0 hl;have HR:=A0 hrow;obtain⟨n,hn⟩:∃n,n=l.length:=⟨_,rfl⟩
 rw[←hn]at hul⊢;have HN:=A0 hn;clear hl hrow hn;go_wp2
 go_loop [8] (fun i=>∃k:Nat,k≤n∧i= .int .i64 k∧Hid (∀j (hj:j<l.length),j<k→(cl L l[j]).name≠o)) (fun i=>n-(intOf i).toNat)
 case atStart=>exact⟨0,by omega,rfl,fun j _ hj=>by omega⟩
 case round=>
  obtain⟨k,hk,rfl,hall⟩:=hrel;by_cases hlt:k<n
  ·have hkl:k<l.length:=by rw[←HN.out];exact hlt
   obtain⟨pp,rfl,-,f0,-⟩:=a2W HR.out hkl;obtain⟨xn,hxn⟩:∃xn,xn=(cl L l[k]).name:=⟨_,rfl⟩
   rw[←hxn]at f0;have HX:=A0 hxn;clear hxn;by_cases hx:xn=o
   ·subst hx;go_wp2
    go_ret;exact⟨i9 (by unfold I6;rw[←HL.out];exact(a2w hkl (by simpa using HX.out.symm)).symm),hg⟩
   ·have hb:=j4 hx;go_wp2
    go_round
    case rel=>exact⟨k+1,by omega,by go_num,fun j hj' hj=>by
     rcases Nat.lt_or_ge j k with h1|h1
     ·exact hall.out j hj' h1
     ·obtain rfl:j=k:=by omega
      rw[←HX.out];exact hx⟩
    case measure=>simp[intOf];omega
  ·go_wp2
   go_ret;exact⟨i9 (by unfold I6;rw[←HL.out];exact(a2u (fun j hj=>by simpa using hall.out j hj (by rw[←HN.out]at hj;omega))).symm),hg⟩
theorem b3U(s:ByteArray):s.toList.isEmpty=decide (s=C3):=by
 rw[Bool.eq_iff_iff,decide_eq_true_eq,List.isEmpty_iff];constructor
 ·intro h;exact t8 (by rw[h,ByteArray.toList_eq];rfl)
 ·rintro rfl;rw[ByteArray.toList_eq];rfl
theorem a4E(n:ByteArray):decide (0≤l4 L n)=E2 L n:=by
 unfold l4 E2;cases C5 L n<;>simp
set_option maxRecDepth 100000 in
set_option maxHeartbeats 1000000 in
theorem a2q(w:World)(lim wb:Nat)(L:List Cl)(p:Addr)(cap:Nat)(q:Nat→Qs)(h:Hid (Wo w lim wb L p cap q))(k:Int)(s:ByteArray):
 Calls Tryz.prog 259 #[.pointer (some ⟨wb,0,none⟩), .agg #[.int .i64 k, .string s]] w fun e w'=>e= .returned (.bool (decide (s=C3)||E2 L s))∧w.grownBy w' none:=by
 obtain⟨f,hf⟩:∃f,f=l4 L s:=⟨_,rfl⟩
 have HF:=A0 hf;have HW:∀ob,Hid (Wo (w.alloc ob) lim wb L p cap q):=fun ob=>h.out.keep (A2 _ _ _)
 clear hf HF;cases hbe:s.toList.isEmpty
 all_goals
  go_enter Tryz.func259,Tryz.ntmps259;go_wp2_with (go_at_call 121;refine(a1M _ lim wb L p cap q (HW _) _).mono ?_;rintro e w' ⟨rfl,rfl⟩)
  go_ret;exact⟨i9 (by rw[←b3U,hbe];first|rfl|(rw[a4E];simp)),A2 _ _ _⟩
set_option maxRecDepth 100000 in
set_option maxHeartbeats 1000000 in
theorem b2B(w:World)(lim wb:Nat)(L:List Cl)(p:Addr)(cap:Nat)(q:Nat→Qs)(h:Hid (Wo w lim wb L p cap q))(c:Cl)(qc:Qs):
 Calls Tryz.prog 177 #[.pointer (some ⟨wb,0,none⟩), .agg (F8 c qc).toArray] w fun e w'=>e= .returned (.bool (!E2 L c.super))∧w.grownBy w' none:=by
 obtain⟨f,hf⟩:∃f,f=l4 L c.super:=⟨_,rfl⟩
 have HF:=A0 hf;have HW:∀ob,Hid (Wo (w.alloc ob) lim wb L p cap q):=fun ob=>h.out.keep (A2 _ _ _)
 clear hf;unfold F8;by_cases h0:f<0
 all_goals
  go_enter Tryz.func177,Tryz.ntmps177;go_wp2_with (go_at_call 121;refine(a1M _ lim wb L p cap q (HW _) _).mono ?_;rintro e w' ⟨rfl,rfl⟩;rw[←HF.out])
  go_ret;exact⟨i9 (by rw[←a4E,←HF.out];simp[h0];try omega),A2 _ _ _⟩
set_option maxRecDepth 100000 in
set_option maxHeartbeats 1000000 in
theorem b4k(w:World)(lim wb:Nat)(L:List Cl)(p:Addr)(cap:Nat)(q:Nat→Qs)(h:Hid (Wo w lim wb L p cap q))(c:Cl)(qc:Qs):
 Calls Tryz.prog 178 #[.pointer (some ⟨wb,0,none⟩), .agg (F8 c qc).toArray] w fun e w'=>e= .returned (.bool (I6 L c.super c.name))∧w.grownBy w' none:=by
 obtain⟨f,hf⟩:∃f,f=I6 L c.super c.name:=⟨_,rfl⟩
 have HF:=A0 hf;have HW:∀ob,Hid (Wo (w.alloc ob) lim wb L p cap q):=fun ob=>h.out.keep (A2 _ _ _)
 rw[←hf];clear hf;unfold F8;go_enter Tryz.func178,Tryz.ntmps178;go_wp2_with (go_at_call 183;refine(b4m _ lim wb L p cap q (HW _) _ _).mono ?_;rintro e w' ⟨rfl,hg⟩;rw[←HF.out])
 go_ret;exact⟨rfl,A1 (A2 _ _ _) hg⟩
theorem b5M(c:Cl)(ns:List ByteArray)(x:ByteArray):I5 c (ns++ [x])=I5 c ns++ [(M5 c.name x,ns.length)]:=by
 unfold I5;rw[List.length_append,List.length_singleton,List.range_succ,List.map_append];congr 1
 ·refine List.map_congr_left (fun i hi=> ?_);have:=List.mem_range.1 hi;simp[List.getD,List.getElem?_append_left this]
 ·simp[List.getD]
theorem b0V(c:Cl)(n:ByteArray)(hc:c.name.size≤maxLen)(hn:n.size≤maxLen):∀(ms ns:List ByteArray),(∀x∈ms,x.size≤maxLen)→L2 (I5 c ns) (M5 c.name n)=ns.findIdx? (fun x=>decide (x=n))→
 L2 (I5 c (ns++ms)) (M5 c.name n)=(ns++ms).findIdx? (fun x=>decide (x=n))
 | [],ns,_,h=>by simpa using h
 |x::ms,ns,hs,h=>by
  have:=b0V c n hc hn ms (ns++ [x]) (fun y hy=>hs y (by simp[hy])) (by
   rw[b5M,a2n,a4s,h,List.findIdx?_append];congr 1
   by_cases e:x=n
   ·subst e;simp[List.findIdx?_cons]
   ·rw[if_neg (fun e'=>e (b0v hc (hs x (by simp)) hc hn e').2)];simp[List.findIdx?_cons,e])
  simpa using this
theorem b5N(c:Cl)(n:ByteArray)(hc:c.name.size≤maxLen)(hn:n.size≤maxLen)(ns:List ByteArray)(hs:∀x∈ns,x.size≤maxLen):L2 (I5 c ns) (M5 c.name n)=ns.findIdx? (fun x=>decide (x=n)):=by
 have:=b0V c n hc hn ns [] hs rfl;simpa using this
theorem b4z(c:Cl)(d n:ByteArray)(hne:c.name≠d)(hc:c.name.size≤maxLen)(hd:d.size≤maxLen)(hn:n.size≤maxLen)(ns:List ByteArray)(hs:∀x∈ns,x.size≤maxLen):L2 (I5 c ns) (M5 d n)=none:=by
 unfold L2 I5;rw[Option.map_eq_none_iff,List.find?_eq_none];intro p hp;obtain⟨i,hi,rfl⟩:=List.mem_map.1 hp;simp only[decide_eq_true_eq];intro e
 have hx:(ns.getD i C3).size≤maxLen:=by
  have:=List.mem_range.1 hi;exact hs _ (by rw[List.getD_eq_getElem?_getD,List.getElem?_eq_getElem this];simp)
 exact hne (b0v hc hx hd hn e).1
def l5(f:Cl→List ByteArray)(L:List Cl):Prop:=∀c∈L,c.name.size≤maxLen∧∀x∈f c,x.size≤maxLen
theorem a5u(f:Cl→List ByteArray)(d n:ByteArray)(hd:d.size≤maxLen)(hn:n.size≤maxLen):∀(L:List Cl),l5 f L→(∀c∈L,c.name≠d)→L2 (N6 f L) (M5 d n)=none
 | [],_,_=>rfl
 |c::L,hs,hne=>by
  show L2 (I5 c (f c)++N6 f L) _=none;rw[a2n,b4z c d n (hne c (by simp)) (hs c (by simp)).1 hd hn _ (hs c (by simp)).2,a5u f d n hd hn L (fun x hx=>hs x (by simp[hx])) (fun x hx=>hne x (by simp[hx]))];rfl
theorem a4C(f:Cl→List ByteArray)(hd:t9 L)(hs:l5 f L)(hk:k<L.length)(n:ByteArray)(hn:n.size≤maxLen):
 L2 (N6 f L) (M5 (cl L k).name n)=(f (cl L k)).findIdx? (fun x=>decide (x=n)):=by
 have hm:cl L k∈L:=by rw[U3 hk];exact List.getElem_mem hk
 have hsp:L=L.take k++cl L k::L.drop (k+1):=by rw[U3 hk,List.getElem_cons_drop hk,List.take_append_drop]
 have hc:=(hs _ hm).1
 have e:N6 f L=N6 f (L.take k)++(I5 (cl L k) (f (cl L k))++N6 f (L.drop (k+1))):=by
  conv=>lhs;rw[hsp]
  unfold N6;rw[List.flatMap_append,List.flatMap_cons]
 rw[e,a2n,a2n,b5N _ n hc hn _ (hs _ hm).2]
 rw[a5u f (cl L k).name n hc hn (L.take k) (fun c h=>hs c (List.mem_of_mem_take h)) (fun c h=>by
  obtain⟨j,hj,rfl⟩:=List.getElem_of_mem h;rw[List.getElem_take];intro e2;have hj1:j<L.length:=by rw[List.length_take]at hj;omega
  have hj2:j<k:=by rw[List.length_take]at hj;omega
  have:=hd j k hj1 hk (by rw[U3 hj1];exact e2);omega)]
 rw[a5u f (cl L k).name n hc hn (L.drop (k+1)) (fun c h=>hs c (List.mem_of_mem_drop h)) (fun c h=>by
  obtain⟨j,hj,rfl⟩:=List.getElem_of_mem h;rw[List.getElem_drop];intro e2;have hj1:k+1+j<L.length:=by rw[List.length_drop]at hj;omega
  have:=hd (k+1+j) k hj1 hk (by rw[U3 hj1];exact e2);omega)]
 cases (f (cl L k)).findIdx? (fun x=>decide (x=n))<;>rfl
theorem a8K(c:Cl)(n:ByteArray):(K5 c).findIdx? (fun x=>decide (x=n))=X7 c n:=by
 unfold K5 X7;rw[List.findIdx?_map];rfl
theorem a5j(c:Cl)(n:ByteArray):(G2 c).findIdx? (fun x=>decide (x=n))=N8 c n:=by
 unfold G2 N8;rw[List.findIdx?_map];rfl
theorem a5w{m:Nat}{l:List (Ky×Nat)}(h:w.ownsMap (H:=Unit) Tryz.prog 255 (plainElem Tryz.prog 3) m k (P2 l))(c n:ByteArray)(hc:c.size≤maxLen)(hn:n.size≤maxLen)(r:Option Nat)(hr:L2 l (M5 c n)=r):
 (Instr.lookup 149 (.map (some m)) (.agg #[.string c, .string n]) true).run Tryz.prog w= .ok (.tuple #[.int .i64 (r.getD 0:Nat), .bool r.isSome]) w:=by
 obtain⟨v,ps,h1,h2⟩:=h.look_ok a3Y Tryz.underlying149 (a1Q w) (zd:= .lit (.int .i64 0)) (zp:=[]) (plainElem_int Tryz.underlying3 (by decide)) (a2S c n hc hn);obtain⟨d,rfl,hd,-⟩:=plainElem_int_inv Tryz.underlying3 h2;have hh:Maps.has (P2 l) (.string (M5 c n))=r.isSome:=by rw[(a3K l).has,hr]
 have ha:(P2 l).atKey (.string (M5 c n)) (.lit (.int .i64 0))= .lit (.int .i64 (r.getD 0:Nat)):=by rw[(a3K l).at_,hr]
 rw[ha,Prod.mk.injEq]at hd;obtain⟨hd,-⟩:=hd;simp only[DataW.lit.injEq,Lit.int.injEq,true_and]at hd;subst hd;rw[hh]at h1;exact h1
open Go.RowKit Go.Shelf
variable{F:Fence}{n:Nat}{P:Program}{Q:Exit→Act→World→Prop}
def a4J(o:Oper):Bool:=match o.op with| .defer _=>false|_=>true
theorem b4v{o:Oper}(h:a4J o=true):∀c,o.op≠ .defer c:=by
 intro c e;unfold a4J at h;rw[e]at h;cases h
theorem b3V(r:Nat)(hro:F.round=none){o:Oper}(hd:a4J o=true){a:Act}{w:World}{K:Act→World→Prop}(h:o.wpIn F n P a w K Q):o.wpIn (F.inRound r) n P a w K Q:=by
 unfold Oper.wpIn at h⊢;rw[Oper.semAt_eq _ _ _ (b4v hd)]at h⊢;exact h
theorem a5i(r:Nat)(hro:F.round=none){ops:Array Oper}{md:Region.Mode}(hd:∀(i:Nat) (o:Oper),ops[i]? =some o→a4J o=true):∀(fuel:Nat) (listed:Array Bool) (a:Act) (w:World),wpAnyIn F n P md ops Q fuel listed a w→wpAnyIn (F.inRound r) n P md ops Q fuel listed a w
 |0,_,_,_,h=>h
 |fuel+1,listed,a,w,h=>⟨h.1,fun i hi=>by
  have h1:=h.2 i hi;unfold wpOpIn at h1⊢;cases ho:ops[i]? with
  |none=>simp only[ho]at h1⊢;exact a5i r hro hd fuel _ a w h1
  |some o=>
   simp only[ho]at h1⊢;split
   ·rename_i hw;rw[if_pos hw]at h1;exact b3V r hro (hd i o ho) (Oper.wpIn_mono (fun a' w' hk=>a5i r hro hd fuel _ a' w' hk) h1)
   ·rename_i hw;rw[if_neg hw]at h1;exact⟨h1.1,a5i r hro hd fuel _ _ w h1.2⟩⟩
theorem a2Q{id r:Nat}{a:Act}{w:World}{l:List Oper}(hro:F.round=none)(hd:l.all a4J=true)(hm:P.follows .mixedOrders=true)(hB:Region.lexB .any l.toArray=true)
 (h:wpQuietIn F n P l.toArray (fun w'=>∃n,w'=w.drewN n) (fun a'=>∀w',(∃n,w'=w.drewN n)→Q .normal a' w') l a):(Code.region id l.toArray true).wpIn (F.inRound r) n P Q a w:=by
 simp only[Region.lexB,Bool.and_eq_true]at hB;refine wpIn_region_any hm (a5i r hro (fun i o ho=>List.all_eq_true.1 hd o (List.mem_of_getElem? (by simpa using ho))) _ _ _ _ (wpAnyIn_of_quiet (C:=fun w'=>∃n,w'=w.drewN n) (Q:=fun a'=>∀w',(∃n,w'=w.drewN n)→Q .normal a' w') hro (fun _ w' hw' h=>h w' hw') _ _ _ _ ⟨1,rfl⟩ ?_));have:=wpAnyQIn_lex (F:=F) (n:=n) (C:=fun w'=>∃n,w'=w.drewN n) (md:= .any) hB.1 l 0 (Array.replicate l.toArray.size false) a (by simp) (by simpa using hB.2) h;simpa using this
theorem a1i{B:Nat}{a W:World}(h:Below B a W)(k:Nat):Below B a (W.drewN k):=⟨h.os,h.tape,h.output,h.size,h.block⟩
theorem a2R(B:Nat)(W:World)(k:Nat):KeepsFrom B W (W.drewN k):=KeepsFrom.of_grownBy (F0 W k none) (fun j e=>by cases e)
end Kx
namespace Cf
def b5(l:List Cl)(n:ByteArray):ByteArray:=(cl l ((C5 l n).getD 0)).super
def M0(l:List Cl)(t:Ty):Ty:=
 if t.kind=3∨t.kind=4 then C9 D4 else if t.kind=2∧t.name≠D4 then C9 (b5 l t.name)else B6
def a1x(l:List Cl):Nat→Ty→Ty→Ty
 |0,t,_=>t
 |k+1,t,o=>if D0 l o t then t else a1x l k (M0 l t) o
def N1(l:List Cl)(t:Ty):Nat:=if t.kind=0 then 0 else if t.kind=2 then(up l t.name).length else if t.kind=3∨t.kind=4 then 2 else 1
def a0U(l:List Cl)(t o:Ty):Ty:=if D0 l t o then o else a1x l (N1 l t+1) t o
structure b1F(l:List Cl)(a b x:Ty):Prop where
 ok:E3 l x
 left:D0 l a x=true
 right:D0 l b x=true
 least:∀y,E3 l y→D0 l a y=true→D0 l b y=true→D0 l x y=true
variable {l:List Cl}
theorem a3v:E3 l B6:=a3r (by omega) (by omega) (by omega)
theorem C2.up_object(h:C2 l):up l D4=[0]:=by
 rw[h.up_some h.find_object];have:(cl l 0).super=C3:=by obtain⟨fs,rfl⟩:=h.base;rfl
 rw[this,h.up_none];cases hf:C5 l C3 with
 |none=>rfl
 |some j=>exact absurd (L4 hf).2.1 (h.names j (L4 hf).1)
theorem C2.super_has(h:C2 l){n:ByteArray}{i:Nat}(hi:C5 l n=some i)(hn:n≠D4):∃k,C5 l (b5 l n)=some k:=by
 unfold b5;rw[hi];refine h.super i (L4 hi).1 (fun e=>hn ?_);subst e;have h1:=(L4 hi).2.1;have h2:=(L4 h.find_object).2.1;rw[←h1,h2]
variable {a b t:Ty}
theorem C2.next_ok(h:C2 l)(ht:E3 l t):E3 l (M0 l t):=by
 unfold M0;split
 ·exact h.tyOk_object
 ·split
  ·rename_i h2;have:=ht.2;rw[if_pos (.inl h2.1)]at this;obtain⟨i,hi⟩:=this;obtain⟨k,hk⟩:=h.super_has hi h2.2;exact⟨by simp[C9],by simp[C9,hk]⟩
  ·exact a3v
theorem C2.next_rank(h:C2 l)(ht:E3 l t)(h0:t.kind≠0):N1 l (M0 l t)<N1 l t:=by
 unfold M0;split
 ·rename_i h3;have:N1 l (C9 D4)=1:=by simp[N1,C9,h.up_object]
  rw[this];unfold N1;rw[if_neg h0,if_neg (by omega),if_pos h3];omega
 ·rename_i h3;split
  ·rename_i h2;have:=ht.2;rw[if_pos (.inl h2.1)]at this;obtain⟨i,hi⟩:=this;have h4:N1 l t=(up l t.name).length:=by unfold N1;rw[if_neg h0,if_pos h2.1]
   have h5:N1 l (C9 (b5 l t.name))=(up l (b5 l t.name)).length:=by simp[N1,C9]
   rw[h4,h5,h.up_some hi];simp[b5,hi]
  ·rename_i h2;have:N1 l B6=0:=by simp[N1,B6]
   rw[this];unfold N1;rw[if_neg h0];split
   ·rename_i h6;have:=ht.2;rw[if_pos (.inl h6)]at this;obtain⟨i,hi⟩:=this;rw[h.up_some hi];simp
   ·first|omega|(split<;>omega)
theorem C2.rank_le(h:C2 l)(t:Ty):N1 l t≤l.length:=by
 have h9:9≤l.length:=by obtain⟨fs,rfl⟩:=h.base;simp[show A5.length=9 from rfl]
 have:=h.up_short t.name;unfold N1;split
 ·omega
 ·split
  ·omega
  ·split<;>omega
theorem C2.next_least(h:C2 l){y:Ty}(ht:E3 l t)(hy:E3 l y)(h5:t.kind≠5)(hu:D0 l t y=true)(hne:t≠y):D0 l (M0 l t) y=true:=by
 rw[a0M (h.next_ok ht) hy];rw[a0M ht hy]at hu;rcases hu with e|rfl|⟨e1,_⟩|⟨e1,e2,e3⟩|⟨e1,rfl⟩
 ·exact absurd e hne
 ·exact .inr (.inl rfl)
 ·exact absurd e1 h5
 ·have hn:t.name≠D4:=fun e=>by
   rw[e]at e3;have e4:=h.below_len e3;rw[h.up_object]at e4;obtain⟨k,hk⟩:=h.below_has e3;rcases e4 with e5|e5
   ·exact hne (by cases t;cases y;simp_all)
   ·rw[h.up_some hk]at e5;simp at e5
  have h1:=ht.2;rw[if_pos (.inl e1)]at h1;obtain⟨i,hi⟩:=h1;have h2:M0 l t=C9 (b5 l t.name):=by unfold M0;rw[if_neg (by omega),if_pos ⟨e1,hn⟩]
  rw[h2];rw[h.below_step hi]at e3;have hnn:t.name≠y.name:=fun e=>hne (by cases t;cases y;simp_all)
  simp only[hnn,decide_false,Bool.false_or]at e3;refine .inr (.inr (.inr (.inl ⟨rfl,e2,?_⟩)));show I6 l (b5 l t.name) y.name=true;unfold b5;rw[hi];exact e3
 ·have h2:M0 l t=C9 D4:=by unfold M0;rw[if_pos e1]
  rw[h2];exact .inl rfl
theorem C2.under_next(h:C2 l)(ht:E3 l t):D0 l t (M0 l t)=true:=by
 rw[a0M ht (h.next_ok ht)];unfold M0;split
 ·rename_i h3;exact .inr (.inr (.inr (.inr ⟨h3,rfl⟩)))
 ·split
  ·rename_i h2;have h1:=ht.2;rw[if_pos (.inl h2.1)]at h1;obtain⟨i,hi⟩:=h1;obtain⟨k,hk⟩:=h.super_has hi h2.2;refine .inr (.inr (.inr (.inl ⟨h2.1,rfl,?_⟩)));rw[h.below_step hi];have:b5 l t.name=(cl l i).super:=by unfold b5;rw[hi];rfl
   simp only[C9];rw[←this,h.below_refl hk];simp
  ·exact .inr (.inl rfl)
theorem C2.climb_lub(h:C2 l)(ha:E3 l a)(hb:E3 l b):∀(k:Nat) (t:Ty),N1 l t<k→E3 l t→D0 l a t=true→(∀y,E3 l y→D0 l a y=true→D0 l b y=true→D0 l t y=true)→(t.kind=5→b.kind=1∨b.kind=5)→b1F l a b (a1x l k t b)
 |0,t,hk,_,_,_,_=>by omega
 |k+1,t,hk,ht,h1,h2,h5=>by
  unfold a1x;split
  ·rename_i hu;exact⟨ht,h1,hu,h2⟩
  ·rename_i hu;have h0:t.kind≠0:=fun e=>hu (by rw[a3w ht e (by omega) (by omega)];exact a2p l b)
   refine h.climb_lub ha hb k (M0 l t) (by have:=h.next_rank ht h0;omega) (h.next_ok ht) (h.under_trans ha ht (h.next_ok ht) h1 (h.under_next ht)) (fun y hy h3 h4=> ?_) (fun e=> ?_)
   ·by_cases hk5:t.kind=5
    ·have hn:M0 l t=B6:=by unfold M0;rw[if_neg (by omega),if_neg (by omega)]
     rw[hn];have ht5:=a3w ht hk5 (by omega) (by omega);rcases h5 hk5 with hb1|hb5
     ·have hty:=h2 y hy h3 h4;rw[a0M hb hy]at h4;rw[a0M ht hy]at hty
      have:y=B6:=by
       rcases h4 with e|e|⟨e,_⟩|⟨e,_⟩|⟨e,_⟩
       ·rcases hty with f|f|⟨_,f⟩|⟨f,_⟩|⟨f,_⟩
        ·rw[←f]at e;rw[e]at hb1;omega
        ·exact f
        ·rw[←e]at f;omega
        ·omega
        ·omega
       ·exact e
       all_goals omega
      rw[this];exact a1K _ _
     ·have:=a3w hb hb5 (by omega) (by omega);rw[this,←ht5]at hu
      exact absurd (a1K _ _) hu
    ·exact h.next_least ht hy hk5 (h2 y hy h3 h4) (fun e=>hu (by rw[e];exact h4))
   ·unfold M0 at e;split at e
    ·simp[C9]at e
    ·split at e
     ·simp[C9]at e
     ·simp[B6]at e
theorem C2.joinP_lub(h:C2 l)(ha:E3 l a)(hb:E3 l b):b1F l a b (a0U l a b):=by
 unfold a0U;split
 ·rename_i hu;exact⟨hb,hu,a1K _ _,fun y _ _ hy=>hy⟩
 ·rename_i hu;refine h.climb_lub ha hb _ a (by omega) ha (a1K _ _) (fun y _ hy _=>hy) (fun h5=> ?_);have:=hb.1;by_cases h1:b.kind=1∨b.kind=5
  ·exact h1
  ·exfalso;apply hu;rw[a0M ha hb];by_cases h0:b.kind=0
   ·exact .inr (.inl (a3w hb h0 (by omega) (by omega)))
   ·exact .inr (.inr (.inl ⟨h5,by omega⟩))
end Cf
namespace Cf
variable {l:List Cl}
variable {n x:ByteArray}
theorem C2.fieldAt_none(h:C2 l)(hn:C5 l n=none):R0 l n x=none:=by
 unfold R0;rw[h.up_none hn];rfl
variable {i:Nat}
theorem C2.fieldAt_some(h:C2 l)(hn:C5 l n=some i):R0 l n x=match X7 (cl l i) x with|some j=>some (i,j)|none=>R0 l (cl l i).super x:=by
 unfold R0;rw[h.up_some hn,List.findSome?_cons];cases X7 (cl l i) x<;>rfl
def l7:R9:=⟨C3,B6⟩
def c1w(l:List Cl)(p:Nat×Nat):Nat:=(a0w l (cl l p.1).super).length+p.2
variable {p:Nat×Nat}
theorem C2.field_lt(h:C2 l)(hp:R0 l n x=some p):p.1<l.length∧p.2<(cl l p.1).fields.length∧((cl l p.1).fields.getD p.2 l7).name=x:=by
 revert hp;refine h.upInd (P:=fun n=>R0 l n x=some p→p.1<l.length∧p.2<(cl l p.1).fields.length∧((cl l p.1).fields.getD p.2 l7).name=x) (fun n hn hp=> ?_) (fun n i hn ih hp=> ?_) n
 ·rw[h.fieldAt_none hn]at hp;cases hp
 ·rw[h.fieldAt_some hn]at hp;cases hf:X7 (cl l i) x with
  |none=>rw[hf]at hp;exact ih hp
  |some j=>
   rw[hf]at hp;injection hp with hp
   subst hp;obtain⟨hj,hq,_⟩:=List.findIdx?_eq_some_iff_getElem.1 hf;exact⟨(L4 hn).1,hj,by simpa[hj]using hq⟩
def O7(l:List Cl)(c n:ByteArray):Option (Nat×Nat):=(up l c).findSome? fun k=>(N8 (cl l k) n).map fun i=>(k,i)
def K8:Me:=⟨C3,[],B6,0,0,[],[]⟩
def g9(l:List Cl)(p:Nat×Nat):Me:=(cl l p.1).methods.getD p.2 K8
theorem C2.methAt_none(h:C2 l)(hn:C5 l n=none):O7 l n x=none:=by
 unfold O7;rw[h.up_none hn];rfl
theorem C2.methAt_some(h:C2 l)(hn:C5 l n=some i):O7 l n x=match N8 (cl l i) x with|some j=>some (i,j)|none=>O7 l (cl l i).super x:=by
 unfold O7;rw[h.up_some hn,List.findSome?_cons];cases N8 (cl l i) x<;>rfl
theorem C2.meth_lt(h:C2 l)(hp:O7 l n x=some p):p.1<l.length∧p.2<(cl l p.1).methods.length∧(g9 l p).name=x∧N8 (cl l p.1) x=some p.2∧I6 l n (cl l p.1).name=true:=by
 revert hp;refine h.upInd (P:=fun n=>O7 l n x=some p→p.1<l.length∧p.2<(cl l p.1).methods.length∧(g9 l p).name=x∧N8 (cl l p.1) x=some p.2∧I6 l n (cl l p.1).name=true) (fun n hn hp=> ?_) (fun n i hn ih hp=> ?_) n
 ·rw[h.methAt_none hn]at hp;cases hp
 ·rw[h.methAt_some hn]at hp;cases hf:N8 (cl l i) x with
  |none=>
   rw[hf]at hp;obtain⟨h1,h2,h3,h4,h5⟩:=ih hp;exact⟨h1,h2,h3,h4,by rw[h.below_step hn,h5];simp⟩
  |some j=>
   rw[hf]at hp;injection hp with hp
   subst hp;obtain⟨hj,hq,_⟩:=List.findIdx?_eq_some_iff_getElem.1 hf;refine⟨(L4 hn).1,hj,by unfold g9;simpa[hj]using hq,hf,?_⟩;rw[h.below_step hn,(L4 hn).2.1];simp
end Cf
namespace Kx
attribute [local go_sem] Oper.semAt_some
variable {α:Type}
theorem b0A{f:Nat→Option α}{r:α}:∀{pre0 l:List Nat} {k:Nat},(pre0++ [k])<+:l→(∀j∈pre0,f j=none)→f k=some r→l.findSome? f=some r:=by
 rintro pre0 l k ⟨t,rfl⟩ h1 h2;rw[List.findSome?_append,List.findSome?_append];rw[List.findSome?_eq_none_iff.2 h1];simp[h2]
variable {l:List Nat}
theorem a9J{f:Nat→Option α}(h:∀j∈l,f j=none):l.findSome? f=none:=List.findSome?_eq_none_iff.2 h
def a1q(L:List Cl)(c m:ByteArray):ByteArray:=match O7 L c m with|some p=>(cl L p.1).name|none=>⟨#[]⟩
set_option maxRecDepth 100000 in
set_option maxHeartbeats 2000000 in
theorem a9z(w:World)(lim b:Nat)(L:List Cl)(p:Addr)(cap m1 m2 m3:Nat)(q:Nat→Qs)(h:Hid (I9 w lim b L p cap m1 m2 m3 q))(hl:lim≤w.heap.size)(hU:Hid (UpL L))(hD:Hid (t9 L))(hZ:Hid (l5 G2 L))(c o:ByteArray)(hc:c.size≤maxLen)(ho:o.size≤maxLen):
 Calls Tryz.prog 103 #[.pointer (some ⟨b,0,none⟩), .string c, .string o] w fun e w'=>e= .returned (.string (a1q L c o))∧w.grownBy w' none:=by
 refine(callsIn_wide (n:=9)).1 ?_;refine callsIn_of_wp_marks Tryz.func103 rfl trivial ?_ rfl;simp only[Tryz.ntmps103,List.size_toArray,List.length_cons,List.length_nil,Nat.reduceAdd,Nat.reduceSub,Array.replicate_succ,Array.replicate_zero,List.push_toArray,List.append_toArray,List.nil_append,List.cons_append];gi_wp2_with (refine⟨trivial,?_⟩;gi_at_call 167;refine(a4t _ _ trivial rfl _ _ _).mono ?_;rintro e w' ⟨rfl,rfl⟩)
 have hB0:Below w.heap.size w (((((w.alloc (.cells #[.pointer (some ⟨b,0,none⟩)] 156)).alloc (.cells #[.string o] 9)).alloc (.cells #[.string ⟨#[]⟩] 9)).alloc (.cells #[.pointer (some ⟨b,0,none⟩)] 156)).alloc (.cells #[.string c] 9)):=(((((Below.refl _ w).alloc (Nat.le_refl _) _).alloc (by simp) _).alloc (by simp;omega) _).alloc (by simp;omega) _).alloc (by simp;omega) _;have hsz:(((((w.alloc (.cells #[.pointer (some ⟨b,0,none⟩)] 156)).alloc (.cells #[.string o] 9)).alloc (.cells #[.string ⟨#[]⟩] 9)).alloc (.cells #[.pointer (some ⟨b,0,none⟩)] 156)).alloc (.cells #[.string c] 9)).heap.size=w.heap.size+5:=by simp
 have k0:=((((A3.new w #[.pointer (some ⟨b,0,none⟩)] 156).keep (A2 _ (.cells #[.string o] 9) none) (by simp)).keep (A2 _ (.cells #[.string ⟨#[]⟩] 9) none) (by simp)).keep (A2 _ (.cells #[.pointer (some ⟨b,0,none⟩)] 156) none) (by simp)).keep (A2 _ (.cells #[.string c] 9) none) (by simp);have k1:=(((A3.new (w.alloc (.cells #[.pointer (some ⟨b,0,none⟩)] 156)) #[.string o] 9).keep (A2 _ (.cells #[.string ⟨#[]⟩] 9) none) (by simp)).keep (A2 _ (.cells #[.pointer (some ⟨b,0,none⟩)] 156) none) (by simp)).keep (A2 _ (.cells #[.string c] 9) none) (by simp);have k2:=((A3.new ((w.alloc (.cells #[.pointer (some ⟨b,0,none⟩)] 156)).alloc (.cells #[.string o] 9)) #[.string ⟨#[]⟩] 9).keep (A2 _ (.cells #[.pointer (some ⟨b,0,none⟩)] 156) none) (by simp)).keep (A2 _ (.cells #[.string c] 9) none) (by simp);have k3:=(A3.new (((w.alloc (.cells #[.pointer (some ⟨b,0,none⟩)] 156)).alloc (.cells #[.string o] 9)).alloc (.cells #[.string ⟨#[]⟩] 9)) #[.pointer (some ⟨b,0,none⟩)] 156).keep (A2 _ (.cells #[.string c] 9) none) (by simp);have k4:=A3.new ((((w.alloc (.cells #[.pointer (some ⟨b,0,none⟩)] 156)).alloc (.cells #[.string o] 9)).alloc (.cells #[.string ⟨#[]⟩] 9)).alloc (.cells #[.pointer (some ⟨b,0,none⟩)] 156)) #[.string c] 9;simp only[World.size_alloc]at k1 k2 k3 k4;obtain⟨W0,hW0⟩:∃W0,((((w.alloc (.cells #[.pointer (some ⟨b,0,none⟩)] 156)).alloc (.cells #[.string o] 9)).alloc (.cells #[.string ⟨#[]⟩] 9)).alloc (.cells #[.pointer (some ⟨b,0,none⟩)] 156)).alloc (.cells #[.string c] 9)=W0:=⟨_,rfl⟩
 rw[hW0]at hB0 hsz k0 k1 k2 k3 k4⊢;clear hW0;have HK0:=A0 (h.out.below hB0 hl)
 refine wpIn_rangeFunc_ownH rfl (by omega) (gf:=254) (lb:= #[.pointer (some ⟨w.heap.size+1+1+1,0,none⟩), .pointer (some ⟨w.heap.size+1+1+1+1,0,none⟩)]) rfl trivial (enters_of Tryz.func254 (by kernel_rfl) rfl)
  (a5z _ _ trivial rfl (by omega) w.heap.size (w.heap.size+1+1+1) (w.heap.size+1+1+1+1) lim b L p cap m1 m2 m3 q c hc hU W0 (by omega) (by omega) (k3.cell 0 _ rfl) (k4.cell 0 _ rfl) HK0 hl (by omega)) a4T (a4U (by omega) (by omega)) (Below.refl _ _) (fun _=>rfl)
  (fun pre W=>((∀k∈pre,N8 (cl L k.1) o=none)∧A3 W (w.heap.size) #[.pointer (some ⟨b,0,none⟩)] 156∧A3 W (w.heap.size+1) #[.string o] 9∧A3 W (w.heap.size+1+1) #[.string ⟨#[]⟩] 9∧A3 W (w.heap.size+1+1+1+1) #[.string c] 9)∧Below w.heap.size w W)
  (fun d pre W=>(d= .ret∧(∃pre0 k i,pre=pre0++ [k]∧(∀j∈pre0,N8 (cl L j.1) o=none)∧N8 (cl L k.1) o=some i∧A3 W (w.heap.size+1+1) #[.string (cl L k.1).name] 9))∧Below w.heap.size w W)
  (OwnFrom.and (fun s X Y row hs hg hr=>⟨hs.1,Own.from (M8 _ _ _) _ () X Y row hs.2.1 hg hr,Own.from (M8 _ _ _) _ () X Y row hs.2.2.1 hg hr,Own.from (M8 _ _ _) _ () X Y row hs.2.2.2.1 hg hr,Own.from (M8 _ _ _) _ () X Y row hs.2.2.2.2 hg hr⟩) (ownFrom_below (Nat.le_refl _) (by omega)))
  (fun d=>OwnFrom.and (fun s X Y row hs hg hr=>by obtain⟨h1,pre0,k,i,h2,h3,h4,h5⟩:=hs;exact⟨h1,pre0,k,i,h2,h3,h4,Own.from (M8 _ _ _) _ () X Y row h5 hg hr⟩) (ownFrom_below (Nat.le_refl _) (by omega)))
  ⟨⟨by simp,k0,k1,k2,k4⟩,hB0⟩
  (fun x a' W=>∃Bx,w.heap.size+5≤Bx∧A3 W Bx #[.string (cl L x.1).name, .string (cl L x.1).super, .slice (q x.1).fa (cl L x.1).fields.length (q x.1).fk, .slice (q x.1).ma (cl L x.1).methods.length (q x.1).mc] 44∧a'={tmps:= #[.pointer (some ⟨b,0,none⟩), .string c, .string o, .pointer (some ⟨w.heap.size,0,none⟩),undef, .pointer (some ⟨w.heap.size+1,0,none⟩), .pointer (some ⟨w.heap.size+1+1,0,none⟩), .pointer (some ⟨Bx,0,none⟩),undef,undef, .pointer (some ⟨b,0,none⟩), .string c, .func (.func 254) #[] #[.pointer (some ⟨w.heap.size+1+1+1,0,none⟩), .pointer (some ⟨w.heap.size+1+1+1+1,0,none⟩)], .agg #[.string (cl L x.1).name, .string (cl L x.1).super, .slice (q x.1).fa (cl L x.1).fields.length (q x.1).fk, .slice (q x.1).ma (cl L x.1).methods.length (q x.1).mc],undef,undef,undef,undef,undef,undef,undef,undef,undef,undef,undef,undef,undef,undef,undef],defers:=[]})
  (fun x a' _ X Y row hs hg hr=>by obtain⟨Bx,h1,h2,h3⟩:=hs;exact⟨Bx,h1,M8 Bx _ _ () X Y row h2 hg (fun r e=>(hr r e).2),h3⟩)
  ?assign ?body ?done ?stop
 case assign=>
  rintro l pre x W K ⟨⟨hne,hk0,hk1,hk2,hk4⟩,hB1⟩ hK;dsimp only[a2d,F8];gi_wp2
  have h3:=hk4.lt;exact hK _ _ ((KeepsOthers.alloc _ _).from _) ⟨(Below.refl _ W).alloc hB1.size _,Below.heap_alloc W _ _ (by omega)⟩ ⟨⟨hne,hk0.keep (A2 _ _ none) (by simp),hk1.keep (A2 _ _ none) (by simp),hk2.keep (A2 _ _ none) (by simp),hk4.keep (A2 _ _ none) (by simp)⟩,hB1.alloc hB1.size _⟩ ⟨W.heap.size,by omega,A3.new W _ _,rfl⟩
 case body=>
  rintro l pre x a' W hl2 _ ⟨⟨hne,hk0,hk1,hk2,hk4⟩,hB1⟩ ⟨Bx,hBx,hbx,rfl⟩ hlt;have cx:=hbx.cell 0 _ rfl;have c0:=hk0.cell 0 _ rfl;have c1:=hk1.cell 0 _ rfl;have cr:=hk2.cell 0 _ rfl;have fr:=hk2.frozen 0;have HKW:=A0 (h.out.below hB1 hl);have c3:=HKW.out.c3;obtain⟨r,hr⟩:∃r,r=N8 (cl L x.1) o:=⟨_,rfl⟩
  have hfr:L2 (N6 G2 L) (M5 (cl L x.1).name o)=r:=by rw[a4C G2 hD.out hZ.out x.2 o ho,a5j,hr]
  have hrun:=fun k:Nat=>a5w (w:=W.drewN k) HKW.out.n3 (cl L x.1).name o (HKW.out.names x.1 x.2).1 ho r hfr
  clear hfr;have HR:=A0 hr;clear hr;cases r with
  |none=>
   simp only[Option.getD_none,Option.isSome_none]at hrun;gi_wp2
   refine a2Q rfl (by kernel_rfl) (by kernel_rfl) (by kernel_rfl) ?_;repeat (gi_big_quiet_step (fail))
   refine wpQuietIn_nil ?_;intro _ hw';obtain⟨nq,hw''⟩:=hw';subst hw'';gi_wp2
   exact⟨a2R _ _ _,⟨a1i (Below.refl _ _) _,rfl⟩,⟨fun k hk=>(List.mem_append.1 hk).elim (hne k) (fun e=>by simp at e;subst e;exact HR.out.symm),hk0,hk1,hk2,hk4⟩,a1i hB1 _⟩
  |some i=>
   simp only[Option.getD_some,Option.isSome_some]at hrun;gi_wp2
   refine a2Q rfl (by kernel_rfl) (by kernel_rfl) (by kernel_rfl) ?_;repeat (gi_big_quiet_step (fail))
   refine wpQuietIn_nil ?_;intro _ hw';obtain⟨nq,hw''⟩:=hw';subst hw'';gi_wp2
   exact⟨(a2R _ _ _).trans ((KeepsOthers.setCell _ _ _).from _),⟨rfl,pre,x,i,rfl,hne,HR.out.symm,hk2.set 0 _⟩,(a1i hB1 _).setCell (p:=⟨w.heap.size+1+1,0,none⟩) (by simp;omega) _⟩
 case done=>
  rintro D ys W hD hys ⟨⟨hne,hk0,hk1,hk2,hk4⟩,hB1⟩ hK;have cr:=hk2.cell 0 _ rfl;have fr:=hk2.frozen 0;gi_wp2
  have hK':=(KeepsOthers.setCell W ⟨w.heap.size+1+1,0,none⟩ (.string ⟨#[]⟩)).same D _ hK rfl;refine⟨by simp, .inl ⟨_,_,rfl,run_takeDeferred hK',?_⟩⟩;have hb5:=(hk2.set 0 (.string ⟨#[]⟩)).keep (grownBy_putObj' _ D (.deferred none)) (by simp;omega);have hc5:=hb5.cell 0 _ rfl
  have hf:a1q L c o=⟨#[]⟩:=by
   unfold a1q O7;rw[←hys,a9J];intro j hj;obtain⟨j',hj',rfl⟩:=List.mem_map.1 hj;rw[hne j' hj'];rfl
  rw[hf];exact⟨.string ⟨#[]⟩,by simp[results,Tryz.results103,go_sem,hc5],rfl,t6 ((hB1.setCell (p:=⟨w.heap.size+1+1,0,none⟩) (by simp;omega) _).grown (grownBy_putObj' _ D _) (by simp;exact hB1.size) (fun k e=>by cases e;omega))⟩
 case stop=>
  rintro D d pre W hD hpre ⟨⟨rfl,pre0,k,i,rfl,h0,h1,hk2⟩,hB1⟩ hK;have cr:=hk2.cell 0 _ rfl;gi_wp2
  refine⟨by simp, .inl ⟨_,_,rfl,run_takeDeferred hK,?_⟩⟩;have hb5:=hk2.keep (grownBy_putObj' _ D (.deferred none)) (by simp;omega);have hc5:=hb5.cell 0 _ rfl
  have hf:a1q L c o=(cl L k.1).name:=by
   unfold a1q O7
   rw[b0A (pre0:=X2 pre0) (k:=k.1) (r:=(k.1,i)) (by simpa[X2]using hpre) (fun j hj=>by
    obtain⟨j',hj',rfl⟩:=List.mem_map.1 hj;rw[h0 j' hj'];rfl) (by rw[h1];rfl)]
  rw[hf];exact⟨.string (cl L k.1).name,by simp[results,Tryz.results103,go_sem,hc5],rfl,t6 (hB1.grown (grownBy_putObj' _ D _) hB1.size (fun k e=>by cases e;omega))⟩
attribute [local go_sem] Oper.semAt_some
variable {w:World}
variable {lim:Nat}
variable {a:Option Addr}
theorem a1h{w':World}{B sz:Nat}{enc:α→List Value}{xs:List α}(h:C0 w lim sz enc a xs)(hb:Below B w w')(hl:lim≤B):C0 w' lim sz enc a xs:=fun j hj=>by
 obtain⟨p,h1,h2,h3⟩:=h j hj;exact⟨p,h1,h2,fun r u hu=>(hb.cell (by rw[a1l];omega)).trans (h3 r u hu)⟩
def U0(w:World)(lim:Nat)(L:List Cl)(q:Nat→Qs):Prop:=∀i,i<L.length→C0 w lim 3 G8 (q i).fa (cl L i).fields
def a1p(L:List Cl)(c n:ByteArray):Value:=match R0 L c n with
 |some p=> .tuple #[.agg #[.int .i64 ((cl L p.1).fields.getD p.2 l7).ty.kind, .string ((cl L p.1).fields.getD p.2 l7).ty.name], .bool true]
 |none=> .tuple #[.agg #[.int .i64 0, .string ⟨#[]⟩], .bool false]
theorem b8x{c:Cl}{n:ByteArray}{i:Nat}(h:X7 c n=some i):i<c.fields.length:=by
 unfold X7 at h;obtain⟨h1,-⟩:=List.findIdx?_eq_some_iff_getElem.1 h;exact h1
set_option maxRecDepth 100000 in
set_option maxHeartbeats 2000000 in
theorem a4z(w:World)(lim b:Nat)(L:List Cl)(p:Addr)(cap m1 m2 m3:Nat)(q:Nat→Qs)(h:Hid (I9 w lim b L p cap m1 m2 m3 q))(hl:lim≤w.heap.size)(hU:Hid (UpL L))(hD:Hid (t9 L))(hZ:Hid (l5 K5 L))(hP:Hid (U0 w lim L q))(c o:ByteArray)(hc:c.size≤maxLen)(ho:o.size≤maxLen):
 Calls Tryz.prog 248 #[.pointer (some ⟨b,0,none⟩), .string c, .string o] w fun e w'=>e= .returned (a1p L c o)∧w.grownBy w' none:=by
 refine(callsIn_wide (n:=9)).1 ?_;refine callsIn_of_wp_marks Tryz.func248 rfl trivial ?_ rfl;simp only[Tryz.ntmps248,List.size_toArray,List.length_cons,List.length_nil,Nat.reduceAdd,Nat.reduceSub,Array.replicate_succ,Array.replicate_zero,List.push_toArray,List.append_toArray,List.nil_append,List.cons_append];gi_wp2_with (refine⟨trivial,?_⟩;gi_at_call 167;refine(a4t _ _ trivial rfl _ _ _).mono ?_;rintro e w' ⟨rfl,rfl⟩)
 have hB0:Below w.heap.size w ((((((w.alloc (.cells #[.pointer (some ⟨b,0,none⟩)] 156)).alloc (.cells #[.string o] 9)).alloc (.cells #[.int .i64 0, .string ⟨#[]⟩] 98)).alloc (.cells #[.bool false] 4)).alloc (.cells #[.pointer (some ⟨b,0,none⟩)] 156)).alloc (.cells #[.string c] 9)):=((((((Below.refl _ w).alloc (Nat.le_refl _) _).alloc (by simp) _).alloc (by simp;omega) _).alloc (by simp;omega) _).alloc (by simp;omega) _).alloc (by simp;omega) _;have hsz:((((((w.alloc (.cells #[.pointer (some ⟨b,0,none⟩)] 156)).alloc (.cells #[.string o] 9)).alloc (.cells #[.int .i64 0, .string ⟨#[]⟩] 98)).alloc (.cells #[.bool false] 4)).alloc (.cells #[.pointer (some ⟨b,0,none⟩)] 156)).alloc (.cells #[.string c] 9)).heap.size=w.heap.size+6:=by simp
 have k0:=(((((A3.new w #[.pointer (some ⟨b,0,none⟩)] 156).keep (A2 _ (.cells #[.string o] 9) none) (by simp)).keep (A2 _ (.cells #[.int .i64 0, .string ⟨#[]⟩] 98) none) (by simp)).keep (A2 _ (.cells #[.bool false] 4) none) (by simp)).keep (A2 _ (.cells #[.pointer (some ⟨b,0,none⟩)] 156) none) (by simp)).keep (A2 _ (.cells #[.string c] 9) none) (by simp);have k1:=((((A3.new (w.alloc (.cells #[.pointer (some ⟨b,0,none⟩)] 156)) #[.string o] 9).keep (A2 _ (.cells #[.int .i64 0, .string ⟨#[]⟩] 98) none) (by simp)).keep (A2 _ (.cells #[.bool false] 4) none) (by simp)).keep (A2 _ (.cells #[.pointer (some ⟨b,0,none⟩)] 156) none) (by simp)).keep (A2 _ (.cells #[.string c] 9) none) (by simp);have k2:=(((A3.new ((w.alloc (.cells #[.pointer (some ⟨b,0,none⟩)] 156)).alloc (.cells #[.string o] 9)) #[.int .i64 0, .string ⟨#[]⟩] 98).keep (A2 _ (.cells #[.bool false] 4) none) (by simp)).keep (A2 _ (.cells #[.pointer (some ⟨b,0,none⟩)] 156) none) (by simp)).keep (A2 _ (.cells #[.string c] 9) none) (by simp);have k3:=((A3.new (((w.alloc (.cells #[.pointer (some ⟨b,0,none⟩)] 156)).alloc (.cells #[.string o] 9)).alloc (.cells #[.int .i64 0, .string ⟨#[]⟩] 98)) #[.bool false] 4).keep (A2 _ (.cells #[.pointer (some ⟨b,0,none⟩)] 156) none) (by simp)).keep (A2 _ (.cells #[.string c] 9) none) (by simp);have k4:=(A3.new ((((w.alloc (.cells #[.pointer (some ⟨b,0,none⟩)] 156)).alloc (.cells #[.string o] 9)).alloc (.cells #[.int .i64 0, .string ⟨#[]⟩] 98)).alloc (.cells #[.bool false] 4)) #[.pointer (some ⟨b,0,none⟩)] 156).keep (A2 _ (.cells #[.string c] 9) none) (by simp);have k5:=A3.new (((((w.alloc (.cells #[.pointer (some ⟨b,0,none⟩)] 156)).alloc (.cells #[.string o] 9)).alloc (.cells #[.int .i64 0, .string ⟨#[]⟩] 98)).alloc (.cells #[.bool false] 4)).alloc (.cells #[.pointer (some ⟨b,0,none⟩)] 156)) #[.string c] 9;simp only[World.size_alloc]at k1 k2 k3 k4 k5;obtain⟨W0,hW0⟩:∃W0,(((((w.alloc (.cells #[.pointer (some ⟨b,0,none⟩)] 156)).alloc (.cells #[.string o] 9)).alloc (.cells #[.int .i64 0, .string ⟨#[]⟩] 98)).alloc (.cells #[.bool false] 4)).alloc (.cells #[.pointer (some ⟨b,0,none⟩)] 156)).alloc (.cells #[.string c] 9)=W0:=⟨_,rfl⟩
 rw[hW0]at hB0 hsz k0 k1 k2 k3 k4 k5⊢;clear hW0;have HK0:=A0 (h.out.below hB0 hl)
 refine wpIn_rangeFunc_ownH rfl (by omega) (gf:=254) (lb:= #[.pointer (some ⟨w.heap.size+1+1+1+1,0,none⟩), .pointer (some ⟨w.heap.size+1+1+1+1+1,0,none⟩)]) rfl trivial (enters_of Tryz.func254 (by kernel_rfl) rfl)
  (a5z _ _ trivial rfl (by omega) w.heap.size (w.heap.size+1+1+1+1) (w.heap.size+1+1+1+1+1) lim b L p cap m1 m2 m3 q c hc hU W0 (by omega) (by omega) (k4.cell 0 _ rfl) (k5.cell 0 _ rfl) HK0 hl (by omega)) a4T (a4U (by omega) (by omega)) (Below.refl _ _) (fun _=>rfl)
  (fun pre W=>((∀k∈pre,X7 (cl L k.1) o=none)∧A3 W (w.heap.size) #[.pointer (some ⟨b,0,none⟩)] 156∧A3 W (w.heap.size+1) #[.string o] 9∧A3 W (w.heap.size+1+1) #[.int .i64 0, .string ⟨#[]⟩] 98∧A3 W (w.heap.size+1+1+1) #[.bool false] 4∧A3 W (w.heap.size+1+1+1+1+1) #[.string c] 9)∧Below w.heap.size w W)
  (fun d pre W=>(d= .ret∧(∃pre0 k i,pre=pre0++ [k]∧(∀j∈pre0,X7 (cl L j.1) o=none)∧X7 (cl L k.1) o=some i∧A3 W (w.heap.size+1+1) #[.int .i64 ((cl L k.1).fields.getD i l7).ty.kind, .string ((cl L k.1).fields.getD i l7).ty.name] 98∧A3 W (w.heap.size+1+1+1) #[.bool true] 4))∧Below w.heap.size w W)
  (OwnFrom.and (fun s X Y row hs hg hr=>⟨hs.1,Own.from (M8 _ _ _) _ () X Y row hs.2.1 hg hr,Own.from (M8 _ _ _) _ () X Y row hs.2.2.1 hg hr,Own.from (M8 _ _ _) _ () X Y row hs.2.2.2.1 hg hr,Own.from (M8 _ _ _) _ () X Y row hs.2.2.2.2.1 hg hr,Own.from (M8 _ _ _) _ () X Y row hs.2.2.2.2.2 hg hr⟩) (ownFrom_below (Nat.le_refl _) (by omega)))
  (fun d=>OwnFrom.and (fun s X Y row hs hg hr=>by obtain⟨h1,pre0,k,i,h2,h3,h4,h5,h6⟩:=hs;exact⟨h1,pre0,k,i,h2,h3,h4,Own.from (M8 _ _ _) _ () X Y row h5 hg hr,Own.from (M8 _ _ _) _ () X Y row h6 hg hr⟩) (ownFrom_below (Nat.le_refl _) (by omega)))
  ⟨⟨by simp,k0,k1,k2,k3,k5⟩,hB0⟩
  (fun x a' W=>∃Bx,w.heap.size+6≤Bx∧A3 W Bx #[.string (cl L x.1).name, .string (cl L x.1).super, .slice (q x.1).fa (cl L x.1).fields.length (q x.1).fk, .slice (q x.1).ma (cl L x.1).methods.length (q x.1).mc] 44∧a'={tmps:= #[.pointer (some ⟨b,0,none⟩), .string c, .string o, .pointer (some ⟨w.heap.size,0,none⟩),undef, .pointer (some ⟨w.heap.size+1,0,none⟩), .pointer (some ⟨w.heap.size+1+1,0,none⟩), .pointer (some ⟨w.heap.size+1+1+1,0,none⟩), .pointer (some ⟨Bx,0,none⟩),undef,undef, .pointer (some ⟨b,0,none⟩), .string c, .func (.func 254) #[] #[.pointer (some ⟨w.heap.size+1+1+1+1,0,none⟩), .pointer (some ⟨w.heap.size+1+1+1+1+1,0,none⟩)], .agg #[.string (cl L x.1).name, .string (cl L x.1).super, .slice (q x.1).fa (cl L x.1).fields.length (q x.1).fk, .slice (q x.1).ma (cl L x.1).methods.length (q x.1).mc],undef,undef,undef,undef,undef,undef,undef,undef,undef,undef,undef,undef,undef,undef,undef,undef,undef,undef,undef,undef],defers:=[]})
  (fun x a' _ X Y row hs hg hr=>by obtain⟨Bx,h1,h2,h3⟩:=hs;exact⟨Bx,h1,M8 Bx _ _ () X Y row h2 hg (fun r e=>(hr r e).2),h3⟩)
  ?assign ?body ?done ?stop
 case assign=>
  rintro l pre x W K ⟨⟨hne,hk0,hk1,hk2,hk3,hk5⟩,hB1⟩ hK;dsimp only[a2d,F8];gi_wp2
  have h3:=hk5.lt;exact hK _ _ ((KeepsOthers.alloc _ _).from _) ⟨(Below.refl _ W).alloc hB1.size _,Below.heap_alloc W _ _ (by omega)⟩ ⟨⟨hne,hk0.keep (A2 _ _ none) (by simp),hk1.keep (A2 _ _ none) (by simp),hk2.keep (A2 _ _ none) (by simp),hk3.keep (A2 _ _ none) (by simp),hk5.keep (A2 _ _ none) (by simp)⟩,hB1.alloc hB1.size _⟩ ⟨W.heap.size,by omega,A3.new W _ _,rfl⟩
 case body=>
  rintro l pre x a' W hl2 _ ⟨⟨hne,hk0,hk1,hk2,hk3,hk5⟩,hB1⟩ ⟨Bx,hBx,hbx,rfl⟩ hlt;have cx:=hbx.cell 0 _ rfl;have c0:=hk0.cell 0 _ rfl;have c1:=hk1.cell 0 _ rfl;have cr:=hk2.cell 0 _ rfl;have fr:=hk2.frozen 0;have HKW:=A0 (h.out.below hB1 hl);have c3:=HKW.out.c2;have cr3:=hk3.cell 0 _ rfl;have fr3:=hk3.frozen 0;have cr2:=hk2.cell 1 _ rfl;have fr2:=hk2.frozen 1;have cx2:=hbx.cell 2 _ rfl;obtain⟨r,hr⟩:∃r,r=X7 (cl L x.1) o:=⟨_,rfl⟩
  have hfr:L2 (N6 K5 L) (M5 (cl L x.1).name o)=r:=by rw[a4C K5 hD.out hZ.out x.2 o ho,a8K,hr]
  have hrun:=fun k:Nat=>a5w (w:=W.drewN k) HKW.out.n2 (cl L x.1).name o (HKW.out.names x.1 x.2).1 ho r hfr
  clear hfr;have HR:=A0 hr;clear hr;cases r with
  |none=>
   simp only[Option.getD_none,Option.isSome_none]at hrun;gi_wp2
   refine a2Q rfl (by kernel_rfl) (by kernel_rfl) (by kernel_rfl) ?_;repeat (gi_big_quiet_step (fail))
   refine wpQuietIn_nil ?_;intro _ hw';obtain⟨nq,hw''⟩:=hw';subst hw'';gi_wp2
   exact⟨a2R _ _ _,⟨a1i (Below.refl _ _) _,rfl⟩,⟨fun k hk=>(List.mem_append.1 hk).elim (hne k) (fun e=>by simp at e;subst e;exact HR.out.symm),hk0,hk1,hk2,hk3,hk5⟩,a1i hB1 _⟩
  |some i=>
   simp only[Option.getD_some,Option.isSome_some]at hrun;have hil:=b8x HR.out.symm;obtain⟨pf,hpf,hpb,hpc⟩:=a1h (hP.out x.1 x.2) hB1 hl i hil;obtain⟨fd,hfd⟩:∃fd,fd=(cl L x.1).fields[i]:=⟨_,rfl⟩
   have g1:W.cell? ⟨(pf.add (i*3)).block,(pf.add (i*3)).off+1,none⟩=some (.int .i64 fd.ty.kind):=by rw[B9 pf (i*3) 0,hfd];exact hpc 1 _ rfl
   have g2:W.cell? ⟨(pf.add (i*3)).block,(pf.add (i*3)).off+2,none⟩=some (.string fd.ty.name):=by rw[B9 pf (i*3) 1,hfd];exact hpc 2 _ rfl
   have g2':W.cell? ⟨(pf.add (i*3)).block,(pf.add (i*3)).off+1+1,none⟩=some (.string fd.ty.name):=g2;rw[hpf]at cx2;clear hpc hP;gi_wp2
   refine a2Q rfl (by kernel_rfl) (by kernel_rfl) (by kernel_rfl) ?_;repeat (gi_big_quiet_step (fail))
   refine wpQuietIn_nil ?_;intro _ hw';obtain⟨nq,hw''⟩:=hw';subst hw'';gi_wp2
   have hgd:(cl L x.1).fields.getD i l7=(cl L x.1).fields[i]:=by rw[List.getD_eq_getElem?_getD,List.getElem?_eq_getElem hil];rfl
   refine⟨(a2R _ _ _).trans (((KeepsOthers.setCell _ _ _).from _).trans (((KeepsOthers.setCell _ _ _).from _).trans ((KeepsOthers.setCell _ _ _).from _))),⟨rfl,pre,x,i,rfl,hne,HR.out.symm,?_,?_⟩,(((a1i hB1 _).setCell (p:=⟨w.heap.size+1+1,0,none⟩) (by simp;omega) _).setCell (p:=⟨w.heap.size+1+1,1,none⟩) (by simp;omega) _).setCell (p:=⟨w.heap.size+1+1+1,0,none⟩) (by simp;omega) _⟩
   ·rw[hgd];have hk2':A3 (W.drewN nq) (w.heap.size+1+1) #[.int .i64 0, .string ⟨#[]⟩] 98:=hk2;exact((hk2'.set 0 _).set 1 _).keep (A6 _ ⟨w.heap.size+1+1+1,0,none⟩ _) (by simp)
   ·have hk3':A3 (W.drewN nq) (w.heap.size+1+1+1) #[.bool false] 4:=hk3;exact((hk3'.keep (A6 (W.drewN nq) ⟨w.heap.size+1+1,0,none⟩ _) (by simp)).keep (A6 _ ⟨w.heap.size+1+1,1,none⟩ _) (by simp)).set 0 _
 case done=>
  rintro D ys W hD hys ⟨⟨hne,hk0,hk1,hk2,hk3,hk5⟩,hB1⟩ hK;have cr2:=hk2.cell 1 _ rfl;have fr2:=hk2.frozen 1;have cr:=hk2.cell 0 _ rfl;have fr:=hk2.frozen 0;have cr3:=hk3.cell 0 _ rfl;have fr3:=hk3.frozen 0;gi_wp2
  have hK':=(KeepsOthers.setCell ((W.setCell ⟨w.heap.size+1+1,0,none⟩ (.int .i64 0)).setCell ⟨w.heap.size+1+1,1,none⟩ (.string ⟨#[]⟩)) ⟨w.heap.size+1+1+1,0,none⟩ (.bool false)).same D _ ((KeepsOthers.setCell (W.setCell ⟨w.heap.size+1+1,0,none⟩ (.int .i64 0)) ⟨w.heap.size+1+1,1,none⟩ (.string ⟨#[]⟩)).same D _ ((KeepsOthers.setCell W ⟨w.heap.size+1+1,0,none⟩ (.int .i64 0)).same D _ hK rfl) rfl) rfl;refine⟨by simp, .inl ⟨_,_,rfl,run_takeDeferred hK',?_⟩⟩;have hb2:=(((hk2.set 0 (.int .i64 0)).set 1 (.string ⟨#[]⟩)).keep (A6 _ ⟨w.heap.size+1+1+1,0,none⟩ (.bool false)) (by simp)).keep (grownBy_putObj' _ D (.deferred none)) (by simp;omega);have hb3:=(((hk3.keep (A6 W ⟨w.heap.size+1+1,0,none⟩ (.int .i64 0)) (by simp)).keep (A6 _ ⟨w.heap.size+1+1,1,none⟩ (.string ⟨#[]⟩)) (by simp)).set 0 (.bool false)).keep (grownBy_putObj' _ D (.deferred none)) (by simp;omega);have hc1:=hb2.cell 0 _ rfl;have hc2:=hb2.cell 1 _ rfl;have hc3:=hb3.cell 0 _ rfl
  have hf:a1p L c o= .tuple #[.agg #[.int .i64 0, .string ⟨#[]⟩], .bool false]:=by
   unfold a1p R0;rw[←hys,a9J];intro j hj;obtain⟨j',hj',rfl⟩:=List.mem_map.1 hj;rw[hne j' hj'];rfl
  rw[hf];exact⟨_,by simp[results,Tryz.results248,go_sem,hc1,hc2,hc3],rfl,t6 ((((hB1.setCell (p:=⟨w.heap.size+1+1,0,none⟩) (by simp;omega) _).setCell (p:=⟨w.heap.size+1+1,1,none⟩) (by simp;omega) _).setCell (p:=⟨w.heap.size+1+1+1,0,none⟩) (by simp;omega) _).grown (grownBy_putObj' _ D _) (by simp;exact hB1.size) (fun k e=>by cases e;omega))⟩
 case stop=>
  rintro D d pre W hD hpre ⟨⟨rfl,pre0,k,i,rfl,h0,h1,hk2,hk3⟩,hB1⟩ hK;gi_wp2
  refine⟨by simp, .inl ⟨_,_,rfl,run_takeDeferred hK,?_⟩⟩;have hb2:=hk2.keep (grownBy_putObj' _ D (.deferred none)) (by simp;omega);have hb3:=hk3.keep (grownBy_putObj' _ D (.deferred none)) (by simp;omega);have hc1:=hb2.cell 0 _ rfl;have hc2:=hb2.cell 1 _ rfl;have hc3:=hb3.cell 0 _ rfl
  have hf:a1p L c o= .tuple #[.agg #[.int .i64 ((cl L k.1).fields.getD i l7).ty.kind, .string ((cl L k.1).fields.getD i l7).ty.name], .bool true]:=by
   unfold a1p R0
   rw[b0A (pre0:=X2 pre0) (k:=k.1) (r:=(k.1,i)) (by simpa[X2]using hpre) (fun j hj=>by
    obtain⟨j',hj',rfl⟩:=List.mem_map.1 hj;rw[h0 j' hj'];rfl) (by rw[h1];rfl)]
  rw[hf];obtain⟨fd,hfd⟩:∃fd,fd=(cl L k.1).fields.getD i l7:=⟨_,rfl⟩
  rw[←hfd]at hc1 hc2⊢;exact⟨_,by simp[results,Tryz.results248,go_sem,hc1,hc2,hc3],rfl,t6 (hB1.grown (grownBy_putObj' _ D _) hB1.size (fun k e=>by cases e;omega))⟩
theorem a9i(f:R9):(G8 f).length=3:=rfl
def Few(L:List Cl):Prop:=L.length≤64∧∀i,i<L.length→(cl L i).fields.length≤255∧(cl L i).methods.length≤255
theorem a7G{β:Type}{f:α→List β}{c:Nat}:∀{l:List α},(∀x∈l,(f x).length≤c)→(l.flatMap f).length≤l.length*c
 | [],_=>by simp
 |x::l,h=>by
  have h1:=h x (by simp);have h2:=a7G (fun y hy=>h y (by simp[hy])) (l:=l);rw[List.flatMap_cons,List.length_append,List.length_cons,Nat.succ_mul];omega
def a0y(L:List Cl)(l:List Nat):List R9:=l.reverse.flatMap fun k=>(cl L k).fields
theorem b3L(L:List Cl)(i:Nat)(l:List Nat):a0y L (i::l)=a0y L l++(cl L i).fields:=by unfold a0y;simp
theorem a9I{L:List Cl}(hf:Few L)(hl:∀i∈l,i<L.length):(a0y L l).length≤l.length*255:=by
 unfold a0y;have:=a7G (f:=fun k=>(cl L k).fields) (c:=255) (l:=l.reverse) (fun x hx=>(hf.2 x (hl x (by simpa using hx))).1);simpa using this
theorem a2U{fs:List R9}(h:C0 w lim 3 G8 a fs){k:Nat}(hk:k<fs.length):∃p:Addr,a=some p∧p.block<lim∧w.cell? (p.add (k*3))=some (.string fs[k].name)∧
 w.cell? ⟨(p.add (k*3)).block,(p.add (k*3)).off+1,none⟩=some (.int .i64 fs[k].ty.kind)∧w.cell? ⟨(p.add (k*3)).block,(p.add (k*3)).off+2,none⟩=some (.string fs[k].ty.name):=by
 obtain⟨p,h1,h2,h3⟩:=h k hk;exact⟨p,h1,h2,h3 0 _ rfl,by rw[B9 p (k*3) 0];exact h3 1 _ rfl,by rw[B9 p (k*3) 1];exact h3 2 _ rfl⟩
set_option maxRecDepth 100000 in
set_option maxHeartbeats 1000000 in
theorem b3n(w:World)(lim wb:Nat)(L:List Cl)(p:Addr)(cap:Nat)(q:Nat→Qs)(h:Hid (Wo w lim wb L p cap q))(hF:Hid (U0 w lim L q))(hfew:Hid (Few L))(s:ByteArray):
 Calls Tryz.prog 260 #[.pointer (some ⟨wb,0,none⟩), .string s] w fun e w'=>∃a k,e= .returned (.slice a (a0w L s).length k)∧C0 w' w'.heap.size 3 G8 a (a0w L s)∧w.grownBy w' none:=by
 have hL:=hfew.out.1;have hFR:a0w L s=a0y L (up L s):=rfl;have hul:=a5T (L:=L) s;have hlt0:∀i∈up L s,i<L.length:=a1W _ _
 rw[hFR];obtain⟨l,hl⟩:∃l,l=up L s:=⟨_,rfl⟩
 rw[←hl]at hul hlt0⊢;have HLS:=A0 hl;clear hl hFR;go_enter Tryz.func260,Tryz.ntmps260;go_wp2_with (go_at_call 130;refine(a6P _ lim wb L p cap q h s).mono ?_;rintro e w' ⟨a,kc,rfl,hrow,hg⟩;rw[←HLS.out]at hrow⊢)
 have HR:=A0 hrow;have HLT:=A0 hlt0;have HF':Hid (U0 w' lim L q):=fun i hi=>(hF.out i hi).keep hg
 obtain⟨n,hn⟩:∃n,n=l.length:=⟨_,rfl⟩
 rw[←hn]at hul;have hn64:n≤64:=by omega
 have HN:=A0 hn;rw[←hn];clear hn;have HG:=A0 hg;clear hrow hlt0 hul hL hg;go_wp2
 go_loopw [5,7] (fun o f wr=>∃j:Nat,j≤n∧f= .int .i64 ((j:Int)-1)∧Hid (wr.ownsRow w'.heap.size 129 3 o (a0y L (l.drop j)).length ((a0y L (l.drop j)).flatMap G8))∧Hid (w'.grownBy wr none)) (fun _ f _=>(intOf f+1).toNat)
 case atStart=>exact⟨n,by omega,rfl,by unfold Hid;rw[HN.out,List.drop_length];exact World.ownsRow_nil _ _ _ _,G1 _ _⟩
 case round=>
  obtain⟨j,hj,rfl,hrow,hg⟩:=hrel;cases j with
  |zero=>
   obtain⟨a1,k1,rfl⟩:=F1 hrow.out;go_wp2
   go_ret;have HO:=hrow.out;rw[List.drop_zero]at HO;exact⟨a1,k1,a6Q (by rw[List.drop_zero]),a0k a9i HO,A1 HG.out hg.out⟩
  |succ j=>
   have hjl:j<l.length:=by rw[←HN.out];omega
   obtain⟨pp,rfl,-,-,-,g2,-⟩:=a2W HR.out hjl;have hij:=HLT.out _ (List.getElem_mem hjl);obtain⟨X,hX⟩:∃X,X=a0y L (l.drop (j+1)):=⟨_,rfl⟩
   have HX:Hid (a0y L (l.drop j)=X++(cl L l[j]).fields):=by
    unfold Hid;rw[List.drop_eq_getElem_cons hjl,b3L,hX]
   have hXl:X.length≤64*255:=by
    rw[hX];have:=a9I hfew.out (l:=l.drop (j+1)) (fun i hi=>HLT.out i (List.mem_of_mem_drop hi));rw[List.length_drop]at this;have h2:(l.length-(j+1))*255≤64*255:=Nat.mul_le_mul_right _ (by rw[←HN.out];omega);omega
   rw[←hX]at hrow;clear hX;have HFc:=A0 (HF'.out _ hij);have hfl:=(hfew.out.2 _ hij).1;obtain⟨fa,hfa⟩:∃fa,fa=(q l[j]).fa:=⟨_,rfl⟩
   obtain⟨fk,hfk⟩:∃fk,fk=(q l[j]).fk:=⟨_,rfl⟩
   obtain⟨fs,hfs⟩:∃fs,fs=(cl L l[j]).fields:=⟨_,rfl⟩
   rw[←hfa,←hfs]at HFc;rw[←hfa,←hfs,←hfk]at g2;rw[←hfs]at HX hfl;obtain⟨nf,hnf⟩:∃nf,nf=fs.length:=⟨_,rfl⟩
   rw[←hnf]at g2 hfl;have HNF:=A0 hnf;clear hfa hfk hfs hnf;have g2r:=hg.out.cell g2 (by simp);have hnj:(((j:Int)+1-1))=(j:Int):=by omega
   simp only[Int.natCast_add,Int.natCast_one,hnj];clear hnj;go_wp2
   go_loopw [5,8] (fun o f wx=>∃k:Nat,k≤nf∧f= .int .i64 k∧Hid (wx.ownsRow w'.heap.size 129 3 o (X++fs.take k).length ((X++fs.take k).flatMap G8))∧Hid (w'.grownBy wx none)) (fun _ f _=>nf-(intOf f).toNat)
   case atStart=>exact⟨0,by omega,rfl,by unfold Hid;rw[List.take_zero,List.append_nil];exact hrow.out,hg.out⟩
   case round=>
    obtain⟨k,hk,rfl,hrow2,hg2⟩:=hrel;obtain⟨a1,k1,rfl⟩:=F1 hrow2.out;have g2':=hg2.out.cell g2 (by simp);by_cases hlt:k<nf
    ·have hkl:k<fs.length:=by rw[←HNF.out];exact hlt
     obtain⟨fp,rfl,-,e0,e1,e2⟩:=a2U (HFc.out.keep hg2.out) hkl;obtain⟨fx,hfx⟩:∃fx,fx=fs[k]:=⟨_,rfl⟩
     rw[←hfx]at e0 e1 e2;have HFX:=A0 hfx;obtain⟨inf,hi0,hz0,hz1,hz2⟩:=info_parts a7k;have hll:(X++fs.take k).length<65536:=by rw[List.length_append,List.length_take];omega
     have hsz:=hg2.out.size;clear hfx
     go_wp2_with (at_builtin;go_loud (refine wpList_append_own _ rfl _ _ 41 rfl w'.heap.size 129 inf _ 3 40 Tryz.underlying41 hi0 hz0 hz1 hz2 rfl (by decide) _ (X++fs.take k).length ((X++fs.take k).flatMap G8) rfl (World.ownsRow.alloc hrow2.out _) ⟨wr.heap.size,0,none⟩ 1 1 (G8 fx) rfl rfl (O5 wr _ _) (by simp[G8,Value.oneCell']) (t5 rfl hll) (by omega) (by simp;omega) ?_
                                      intro v' w4 hown hgrow _;have HG4:=A0 hown;have hgg:=A1 (A2 wr (.cells (G8 fx).toArray 129) _) hgrow;clear hown))
     go_roundw
     case rel=>exact⟨k+1,by omega,by go_num,by
      unfold Hid;rw[List.take_succ_eq_append_getElem hkl,←HFX.out,←List.append_assoc,List.length_append,List.flatMap_append (xs:=X++fs.take k)];simpa using HG4.out,C7 hg2.out hgg (fun g e=> .inl (K9 hrow2.out e).1)⟩
     case measure=>simp[intOf];omega
    ·have HXX:Hid (a0y L (l.drop j)=X++fs.take k):=by
      unfold Hid;rw[HX.out,List.take_of_length_le (by rw[←HNF.out];omega)]
     go_wp2
     refine⟨⟨j,by omega,rfl,by unfold Hid;rw[HXX.out];exact hrow2.out,hg2⟩,by simp[intOf]⟩
open Go.RowKit Cf
def mv(m:Me)(pa:Option Addr)(pk:Nat)(ca:Option Addr)(ck:Nat)(ha:Option Addr)(hk:Nat):List Value:=
 [.string m.name, .slice pa m.params.length pk, .int .i64 m.ret.kind, .string m.ret.name, .int .i64 m.stack, .int .i64 m.locals, .slice ca m.code.length ck, .slice ha m.handlers.length hk]
def O9(w:World)(lim:Nat)(L:List Cl)(q:Nat→Qs):Prop:=
 ∀i,i<L.length→∀j,j<(cl L i).methods.length→∃(p:Addr) (pa ca ha:Option Addr) (pk ck hk:Nat),(q i).ma=some p∧p.block<lim∧
  C0 w lim 2 C1 pa ((cl L i).methods.getD j K8).params∧C0 w lim 4 L8 ca ((cl L i).methods.getD j K8).code∧C0 w lim 4 M6 ha ((cl L i).methods.getD j K8).handlers∧
  ∀r u,(mv ((cl L i).methods.getD j K8) pa pk ca ck ha hk)[r]? =some u→w.cell? (p.add (j*8+r))=some u
def a1z(L:List Cl)(c n:ByteArray):Option (Nat×Nat):=(C5 L c).bind fun k=>(N8 (cl L k) n).map fun i=>(k,i)
theorem b1p{c:Cl}{n:ByteArray}{i:Nat}(h:N8 c n=some i):i<c.methods.length:=by
 unfold N8 at h;obtain⟨h1,-⟩:=List.findIdx?_eq_some_iff_getElem.1 h;exact h1
variable {w w':World}
variable {L:List Cl}
theorem a6W{m n:Nat}(h:w.ownsMap (H:=Unit) Tryz.prog 9 (plainElem Tryz.prog 3) m n (P2 (X5 L)))(s:ByteArray)(hs:s.size≤maxLen):
 (Instr.lookup 148 (.map (some m)) (.string s) false).run Tryz.prog w= .ok (.int .i64 ((C5 L s).getD 0:Nat)) w:=by
 obtain⟨c,h1,h2,-⟩:=h.lookup_int a3X Tryz.underlying148 Tryz.underlying3 (a1Q w) (WideMaps.keyOf_string_mk Tryz.underlying9 hs);have ha:(P2 (X5 L)).atKey (.string s.data.toList) (.lit (.int .i64 0))= .lit (.int .i64 ((C5 L s).getD 0:Nat)):=a8Z L s;rw[ha]at h2;simp only[DataW.lit.injEq,Lit.int.injEq,true_and]at h2;subst h2;exact h1
theorem b8p(f:Cl→List ByteArray)(hd:t9 L)(hs:l5 f L)(c n:ByteArray)(hc:c.size≤maxLen)(hn:n.size≤maxLen):
 L2 (N6 f L) (M5 c n)=(C5 L c).bind fun k=>(f (cl L k)).findIdx? (fun x=>decide (x=n)):=by
 cases hf:C5 L c with
 |none=>
  rw[a5u f c n hc hn L hs (fun x hx=>by
   obtain⟨j,hj,rfl⟩:=List.getElem_of_mem hx;have:=a5p hf j hj;rwa[U3 hj]at this)]
  rfl
 |some k=>
  obtain⟨h1,h2,-⟩:=L4 hf;rw[←h2,a4C f hd hs h1 n hn];rfl
def a2c(w:World)(lim:Nat)(L:List Cl)(r:Option (Nat×Nat))(e:Ending):Prop:=match r with
 |none=>e= .returned (.tuple #[.agg mZ, .bool false])
 |some k=>∃(pa ca ha:Option Addr) (pk ck hk:Nat),e= .returned (.tuple #[.agg (mv (g9 L k) pa pk ca ck ha hk).toArray, .bool true])∧C0 w lim 2 C1 pa (g9 L k).params∧C0 w lim 4 L8 ca (g9 L k).code∧C0 w lim 4 M6 ha (g9 L k).handlers
set_option maxRecDepth 100000 in
set_option maxHeartbeats 2000000 in
theorem a4p(w:World)(lim b:Nat)(L:List Cl)(p:Addr)(cap m1 m2 m3:Nat)(q:Nat→Qs)(h:Hid (I9 w lim b L p cap m1 m2 m3 q))(hl:lim≤w.heap.size)(hD:Hid (t9 L))(hZ:Hid (l5 G2 L))(hP:Hid (O9 w lim L q))(c o:ByteArray)(hc:c.size≤maxLen)(ho:o.size≤maxLen):
 Calls Tryz.prog 69 #[.pointer (some ⟨b,0,none⟩), .string c, .string o] w fun e w'=>w.grownBy w' none∧a2c w lim L (a1z L c o) e:=by
 have c3:=h.out.c3;have hr0:=b8p G2 hD.out hZ.out c o hc ho;obtain⟨W1,hW1⟩:∃W1,W1=w.alloc (.cells mZ 102):=⟨_,rfl⟩
 have hg1:w.grownBy W1 none:=by rw[hW1];exact A2 _ _ _
 have HK1:=A0 (h.out.keep hg1 hl);have hB1:A3 W1 w.heap.size mZ 102:=by rw[hW1];exact A3.new w _ _
 have cA:=HK1.out.c3;cases hm:a1z L c o with
 |none=>
  have hr:L2 (N6 G2 L) (M5 c o)=none:=by
   rw[hr0];unfold a1z at hm;cases hf:C5 L c with
   |none=>rfl
   |some k=>
    rw[hf]at hm;simp only[Option.bind_some,Option.map_eq_none_iff]at hm⊢;rw[a5j,hm]
  have hrun:=a5w HK1.out.n3 c o hc ho none hr;simp only[Option.getD_none,Option.isSome_none]at hrun;rw[hW1]at hrun hB1 cA;have fr0:=hB1.frozen 0;have fr1:=hB1.frozen 1;have fr2:=hB1.frozen 2;have fr3:=hB1.frozen 3;have fr4:=hB1.frozen 4;have fr5:=hB1.frozen 5;have fr6:=hB1.frozen 6;have fr7:=hB1.frozen 7;have d0:=hB1.cell 0 _ rfl;have d1:=hB1.cell 1 _ rfl;have d2:=hB1.cell 2 _ rfl;have d3:=hB1.cell 3 _ rfl;have d4:=hB1.cell 4 _ rfl;have d5:=hB1.cell 5 _ rfl;have d6:=hB1.cell 6 _ rfl;have d7:=hB1.cell 7 _ rfl;clear hr0 hr hg1 HK1 hW1;go_enter Tryz.func69,Tryz.ntmps69;go_wp2
  refine bodyPost_ret (v:= .tuple #[.agg mZ, .bool false]) (by simp[results,Tryz.results69,go_sem,d0,d1,d2,d3,d4,d5,d6,d7]) rfl ?_;exact⟨A2 _ _ _,rfl⟩
 |some k=>
  obtain⟨k,i⟩:=k
  have hk:C5 L c=some k∧N8 (cl L k) o=some i:=by
   unfold a1z at hm;cases hf:C5 L c with
   |none=>rw[hf]at hm;cases hm
   |some k'=>
    rw[hf]at hm;simp only[Option.bind_some,Option.map_eq_some_iff,Prod.mk.injEq]at hm;obtain⟨i',h1,rfl,rfl⟩:=hm;exact⟨rfl,h1⟩
  have hr:L2 (N6 G2 L) (M5 c o)=some i:=by rw[hr0,hk.1,Option.bind_some,a5j,hk.2]
  have hkl:=(L4 hk.1).1;have hil:=b1p hk.2;have hrun:=a5w HK1.out.n3 c o hc ho _ hr;simp only[Option.getD_some,Option.isSome_some]at hrun;obtain⟨pm,pa,ca,ha,pk,ck,hk0,e1,e2,e3,e4,e5,e6⟩:=hP.out k hkl i hil;obtain⟨md,hmd⟩:∃md,md=(cl L k).methods.getD i K8:=⟨_,rfl⟩
  have hcw:∀(ob:Obj),(w.alloc ob).drew.cell? ⟨b,0,none⟩=some (.slice (some p) L.length cap)∧(w.alloc ob).drew.cell? ⟨b,1,none⟩=some (.map (some m1))∧(w.alloc ob).drew.cell? ⟨(p.add (k*4)).block,(p.add (k*4)).off+3,none⟩=some (.slice (some pm) (cl L k).methods.length (q k).mc)∧(w.alloc ob).drew.cell? (pm.add (i*8))=some (.string md.name)∧(w.alloc ob).drew.cell? ⟨(pm.add (i*8)).block,(pm.add (i*8)).off+1,none⟩=some (.slice pa md.params.length pk)∧(w.alloc ob).drew.cell? ⟨(pm.add (i*8)).block,(pm.add (i*8)).off+2,none⟩=some (.int .i64 md.ret.kind)∧(w.alloc ob).drew.cell? ⟨(pm.add (i*8)).block,(pm.add (i*8)).off+3,none⟩=some (.string md.ret.name)∧(w.alloc ob).drew.cell? ⟨(pm.add (i*8)).block,(pm.add (i*8)).off+4,none⟩=some (.int .i64 md.stack)∧(w.alloc ob).drew.cell? ⟨(pm.add (i*8)).block,(pm.add (i*8)).off+5,none⟩=some (.int .i64 md.locals)∧(w.alloc ob).drew.cell? ⟨(pm.add (i*8)).block,(pm.add (i*8)).off+6,none⟩=some (.slice ca md.code.length ck)∧(w.alloc ob).drew.cell? ⟨(pm.add (i*8)).block,(pm.add (i*8)).off+7,none⟩=some (.slice ha md.handlers.length hk0)∧(Instr.lookup 148 (.map (some m1)) (.string c) false).run Tryz.prog (w.alloc ob).drew= .ok (.int .i64 (k:Int)) (w.alloc ob).drew:=fun ob=>by
   have hg:=A1 (A2 w ob none) (B8 _ _);have HK:=h.out.keep hg hl;have HM1:=fun r u hu=>hg.cell (e6 r u (by rw[←hmd];exact hu)) (by simp)
   have hr1:=a6W HK.n1 c hc;rw[hk.1]at hr1;refine⟨HK.c0,HK.c1,?_,HM1 0 _ rfl,?_,?_,?_,?_,?_,?_,?_,hr1⟩
   ·rw[B9 p (k*4) 2,←e1];exact HK.row k hkl 3 _ rfl
   ·rw[B9 pm (i*8) 0];exact HM1 1 _ rfl
   ·rw[B9 pm (i*8) 1];exact HM1 2 _ rfl
   ·rw[B9 pm (i*8) 2];exact HM1 3 _ rfl
   ·rw[B9 pm (i*8) 3];exact HM1 4 _ rfl
   ·rw[B9 pm (i*8) 4];exact HM1 5 _ rfl
   ·rw[B9 pm (i*8) 5];exact HM1 6 _ rfl
   ·rw[B9 pm (i*8) 6];exact HM1 7 _ rfl
  rw[hW1]at hrun hB1 cA;have fr0:=hB1.frozen 0;have fr1:=hB1.frozen 1;have fr2:=hB1.frozen 2;have fr3:=hB1.frozen 3;have fr4:=hB1.frozen 4;have fr5:=hB1.frozen 5;have fr6:=hB1.frozen 6;have fr7:=hB1.frozen 7;have d0:=hB1.cell 0 _ rfl;have d1:=hB1.cell 1 _ rfl;have d2:=hB1.cell 2 _ rfl;have d3:=hB1.cell 3 _ rfl;have d4:=hB1.cell 4 _ rfl;have d5:=hB1.cell 5 _ rfl;have d6:=hB1.cell 6 _ rfl;have d7:=hB1.cell 7 _ rfl;have hcS:=hcw;clear hcw;clear hr0 hr hg1 HK1 hW1;go_enter Tryz.func69,Tryz.ntmps69;go_wp2
  go_region_held2 (fun w'=>w'.cell? ⟨b,0,none⟩=some (.slice (some p) L.length cap)∧w'.cell? ⟨b,1,none⟩=some (.map (some m1))∧w'.cell? ⟨(p.add (k*4)).block,(p.add (k*4)).off+3,none⟩=some (.slice (some pm) (cl L k).methods.length (q k).mc)∧w'.cell? (pm.add (i*8))=some (.string md.name)∧w'.cell? ⟨(pm.add (i*8)).block,(pm.add (i*8)).off+1,none⟩=some (.slice pa md.params.length pk)∧w'.cell? ⟨(pm.add (i*8)).block,(pm.add (i*8)).off+2,none⟩=some (.int .i64 md.ret.kind)∧w'.cell? ⟨(pm.add (i*8)).block,(pm.add (i*8)).off+3,none⟩=some (.string md.ret.name)∧w'.cell? ⟨(pm.add (i*8)).block,(pm.add (i*8)).off+4,none⟩=some (.int .i64 md.stack)∧w'.cell? ⟨(pm.add (i*8)).block,(pm.add (i*8)).off+5,none⟩=some (.int .i64 md.locals)∧w'.cell? ⟨(pm.add (i*8)).block,(pm.add (i*8)).off+6,none⟩=some (.slice ca md.code.length ck)∧w'.cell? ⟨(pm.add (i*8)).block,(pm.add (i*8)).off+7,none⟩=some (.slice ha md.handlers.length hk0)∧(Instr.lookup 148 (.map (some m1)) (.string c) false).run Tryz.prog w'= .ok (.int .i64 (k:Int)) w') (exact hcS _) (fail)
  have hgi:(cl L k).methods[i]=md:=by rw[hmd,List.getD_eq_getElem?_getD,List.getElem?_eq_getElem hil];rfl
  have hB2:=(A3.new w (mv md pa pk ca ck ha hk0).toArray 102).keep (B8 _ none) (by simp);have g0:=hB2.cell 0 _ rfl;have g1:=hB2.cell 1 _ rfl;have g2:=hB2.cell 2 _ rfl;have g3:=hB2.cell 3 _ rfl;have g4:=hB2.cell 4 _ rfl;have g5:=hB2.cell 5 _ rfl;have g6:=hB2.cell 6 _ rfl;have g7:=hB2.cell 7 _ rfl;simp only[hgi];clear hB1 hB2 fr0 fr1 fr2 fr3 fr4 fr5 fr6 fr7 d0 d1 d2 d3 d4 d5 d6 d7 hcS;simp only[mv]at g0 g1 g2 g3 g4 g5 g6 g7;go_wp2
  refine bodyPost_ret (v:= .tuple #[.agg (mv md pa pk ca ck ha hk0).toArray, .bool true]) (by simp[results,Tryz.results69,go_sem,g0,g1,g2,g3,g4,g5,g6,g7,mv]) rfl ?_;refine⟨A1 (A2 _ _ none) (B8 _ _),?_⟩;unfold a2c;refine⟨pa,ca,ha,pk,ck,hk0,?_,?_⟩
  ·unfold g9;rw[←hmd]
  ·unfold g9;exact⟨e3,e4,e5⟩
variable {lim:Nat}
theorem O9.keep{q:Nat→Qs}(h:O9 w lim L q)(hg:w.grownBy w' none):O9 w' lim L q:=fun i hi j hj=>by
 obtain⟨p,pa,ca,ha,pk,ck,hk,h1,h2,h3,h4,h5,h6⟩:=h i hi j hj;exact⟨p,pa,ca,ha,pk,ck,hk,h1,h2,h3.keep hg,h4.keep hg,h5.keep hg,fun r u hu=>hg.cell (h6 r u hu) (by simp)⟩
theorem a6H{α:Type}{sz:Nat}{enc:α→List Value}{a:Option Addr}{xs:List α}(h:C0 w' lim sz enc a xs)(hg:w.grownBy w' none)(hl:lim≤w.heap.size):C0 w lim sz enc a xs:=fun j hj=>by
 obtain⟨p,h1,h2,h3⟩:=h j hj;refine⟨p,h1,h2,fun r u hu=> ?_⟩;rw[←h3 r u hu];exact(World.cell?_of_block (w:=w) (hg.block (p.add (j*sz+r)).block (by rw[a1l];omega) (by simp))).symm
def a6h(L:List Cl):Prop:=C5 L ⟨#[]⟩=none
theorem b4t(hD:t9 L)(hN:a6h L)(hU:UpL L)(c o:ByteArray):a1z L (a1q L c o) o=O7 L c o:=by
 unfold a1q;cases hm:O7 L c o with
 |none=>
  unfold a1z;rw[hN];rfl
 |some p=>
  obtain⟨k,i⟩:=p;unfold O7 at hm;obtain⟨k',hk',hf⟩:=List.exists_of_findSome?_eq_some hm;cases hmi:N8 (cl L k') o with
  |none=>rw[hmi]at hf;cases hf
  |some i'=>
   rw[hmi]at hf;simp only[Option.map_some,Option.some.injEq,Prod.mk.injEq]at hf;obtain⟨rfl,rfl⟩:=hf;have hkl:=a1W _ _ _ hk';show a1z L (cl L k').name o=some (k',i');unfold a1z;rw[a5q hD hkl];simp[hmi]
set_option maxRecDepth 100000 in
set_option maxHeartbeats 2000000 in
theorem a8I(w:World)(lim b:Nat)(L:List Cl)(p:Addr)(cap m1 m2 m3:Nat)(q:Nat→Qs)(h:Hid (I9 w lim b L p cap m1 m2 m3 q))(hl:lim≤w.heap.size)(hU:Hid (UpL L))(hD:Hid (t9 L))(hN:Hid (a6h L))(hZ:Hid (l5 G2 L))(hP:Hid (O9 w lim L q))(c o:ByteArray)(hc:c.size≤maxLen)(ho:o.size≤maxLen):
 Calls Tryz.prog 62 #[.pointer (some ⟨b,0,none⟩), .string c, .string o] w fun e w'=>w.grownBy w' none∧a2c w lim L (O7 L c o) e:=by
 have HK1:∀ob,Hid (I9 (w.alloc ob) lim b L p cap m1 m2 m3 q):=fun ob=>h.out.keep (A2 w ob none) hl
 have ho':(a1q L c o).size≤maxLen:=by
  unfold a1q;cases hm:O7 L c o with
  |none=>exact Nat.zero_le _
  |some k=>
   unfold O7 at hm;obtain⟨k',hk',hf⟩:=List.exists_of_findSome?_eq_some hm;have hkl:=a1W _ _ _ hk';cases hmi:N8 (cl L k') o with
   |none=>rw[hmi]at hf;cases hf
   |some i'=>
    rw[hmi]at hf;simp only[Option.map_some,Option.some.injEq]at hf;subst hf;exact(h.out.names k' hkl).1
 have hme:=b4t hD.out hN.out hU.out c o;obtain⟨on,hon⟩:∃on,on=a1q L c o:=⟨_,rfl⟩
 rw[←hon]at ho' hme;obtain⟨mo,hmo⟩:∃mo,mo=O7 L c o:=⟨_,rfl⟩
 rw[←hmo]at hme⊢;have HON:=A0 hon;have HME:=A0 hme;have HO':=A0 ho';clear hon hme hmo ho';cases mo with
 |none=>
  go_enter Tryz.func62,Tryz.ntmps62
  go_wp2_with (first
   |(go_at_call 103
     go_loud (refine(a9z _ lim b L p cap m1 m2 m3 q (HK1 _) (by simp;omega) hU hD hZ c o hc ho).mono ?_;rintro e w1 ⟨rfl,hg1⟩;rw[←HON.out])
     have hg:=A1 (A2 _ _ none) hg1;have hB1:=(A3.new w mZ 102).keep hg1 (by simp);have HK2:=A0 (h.out.keep hg hl);have hl2:=Nat.le_trans hl hg.size;dsimp only)
   |(go_at_call 69
     refine(a4p w1 lim b L p cap m1 m2 m3 q HK2 hl2 hD hZ (hP.out.keep hg) on o HO'.out ho).mono ?_;intro e w2 hq;have hg2:=hq.1;have hm2:=hq.2;rw[HME.out]at hm2;clear hq;unfold a2c at hm2;dsimp only at hm2;subst hm2;have hB2:=hB1.keep hg2 (by simp);have d0:=hB2.cell 0 _ rfl;have fr0:=hB2.frozen 0;have d1:=hB2.cell 1 _ rfl;have fr1:=hB2.frozen 1;have d2:=hB2.cell 2 _ rfl;have fr2:=hB2.frozen 2;have d3:=hB2.cell 3 _ rfl;have fr3:=hB2.frozen 3;have d4:=hB2.cell 4 _ rfl;have fr4:=hB2.frozen 4;have d5:=hB2.cell 5 _ rfl;have fr5:=hB2.frozen 5;have d6:=hB2.cell 6 _ rfl;have fr6:=hB2.frozen 6;have d7:=hB2.cell 7 _ rfl;have fr7:=hB2.frozen 7;dsimp only))
  refine bodyPost_ret (v:= .tuple #[.agg mZ, .bool false]) (by simp[results,Tryz.results62,go_sem,d0,d1,d2,d3,d4,d5,d6,d7]) rfl ?_;exact⟨C7 (A1 hg hg2) (@a0R w2 w.heap.size 0 1 2 3 4 5 6 7 _ _ _ _ _ _ _ _) (fun k e=>by cases e;exact .inl (Nat.le_refl _)),rfl⟩
 |some k=>
  go_enter Tryz.func62,Tryz.ntmps62
  go_wp2_with (first
   |(go_at_call 103
     go_loud (refine(a9z _ lim b L p cap m1 m2 m3 q (HK1 _) (by simp;omega) hU hD hZ c o hc ho).mono ?_;rintro e w1 ⟨rfl,hg1⟩;rw[←HON.out])
     have hg:=A1 (A2 _ _ none) hg1;have hB1:=(A3.new w mZ 102).keep hg1 (by simp);have HK2:=A0 (h.out.keep hg hl);have hl2:=Nat.le_trans hl hg.size;dsimp only)
   |(go_at_call 69
     refine(a4p w1 lim b L p cap m1 m2 m3 q HK2 hl2 hD hZ (hP.out.keep hg) on o HO'.out ho).mono ?_;intro e w2 hq;have hg2:=hq.1;have hm2:=hq.2;rw[HME.out]at hm2;clear hq;unfold a2c at hm2;dsimp only at hm2;obtain⟨pa,ca,ha,pk,ck,hk,he,r1,r2,r3⟩:=hm2;generalize hmd:g9 L k=md at he r1 r2 r3;unfold mv at he;subst he;have HMD:=A0 hmd;clear hmd;have hB2:=hB1.keep hg2 (by simp);have d0:=hB2.cell 0 _ rfl;have fr0:=hB2.frozen 0;have d1:=hB2.cell 1 _ rfl;have fr1:=hB2.frozen 1;have d2:=hB2.cell 2 _ rfl;have fr2:=hB2.frozen 2;have d3:=hB2.cell 3 _ rfl;have fr3:=hB2.frozen 3;have d4:=hB2.cell 4 _ rfl;have fr4:=hB2.frozen 4;have d5:=hB2.cell 5 _ rfl;have fr5:=hB2.frozen 5;have d6:=hB2.cell 6 _ rfl;have fr6:=hB2.frozen 6;have d7:=hB2.cell 7 _ rfl;have fr7:=hB2.frozen 7;dsimp only))
  refine bodyPost_ret (v:= .tuple #[.agg (mv md pa pk ca ck ha hk).toArray, .bool true]) (by simp[results,Tryz.results62,go_sem,d0,d1,d2,d3,d4,d5,d6,d7,mv]) rfl ?_;refine⟨C7 (A1 hg hg2) (@a0R w2 w.heap.size 0 1 2 3 4 5 6 7 _ _ _ _ _ _ _ _) (fun k e=>by cases e;exact .inl (Nat.le_refl _)),?_⟩;unfold a2c;dsimp only;rw[HMD.out];exact⟨pa,ca,ha,pk,ck,hk,rfl,a6H r1 hg hl,a6H r2 hg hl,a6H r3 hg hl⟩
end Kx
end Go.Proofs.YtdhophglnhcjbaaGreatDoor
