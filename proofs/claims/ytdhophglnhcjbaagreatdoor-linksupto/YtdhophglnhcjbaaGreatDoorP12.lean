/- P12: a part of the proof that the last text tells. -/
import Derived.Test.YtdhophglnhcjbaaGreatDoorP11
import Derived.Deep.RegionLaw
import Derived.Deep.RegionWith
set_option linter.all false
namespace Go.Proofs.YtdhophglnhcjbaaGreatDoor
open Go.RowKit Go.Shelf Cf
namespace Kx
theorem sz_drew(w:World):w.drew.heap.size=w.heap.size:=rfl
set_option maxRecDepth 100000 in
set_option maxHeartbeats 40000000 in
theorem b6H(w:World)(b:Nat)(L:List Cl)(pp:List Ty)(mn rn:ByteArray)(rk mst mlo:Nat)(mco:List In)(mha:List Hd)(pa ca ha:Option Addr)(pn pk cn ck hn hk:Nat)(a:Int)(cs ms:ByteArray)(lim:Nat)(p:Addr)(cap m1 m2 m3:Nat)(q:Nat→Qs)(h:Hid (Lk w lim b L p cap m1 m2 m3 q))(hl:lim≤w.heap.size)(hc:cs.size≤maxLen)(hm:ms.size≤maxLen):
 Calls Tryz.prog 272 #[.pointer (some ⟨b,0,none⟩), .agg #[.string mn, .slice pa pn pk, .int .i64 rk, .string rn, .int .i64 mst, .int .i64 mlo, .slice ca cn ck, .slice ha hn hk], .agg #[.int .i64 18, .int .i64 a, .string cs, .string ms]] w fun e w'=>w.grownBy w' none∧∃v,e= .returned v∧w'.ownsRow w.heap.size 98 2 v (F3 L ⟨mn,pp,⟨rk,rn⟩,mst,mlo,mco,mha⟩ ⟨18,a,cs,ms⟩).length ((F3 L ⟨mn,pp,⟨rk,rn⟩,mst,mlo,mco,mha⟩ ⟨18,a,cs,ms⟩).flatMap C1):=by
 have HTT:F3 L ⟨mn,pp,⟨rk,rn⟩,mst,mlo,mco,mha⟩ ⟨18,a,cs,ms⟩=[C9 cs,Y2 L ⟨18,a,cs,ms⟩]:=rfl;rw[HTT];clear HTT
 have HF:Hid (∀W,w.grownBy W none→Calls Tryz.prog 322 #[.pointer (some ⟨b,0,none⟩), .agg #[.int .i64 18, .int .i64 a, .string cs, .string ms]] W fun e w'=>e= .returned (.agg #[.int .i64 (Y2 L ⟨18,a,cs,ms⟩).kind, .string (Y2 L ⟨18,a,cs,ms⟩).name])∧W.grownBy w' none):=
  fun W hW=>a8v W lim b L p cap m1 m2 m3 q (h.out.keep hW hl) (Nat.le_trans hl hW.size) ⟨18,a,cs,ms⟩ hc hm
 obtain⟨ft,hft⟩:∃ft,ft=Y2 L ⟨18,a,cs,ms⟩:=⟨_,rfl⟩
 rw[←hft]at HF⊢;clear hft h hl hc hm;obtain⟨fk,fn⟩:=ft;dsimp only at HF;have HG0:Hid (w.grownBy ((w.alloc (.cells #[.string mn, .slice pa pn pk, .int .i64 rk, .string rn, .int .i64 mst, .int .i64 mlo, .slice ca cn ck, .slice ha hn hk] 102)).alloc (.cells #[.int .i64 18, .int .i64 a, .string cs, .string ms] 120)) none):=A1 (A2 _ _ _) (A2 _ _ _);go_enter Tryz.func272,Tryz.ntmps272;go_wp2_with (go_at_call 320;refine(a9 _ _).mono ?_)
 rintro e w1 ⟨rfl,hg1⟩;obtain⟨hc1,hf1⟩:=e8 hg1;have hz1:=hg1.size;simp only[World.size_alloc]at hz1;have hy0:w.heap.size<w1.heap.size:=by omega
 have hy1:w.heap.size+1<w1.heap.size:=by omega
 go_wp2_with (go_at_call 267;refine(U8 _ _).mono ?_)
 rintro e w2 ⟨rfl,hg2⟩;obtain⟨hc2,hf2⟩:=e8 hg2;have hz2:=hg2.size;have hx0:w.heap.size<w2.heap.size:=by omega
 have hx1:w.heap.size+1<w2.heap.size:=by omega
 have HW2:Hid (w.grownBy ((w2.alloc (.cells #[.int .i64 1, .string ⟨#[]⟩] 98)).alloc (.cells #[.int .i64 2, .string ⟨#[79,98,106,101,99,116]⟩] 98)) none):=A1 (A1 (A1 (A1 HG0.out hg1) hg2) (A2 _ _ _)) (A2 _ _ _);clear hg1 hg2;go_upto_region 26 with fail
 go_region_with (first|(go_at_call 321;refine(N3 _ _).mono ?_;rintro e w9 ⟨rfl,rfl⟩)|(go_at_call 267;refine(U8 _ _).mono ?_;rintro e w3 ⟨rfl,hg3⟩;obtain⟨hc3,hf3⟩:=e8 hg3;have hv3:w.heap.size+1<w3.heap.size:=by(have hz3:=hg3.size;(try simp[World.drew]at hz3);omega))|(go_at_call 322;refine(HF.out _ (by first|exact A1 HW2.out (B8 _ _)|exact A1 (A1 HW2.out (B8 _ _)) hg3)).mono ?_;rintro e w4 ⟨rfl,hg4⟩;obtain⟨hc4,hf4⟩:=e8 hg4;have hv4:w.heap.size+1<w4.heap.size:=by(have hz4:=hg4.size;(try simp[World.drew]at hz4);omega)))
 all_goals go_wp2_with fail
 all_goals first
  |exact bodyPost_ret (v:= .slice (some ⟨w4.heap.size,0,none⟩) 2 2) (by simp[results,Tryz.results272,go_sem]) rfl (S7 2 [.int .i64 2, .string cs, .int .i64 fk, .string fn] (A1 (A1 (A1 HW2.out (B8 _ _)) hg3) hg4) rfl rfl (by omega))
  |exact bodyPost_ret (v:= .slice (some ⟨w3.heap.size,0,none⟩) 2 2) (by simp[results,Tryz.results272,go_sem]) rfl (S7 2 [.int .i64 2, .string cs, .int .i64 fk, .string fn] (A1 (A1 (A1 HW2.out (B8 _ _)) hg4) hg3) rfl rfl (by omega))
theorem b9y(n rn:ByteArray)(rk st lo:Int)(pv cv hv:Value)(w:World):(Instr.field 102 (.agg #[.string n,pv, .int .i64 rk, .string rn, .int .i64 st, .int .i64 lo,cv,hv]) 1).run Tryz.prog w= .ok pv w:=by kernel_rfl
theorem b8Z(l:List Ty):∀u∈l.flatMap C1,u.oneCell'=true:=fun u hu=>by
 obtain⟨t,_,ht⟩:=List.mem_flatMap.1 hu;simp only[C1,List.mem_cons,List.not_mem_nil,or_false]at ht;rcases ht with rfl|rfl<;>rfl
theorem b9g(l:List Ty):(l.flatMap C1).length=l.length*2:=by
 induction l with
 |nil=>rfl
 |cons a l ih=>simp only[List.flatMap_cons,List.length_append,List.length_cons,ih,C1,List.length_nil];omega
theorem b8U{α:Type}{w:World}{lim sz:Nat}{enc:α→List Value}{a:Option Addr}{xs:List α}(hs:∀x,(enc x).length=sz)(h:C0 w lim sz enc a xs):∀j u,(xs.flatMap enc)[j]? =some u→∃ad,a=some ad∧w.cell? (ad.add j)=some u:=by
 intro j u hj
 have hlen:(xs.flatMap enc).length=xs.length*sz:=by
  clear h hj;induction xs with
  |nil=>simp
  |cons x l ih=>rw[List.flatMap_cons,List.length_append,hs,ih,List.length_cons,Nat.succ_mul];omega
 have hjl:=(List.getElem?_eq_some_iff.1 hj).1;rw[hlen]at hjl
 have hsz:0<sz:=by
  rcases Nat.eq_zero_or_pos sz with e|e
  ·subst e;simp at hjl
  ·exact e
 have hq:=Nat.div_lt_of_lt_mul (by rw[Nat.mul_comm];exact hjl);have hr:j % sz<sz:=Nat.mod_lt _ hsz;have he:=(Nat.div_add_mod' j sz).symm;obtain⟨p',e1,_,h3⟩:=h (j/sz) hq;refine⟨p',e1,?_⟩;have h5:=a0z enc sz hs xs (j/sz) hq (j % sz) hr;rw[←he]at h5;rw[h5]at hj;have h6:=h3 (j % sz) u hj;rw[←he]at h6;exact h6
set_option maxRecDepth 100000 in
set_option maxHeartbeats 40000000 in
theorem b6G(w:World)(b:Nat)(L:List Cl)(pp:List Ty)(mn rn:ByteArray)(rk mst mlo:Nat)(mco:List In)(mha:List Hd)(pa ca ha:Option Addr)(pn pk cn ck hn hk:Nat)(a:Int)(cs ms:ByteArray)(lim:Nat)(p:Addr)(cap m1 m2 m3:Nat)(q:Nat→Qs)(h:Hid (Lk w lim b L p cap m1 m2 m3 q))(hl:lim≤w.heap.size)(hc:cs.size≤maxLen)(hm:ms.size≤maxLen)(k:Nat×Nat)(hmk:O7 L cs ms=some k)(hps:(O0 L ⟨19,a,cs,ms⟩).params.length≤65536):
 Calls Tryz.prog 272 #[.pointer (some ⟨b,0,none⟩), .agg #[.string mn, .slice pa pn pk, .int .i64 rk, .string rn, .int .i64 mst, .int .i64 mlo, .slice ca cn ck, .slice ha hn hk], .agg #[.int .i64 19, .int .i64 a, .string cs, .string ms]] w fun e w'=>w.grownBy w' none∧∃v,e= .returned v∧w'.ownsRow w.heap.size 98 2 v (F3 L ⟨mn,pp,⟨rk,rn⟩,mst,mlo,mco,mha⟩ ⟨19,a,cs,ms⟩).length ((F3 L ⟨mn,pp,⟨rk,rn⟩,mst,mlo,mco,mha⟩ ⟨19,a,cs,ms⟩).flatMap C1):=by
 have HTT:F3 L ⟨mn,pp,⟨rk,rn⟩,mst,mlo,mco,mha⟩ ⟨19,a,cs,ms⟩=C9 cs::(O0 L ⟨19,a,cs,ms⟩).params:=rfl;rw[HTT];clear HTT
 have HF:Hid (∀W,w.grownBy W none→Calls Tryz.prog 323 #[.pointer (some ⟨b,0,none⟩), .agg #[.int .i64 19, .int .i64 a, .string cs, .string ms]] W fun e w'=>W.grownBy w' none∧∃xa ya za xk yk zk,e= .returned (.agg (mv (O0 L ⟨19,a,cs,ms⟩) xa xk ya yk za zk).toArray)∧a1D w' lim (O0 L ⟨19,a,cs,ms⟩) xa ya za):=
  fun W hW=>a9p W lim b L p cap m1 m2 m3 q (h.out.keep hW hl) (Nat.le_trans hl hW.size) ⟨19,a,cs,ms⟩ hc hm k hmk
 obtain⟨me,hme⟩:∃me,me=O0 L ⟨19,a,cs,ms⟩:=⟨_,rfl⟩
 rw[←hme]at HF hps⊢;have HPS:=A0 hps;have HPL:Hid ((me.params.flatMap C1).length=me.params.length*2):=b9g _;clear hme h hl hc hm hmk hps;obtain⟨inf,ii0,iz0,iz1,iz2⟩:=info_parts a4K;have HG0:Hid (w.grownBy ((w.alloc (.cells #[.string mn, .slice pa pn pk, .int .i64 rk, .string rn, .int .i64 mst, .int .i64 mlo, .slice ca cn ck, .slice ha hn hk] 102)).alloc (.cells #[.int .i64 19, .int .i64 a, .string cs, .string ms] 120)) none):=A1 (A2 _ _ _) (A2 _ _ _);go_enter Tryz.func272,Tryz.ntmps272;go_wp2_with (go_at_call 320;refine(a9 _ _).mono ?_)
 rintro e w1 ⟨rfl,hg1⟩;obtain⟨hc1,hf1⟩:=e8 hg1;have hz1:=hg1.size;simp only[World.size_alloc]at hz1;have hy0:w.heap.size<w1.heap.size:=by omega
 have hy1:w.heap.size+1<w1.heap.size:=by omega
 go_wp2_with (go_at_call 267;refine(U8 _ _).mono ?_)
 rintro e w2 ⟨rfl,hg2⟩;obtain⟨hc2,hf2⟩:=e8 hg2;have hz2:=hg2.size;have hx0:w.heap.size<w2.heap.size:=by omega
 have hx1:w.heap.size+1<w2.heap.size:=by omega
 have HW2:Hid (w.grownBy ((w2.alloc (.cells #[.int .i64 1, .string ⟨#[]⟩] 98)).alloc (.cells #[.int .i64 2, .string ⟨#[79,98,106,101,99,116]⟩] 98)) none):=A1 (A1 (A1 (A1 HG0.out hg1) hg2) (A2 _ _ _)) (A2 _ _ _);clear hg1 hg2;have hsW:w.heap.size≤w2.heap.size:=by omega
 have HX:Hid (w.heap.size+1<((w2.alloc (.cells #[.int .i64 1, .string ⟨#[]⟩] 98)).alloc (.cells #[.int .i64 2, .string ⟨#[79,98,106,101,99,116]⟩] 98)).heap.size):=by(unfold Hid;simp only[World.size_alloc];omega)
 go_upto_region 28 with fail
 go_region_law (first
  |(go_simp;go_at_call 321;refine(N3 _ _).mono ?_;rintro e w9 ⟨rfl,rfl⟩;dsimp only)
  |(go_simp;go_at_call 267;refine(U8 _ _).mono ?_;rintro e w3 ⟨rfl,hg3⟩;obtain⟨hc3,hf3⟩:=e8 hg3;have hv3:=Nat.lt_of_lt_of_le HX.out hg3.size;dsimp only)
  |(go_simp;go_at_call 323;refine(HF.out _ (by first|exact A1 HW2.out (B8 _ _)|exact A1 (A1 HW2.out (B8 _ _)) hg3|exact A1 (A1 (A1 HW2.out (B8 _ _)) hg3) (A2 _ _ _))).mono ?_;rintro e w4 ⟨hg4,xa,ya,za,xk,yk,zk,rfl,hrd⟩;obtain⟨hc4,hf4⟩:=e8 hg4;have hz4:=Nat.le_trans (Nat.le_of_eq (World.size_alloc w3 _).symm) hg4.size;have hv4:=Nat.lt_of_lt_of_le hv3 (Nat.le_of_succ_le hz4);have hfd:=fun W=>b9y me.name me.ret.name (me.ret.kind:Int) (me.stack:Int) (me.locals:Int) (.slice xa me.params.length xk) (.slice ya me.code.length yk) (.slice za me.handlers.length zk) W;dsimp only[mv])
  |(refine b2g rfl _ _ 96 rfl w.heap.size 98 inf _ 2 24 Tryz.underlying96 ii0 iz0 iz1 iz2 rfl (by decide) (some ⟨w3.heap.size,0,none⟩) 1 1 [.int .i64 2, .string cs] rfl (World.ownsRow.kept (a0f w3 98 2 1 w.heap.size [.int .i64 2, .string cs] rfl (Nat.le_of_lt (Nat.lt_of_succ_lt hv3)) (by unfold maxLen;omega)) hg4 (.inr (by simp[Value.ownBlock]))) xa me.params.length xk (me.params.flatMap C1) rfl HPL.out (b8U (fun _=>rfl) hrd.params) (b8Z _) (by have:=HPS.out;unfold maxLen;omega) (by have:=HPS.out;omega) (Nat.le_of_lt (Nat.lt_of_succ_lt hv4)) ?_;intro ga gk w7 hown7 hg7;have hgE:=C7 (A1 (A1 (A1 (A1 HW2.out (B8 _ _)) hg3) (A2 _ _ _)) hg4) hg7 (fun k e=> .inl (by simp only[Value.ownBlock,Option.some.injEq]at e;omega))))
 all_goals
  go_wp2_with fail
  exact bodyPost_ret (v:= .slice ga (1+me.params.length) gk) (by simp[results,Tryz.results272,go_sem]) rfl ⟨hgE,_,rfl,by
   have h9:=hown7;simp only[List.length_cons,List.flatMap_cons,C1,C9];rw[Nat.add_comm 1 me.params.length]at h9⊢;exact h9⟩
structure a3l(L:List Cl)(i:In):Prop where
 cls:i.cls.size≤maxLen
 mem:i.mem.size≤maxLen
 call:i.op=19→∃k,O7 L i.cls i.mem=some k
 few:(O0 L i).params.length≤65536
theorem b5j(w:World)(lim b:Nat)(L:List Cl)(p:Addr)(cap m1 m2 m3:Nat)(q:Nat→Qs)(h:Hid (Lk w lim b L p cap m1 m2 m3 q))(hl:lim≤w.heap.size)(m:Me)(pa ca ha:Option Addr)(pk ck hk:Nat)(i:In)(hi:a3l L i):
 Calls Tryz.prog 272 #[.pointer (some ⟨b,0,none⟩), .agg (mV m pa pk ca ck ha hk), .agg #[.int .i64 i.op, .int .i64 i.a, .string i.cls, .string i.mem]] w fun e w'=>w.grownBy w' none∧∃v,e= .returned v∧w'.ownsRow w.heap.size 98 2 v (F3 L m i).length ((F3 L m i).flatMap C1):=by
 obtain⟨op,a,cs,ms⟩:=i;obtain⟨mn,mp,⟨rk,rn⟩,mst,mlo,mco,mha⟩:=m;by_cases h18:op=18
 ·subst h18;exact b6H w b L mp mn rn rk mst mlo mco mha pa ca ha _ pk _ ck _ hk a cs ms lim p cap m1 m2 m3 q h hl hi.cls hi.mem
 ·by_cases h19:op=19
  ·subst h19;obtain⟨k,hmk⟩:=hi.call rfl;exact b6G w b L mp mn rn rk mst mlo mco mha pa ca ha _ pk _ ck _ hk a cs ms lim p cap m1 m2 m3 q h hl hi.cls hi.mem k hmk hi.few
  ·exact b3k w b L mp mn rn rk mst mlo mco mha pa ca ha _ pk _ ck _ hk op a cs ms ⟨h18,h19⟩
end Kx
variable {P:Program}
variable {ops:Array Oper}
variable {Q:Exit→Act→World→Prop}
variable {S:World→Prop}
variable {oi:Oper}
variable {v:Value}
variable {fuel:Nat}
variable {listed:Array Bool}
variable {a:Act}
variable {w:World}
theorem tkR{md:Region.Mode}(i:Nat)(h7:S w)
 (h1:ops[i]? =some oi:=by rfl) (h2:Region.noSelect ops=true:=by kernel_rfl) (h3:Region.free md ops listed i=true:=by kernel_rfl) (h4:(Region.ready md ops listed).contains i=true:=by kernel_rfl)
 (h5:∀(c:List PanicEntry) (a:Act) (w:World),Q (Exit.panic c) (a.put oi.dst v) w→Q (Exit.panic c) a w:=by exact fun _ _ _ h=>h)
 (hv:YieldsIf P ops S oi v a:=by exact Or.inl ⟨by rfl,by(intro w hSw;(try dsimp only at hSw);go_simp;try with_reducible rfl)⟩)
 (k:wpAnyH P md ops Q S fuel (listed.setIfInBounds i true) (a.put oi.dst v) w):wpAnyH P md ops Q S (fuel+1) listed a w:=
 wpAnyH_take h1 h2 h3 h4 h5 hv h7 k
theorem A4{md:Region.Mode}(i:Nat){G:Prop}(g:G)(h7:S w:=by assumption)
 (h1:ops[i]? =some oi:=by rfl) (h2:Region.noSelect ops=true:=by kernel_rfl) (h3:Region.free md ops listed i=true:=by kernel_rfl) (h4:(Region.ready md ops listed).contains i=true:=by kernel_rfl)
 (h5:∀(c:List PanicEntry) (a:Act) (w:World),Q (Exit.panic c) (a.put oi.dst v) w→Q (Exit.panic c) a w:=by exact fun _ _ _ h=>h)
 (hv:YieldsIf P ops S oi v a:=by exact Or.inl ⟨by rfl,by(intro w hSw;(try dsimp only at hSw);go_simp;try with_reducible rfl)⟩)
 (k:G→wpAnyH P md ops Q S fuel (listed.setIfInBounds i true) (a.put oi.dst v) w:=by(intro k;(try simp only[Act.put,lz]);exact k)):wpAnyH P md ops Q S (fuel+1) listed a w:=
 wpAnyH_take h1 h2 h3 h4 h5 hv h7 (k g)
namespace Kx
theorem a3F{w:World}{g b o:Nat}{v0 v1 v2 v:Value}(h:w.cell? ⟨b,o,none⟩=some v)(hne:b≠g):(((w.setCell ⟨g,0,none⟩ v0).setCell ⟨g,1,none⟩ v1).setCell ⟨g,2,none⟩ v2).cell? ⟨b,o,none⟩=some v:=
 (A6 _ ⟨g,2,none⟩ v2).cell ((A6 _ ⟨g,1,none⟩ v1).cell ((A6 w ⟨g,0,none⟩ v0).cell h (fun e=>hne (Option.some.inj e))) (fun e=>hne (Option.some.inj e))) (fun e=>hne (Option.some.inj e))
def V7(i:In):Bool:=i.op==20||i.op==30
def a6m(w':World)(base:Nat)(L:List Cl)(m:Me)(i:In)(v:Value):Prop:=∃ta tk ua uk,v= .agg #[.slice ta (F3 L m i).length tk, .slice ua (C4 L i).length uk, .bool (V7 i)]∧w'.ownsRow base 98 2 (.slice ta (F3 L m i).length tk) (F3 L m i).length ((F3 L m i).flatMap C1)∧w'.ownsRow base 98 2 (.slice ua (C4 L i).length uk) (C4 L i).length ((C4 L i).flatMap C1)
set_option maxRecDepth 100000 in
set_option maxHeartbeats 40000000 in
theorem a8D(w:World)(lim b:Nat)(L:List Cl)(p:Addr)(cap m1 m2 m3:Nat)(q:Nat→Qs)(h:Hid (Lk w lim b L p cap m1 m2 m3 q))(hl:lim≤w.heap.size)(m:Me)(pa ca ha:Option Addr)(pk ck hk:Nat)(i:In)(hi:a3l L i):
 Calls Tryz.prog 197 #[.pointer (some ⟨b,0,none⟩), .agg (mV m pa pk ca ck ha hk), .agg #[.int .i64 i.op, .int .i64 i.a, .string i.cls, .string i.mem]] w fun e w'=>w.grownBy w' none∧∃v,e= .returned v∧a6m w' w.heap.size L m i v:=by
 have HT:Hid (∀W,w.grownBy W none→Calls Tryz.prog 272 #[.pointer (some ⟨b,0,none⟩), .agg (mV m pa pk ca ck ha hk), .agg #[.int .i64 i.op, .int .i64 i.a, .string i.cls, .string i.mem]] W fun e w'=>W.grownBy w' none∧∃v,e= .returned v∧w'.ownsRow W.heap.size 98 2 v (F3 L m i).length ((F3 L m i).flatMap C1)):=
  fun W hW=>b5j W lim b L p cap m1 m2 m3 q (h.out.keep hW hl) (Nat.le_trans hl hW.size) m pa ca ha pk ck hk i hi
 have HP:Hid (∀W,w.grownBy W none→Calls Tryz.prog 273 #[.pointer (some ⟨b,0,none⟩), .agg #[.int .i64 i.op, .int .i64 i.a, .string i.cls, .string i.mem]] W fun e w'=>W.grownBy w' none∧∃v,e= .returned v∧w'.ownsRow W.heap.size 98 2 v (C4 L i).length ((C4 L i).flatMap C1)):=
  fun W hW=>b6R W lim b L p cap m1 m2 m3 q (h.out.keep hW hl) (Nat.le_trans hl hW.size) i hi.cls hi.mem hi.call
 unfold a6m
 have HE:Hid (V7 i=(decide ((i.op:Int)=20)||decide ((i.op:Int)=30))):=by
  unfold Hid V7;rw[Bool.eq_iff_iff];simp;omega
 obtain⟨eb,heb⟩:∃eb,eb=V7 i:=⟨_,rfl⟩
 rw[←heb]at HE⊢;clear heb;obtain⟨TT,hTT⟩:∃TT,TT=F3 L m i:=⟨_,rfl⟩
 obtain⟨PP,hPP⟩:∃PP,PP=C4 L i:=⟨_,rfl⟩
 rw[←hTT]at HT⊢;rw[←hPP]at HP⊢;clear hTT hPP h hl hi;have HG0:Hid (w.grownBy (((w.alloc (.cells (mV m pa pk ca ck ha hk) 102)).alloc (.cells #[.int .i64 i.op, .int .i64 i.a, .string i.cls, .string i.mem] 120)).alloc (.cells #[.slice none 0 0, .slice none 0 0, .bool false] 315)) none):=A1 (A1 (A2 _ _ _) (A2 _ _ _)) (A2 _ _ _);have HX:Hid (w.heap.size+2<(((w.alloc (.cells (mV m pa pk ca ck ha hk) 102)).alloc (.cells #[.int .i64 i.op, .int .i64 i.a, .string i.cls, .string i.mem] 120)).alloc (.cells #[.slice none 0 0, .slice none 0 0, .bool false] 315)).drew.heap.size):=by(unfold Hid;simp[sz_drew])
 have HB:Hid (A3 (((w.alloc (.cells (mV m pa pk ca ck ha hk) 102)).alloc (.cells #[.int .i64 i.op, .int .i64 i.a, .string i.cls, .string i.mem] 120)).alloc (.cells #[.slice none 0 0, .slice none 0 0, .bool false] 315)).drew (w.heap.size+2) #[.slice none 0 0, .slice none 0 0, .bool false] 315):=by
  have:=A3.new ((w.alloc (.cells (mV m pa pk ca ck ha hk) 102)).alloc (.cells #[.int .i64 i.op, .int .i64 i.a, .string i.cls, .string i.mem] 120)) #[.slice none 0 0, .slice none 0 0, .bool false] 315;simp only[World.size_alloc]at this;exact this
 have HM:Hid (A3 (((w.alloc (.cells (mV m pa pk ca ck ha hk) 102)).alloc (.cells #[.int .i64 i.op, .int .i64 i.a, .string i.cls, .string i.mem] 120)).alloc (.cells #[.slice none 0 0, .slice none 0 0, .bool false] 315)).drew w.heap.size (mV m pa pk ca ck ha hk) 102):=(((A3.new w (mV m pa pk ca ck ha hk) 102).keep (A2 _ _ none) A7).keep (A2 _ _ none) A7).keep (B8 _ none) A7
 have HI:Hid (A3 (((w.alloc (.cells (mV m pa pk ca ck ha hk) 102)).alloc (.cells #[.int .i64 i.op, .int .i64 i.a, .string i.cls, .string i.mem] 120)).alloc (.cells #[.slice none 0 0, .slice none 0 0, .bool false] 315)).drew (w.heap.size+1) #[.int .i64 i.op, .int .i64 i.a, .string i.cls, .string i.mem] 120):=by
  have:=(A3.new (w.alloc (.cells (mV m pa pk ca ck ha hk) 102)) #[.int .i64 i.op, .int .i64 i.a, .string i.cls, .string i.mem] 120).keep (A2 _ (.cells #[.slice none 0 0, .slice none 0 0, .bool false] 315) none) A7;rw[World.size_alloc]at this;exact this
 have hne12:w.heap.size+1≠w.heap.size+1+1:=by omega
 have hne02:¬w.heap.size=w.heap.size+1+1:=by omega
 by_cases h20:(i.op:Int)=20
 ·obtain⟨op,a,cs,ms⟩:=i;obtain rfl:op=20:=by dsimp only at h20;omega
  clear h20;obtain rfl:eb=true:=HE.out;simp only[Int.cast_ofNat_Int]at HT HP HG0 HX HB HM HI⊢;have Qm0:=HM.out.cell 0 _ rfl;have Qm1:=HM.out.cell 1 _ rfl;have Qm2:=HM.out.cell 2 _ rfl;have Qm3:=HM.out.cell 3 _ rfl;have Qm4:=HM.out.cell 4 _ rfl;have Qm5:=HM.out.cell 5 _ rfl;have Qm6:=HM.out.cell 6 _ rfl;have Qm7:=HM.out.cell 7 _ rfl;have Qi0:=HI.out.cell 0 _ rfl;have Qi1:=HI.out.cell 1 _ rfl;have Qi2:=HI.out.cell 2 _ rfl;have Qi3:=HI.out.cell 3 _ rfl;go_enter Tryz.func197,Tryz.ntmps197;go_upto_region 1 with fail
  refine wp_region_held_drew (S:=(fun w'=>w'.cell? ⟨w.heap.size,0,none⟩=some (.string m.name)∧w'.cell? ⟨w.heap.size,1,none⟩=some (.slice pa m.params.length pk)∧w'.cell? ⟨w.heap.size,2,none⟩=some (.int .i64 m.ret.kind)∧w'.cell? ⟨w.heap.size,3,none⟩=some (.string m.ret.name)∧w'.cell? ⟨w.heap.size,4,none⟩=some (.int .i64 m.stack)∧w'.cell? ⟨w.heap.size,5,none⟩=some (.int .i64 m.locals)∧w'.cell? ⟨w.heap.size,6,none⟩=some (.slice ca m.code.length ck)∧w'.cell? ⟨w.heap.size,7,none⟩=some (.slice ha m.handlers.length hk)∧w'.cell? ⟨w.heap.size+1,0,none⟩=some (.int .i64 20)∧w'.cell? ⟨w.heap.size+1,1,none⟩=some (.int .i64 a)∧w'.cell? ⟨w.heap.size+1,2,none⟩=some (.string cs)∧w'.cell? ⟨w.heap.size+1,3,none⟩=some (.string ms))) (by kernel_rfl) ?hS0 (fun hHeld=> ?rest0)
  case hS0=>(try dsimp only);(first|(go_keep;done)|((repeat' apply And.intro)<;>first|(go_keep;done)|(refine a3F ?_ hne02;assumption)))
  refine tkR 7 (by assumption) (k:= ?_);try simp only[Act.put,List.setIfInBounds_toArray,List.set_cons_zero,List.set_cons_succ]
  refine tkR 8 (by assumption) (k:= ?_);try simp only[Act.put,List.setIfInBounds_toArray,List.set_cons_zero,List.set_cons_succ]
  refine tkR 9 (by assumption) (k:= ?_);try simp only[Act.put,List.setIfInBounds_toArray,List.set_cons_zero,List.set_cons_succ]
  refine tkR 0 (by assumption) (k:= ?_);try simp only[Act.put,List.setIfInBounds_toArray,List.set_cons_zero,List.set_cons_succ]
  refine tkR 1 (by assumption) (k:= ?_);try simp only[Act.put,List.setIfInBounds_toArray,List.set_cons_zero,List.set_cons_succ]
  refine tkR 2 (by assumption) (k:= ?_);try simp only[Act.put,List.setIfInBounds_toArray,List.set_cons_zero,List.set_cons_succ]
  refine tkR 4 (by assumption) (k:= ?_);try simp only[Act.put,List.setIfInBounds_toArray,List.set_cons_zero,List.set_cons_succ]
  refine tkR 5 (by assumption) (k:= ?_);try simp only[Act.put,List.setIfInBounds_toArray,List.set_cons_zero,List.set_cons_succ]
  refine wpAnyH_ready (rs:=[3]) (by kernel_rfl) (by simp) ?_;refine AllReadyH.cons rfl (fun K hK=> ?_) AllReadyH.nil;go_simp
  go_wp2_with (go_at_call 272;refine(HT.out _ (A1 HG0.out (B8 _ _))).mono ?_;rintro e w3 ⟨hg3,v3,rfl,ho3⟩;obtain⟨a3,k3,rfl⟩:=F1 ho3;have sm0:=hg3.cell Qm0 A7;have sm1:=hg3.cell Qm1 A7;have sm2:=hg3.cell Qm2 A7;have sm3:=hg3.cell Qm3 A7;have sm4:=hg3.cell Qm4 A7;have sm5:=hg3.cell Qm5 A7;have sm6:=hg3.cell Qm6 A7;have sm7:=hg3.cell Qm7 A7;have si0:=hg3.cell Qi0 A7;have si1:=hg3.cell Qi1 A7;have si2:=hg3.cell Qi2 A7;have si3:=hg3.cell Qi3 A7;have hv3:=Nat.lt_of_lt_of_le HX.out hg3.size;have hv31:=Nat.lt_of_succ_lt hv3;have hv30:=Nat.lt_of_succ_lt hv31)
  refine hK.out _ _ ?_ (fun hHeld=> ?_)
  case refine_1=>((try dsimp only);(first|(go_keep;done)|((repeat' apply And.intro)<;>first|(go_keep;done)|(refine a3F ?_ hne02;assumption))))
  try clear hK K
  try simp only[Act.put,List.setIfInBounds_toArray,List.set_cons_zero,List.set_cons_succ]
  refine wpAnyH_ready (rs:=[6]) (by kernel_rfl) (by simp) ?_;refine AllReadyH.cons rfl (fun K hK=> ?_) AllReadyH.nil;go_simp
  go_wp2_with (go_at_call 273;refine(HP.out _ (A1 (A1 HG0.out (B8 _ _)) hg3)).mono ?_;rintro e w4 ⟨hg4,v4,rfl,ho4⟩;obtain⟨a4,k4,rfl⟩:=F1 ho4;have rm0:=hg4.cell sm0 A7;have rm1:=hg4.cell sm1 A7;have rm2:=hg4.cell sm2 A7;have rm3:=hg4.cell sm3 A7;have rm4:=hg4.cell sm4 A7;have rm5:=hg4.cell sm5 A7;have rm6:=hg4.cell sm6 A7;have rm7:=hg4.cell sm7 A7;have ri0:=hg4.cell si0 A7;have ri1:=hg4.cell si1 A7;have ri2:=hg4.cell si2 A7;have ri3:=hg4.cell si3 A7;have HB4:=(HB.out.keep hg3 A7).keep hg4 A7;have g0:=HB4.cell 0 _ rfl;have g1:=HB4.cell 1 _ rfl;have g2:=HB4.cell 2 _ rfl;have f0:=HB4.frozen 0;have f1:=HB4.frozen 1;have f2:=HB4.frozen 2;have hv4:=Nat.lt_of_lt_of_le hv3 hg4.size;have hv41:=Nat.lt_of_succ_lt hv4;have hv40:=Nat.lt_of_succ_lt hv41)
  refine hK.out _ _ ?_ (fun hHeld=> ?_)
  case refine_1=>((try dsimp only);(first|(go_keep;done)|((repeat' apply And.intro)<;>first|(go_keep;done)|(refine a3F ?_ hne02;assumption))))
  try clear hK K
  try simp only[Act.put,List.setIfInBounds_toArray,List.set_cons_zero,List.set_cons_succ]
  refine tkR 10 (by assumption) (k:= ?_);try simp only[Act.put,List.setIfInBounds_toArray,List.set_cons_zero,List.set_cons_succ]
  refine wpAnyH_take (i:=11) (v:=undef) rfl (by kernel_rfl) (by kernel_rfl) (by kernel_rfl) (fun _ _ _ h=>h) (Or.inr ⟨by rfl,rfl⟩) (by assumption) ?r11;try simp only[Act.put,List.setIfInBounds_toArray,List.set_cons_zero,List.set_cons_succ]
  refine wpAnyH_take (i:=12) (v:=undef) rfl (by kernel_rfl) (by kernel_rfl) (by kernel_rfl) (fun _ _ _ h=>h) (Or.inr ⟨by rfl,rfl⟩) (by assumption) ?r12;try simp only[Act.put,List.setIfInBounds_toArray,List.set_cons_zero,List.set_cons_succ]
  refine wpAnyH_take (i:=13) (v:=undef) rfl (by kernel_rfl) (by kernel_rfl) (by kernel_rfl) (fun _ _ _ h=>h) (Or.inr ⟨by rfl,rfl⟩) (by assumption) ?r13;try simp only[Act.put,List.setIfInBounds_toArray,List.set_cons_zero,List.set_cons_succ]
  refine tkR 14 (by assumption) (k:= ?_);try simp only[Act.put,List.setIfInBounds_toArray,List.set_cons_zero,List.set_cons_succ]
  refine tkR 15 (by assumption) (k:= ?_);try simp only[Act.put,List.setIfInBounds_toArray,List.set_cons_zero,List.set_cons_succ]
  refine wpAnyH_ready (rs:=[16]) (by kernel_rfl) (by simp) ?_;refine AllReadyH.cons rfl (fun K hK=> ?_) AllReadyH.nil;go_simp
  refine hK.out _ _ ?_ (fun hHeld=> ?_)
  case refine_1=>((try dsimp only);(first|(go_keep;done)|((repeat' apply And.intro)<;>first|(go_keep;done)|(refine a3F ?_ hne02;assumption))))
  try clear hK K
  try simp only[Act.put,List.setIfInBounds_toArray,List.set_cons_zero,List.set_cons_succ]
  refine wpAnyH_done (by kernel_rfl) ?_ _
  all_goals go_wp2_with fail
  all_goals
   have hb7:A3 _ (w.heap.size+1+1) #[.slice a3 TT.length k3, .slice a4 PP.length k4, .bool true] 315:=((HB4.set 0 (.slice a3 TT.length k3)).set 1 (.slice a4 PP.length k4)).set 2 (.bool true);have hg6:w4.grownBy (((w4.setCell ⟨w.heap.size+1+1,0,none⟩ (.slice a3 TT.length k3)).setCell ⟨w.heap.size+1+1,1,none⟩ (.slice a4 PP.length k4)).setCell ⟨w.heap.size+1+1,2,none⟩ (.bool true)) (some (w.heap.size+1+1)):=A1 (A1 (A6 _ ⟨w.heap.size+1+1,0,none⟩ _) (A6 _ ⟨w.heap.size+1+1,1,none⟩ _)) (A6 _ ⟨w.heap.size+1+1,2,none⟩ _);have hg7:=C7 (A1 (A1 (A1 HG0.out (B8 _ _)) hg3) hg4) hg6 (fun k e=> .inl (by cases e;omega));have hn3:=ho3.kept hg4 (by cases hv:(Value.slice a3 TT.length k3).ownBlock<;>simp);have hn3':=(ho3.kept hg4 (by cases hv:(Value.slice a3 TT.length k3).ownBlock<;>simp)).kept hg6 (.inr (E9 ho3 (Nat.lt_of_succ_le HX.out)));have hn4':=ho4.kept hg6 (.inr (E9 ho4 (by omega)));generalize (((w4.setCell ⟨w.heap.size+1+1,0,none⟩ (.slice a3 TT.length k3)).setCell ⟨w.heap.size+1+1,1,none⟩ (.slice a4 PP.length k4)).setCell ⟨w.heap.size+1+1,2,none⟩ (.bool true))=W7 at hb7 hg7 hn3' hn4'⊢;have z0:=hb7.cell 0 _ rfl;have z1:=hb7.cell 1 _ rfl;have z2:=hb7.cell 2 _ rfl;exact bodyPost_ret (v:= .agg #[.slice a3 TT.length k3, .slice a4 PP.length k4, .bool true]) (by simp[results,Tryz.results197,go_sem,z0,z1,z2]) rfl ⟨hg7,_,rfl,_,_,_,_,rfl,S0 hn3' HG0.out.size,S0 hn4' (by have:=HG0.out.size;have:=hg3.size;exact Nat.le_trans HG0.out.size hg3.size)⟩
 ·by_cases h30:(i.op:Int)=30
  ·obtain⟨op,a,cs,ms⟩:=i;obtain rfl:op=30:=by dsimp only at h30;omega
   clear h30 h20;have h320:¬(30:Int)=20:=by omega
   obtain rfl:eb=true:=HE.out;simp only[Int.cast_ofNat_Int]at HT HP HG0 HX HB HM HI⊢;have Qm0:=HM.out.cell 0 _ rfl;have Qm1:=HM.out.cell 1 _ rfl;have Qm2:=HM.out.cell 2 _ rfl;have Qm3:=HM.out.cell 3 _ rfl;have Qm4:=HM.out.cell 4 _ rfl;have Qm5:=HM.out.cell 5 _ rfl;have Qm6:=HM.out.cell 6 _ rfl;have Qm7:=HM.out.cell 7 _ rfl;have Qi0:=HI.out.cell 0 _ rfl;have Qi1:=HI.out.cell 1 _ rfl;have Qi2:=HI.out.cell 2 _ rfl;have Qi3:=HI.out.cell 3 _ rfl;go_enter Tryz.func197,Tryz.ntmps197;go_upto_region 1 with fail
   go_region_held2 (fun w'=>w'.cell? ⟨w.heap.size,0,none⟩=some (.string m.name)∧w'.cell? ⟨w.heap.size,1,none⟩=some (.slice pa m.params.length pk)∧w'.cell? ⟨w.heap.size,2,none⟩=some (.int .i64 m.ret.kind)∧w'.cell? ⟨w.heap.size,3,none⟩=some (.string m.ret.name)∧w'.cell? ⟨w.heap.size,4,none⟩=some (.int .i64 m.stack)∧w'.cell? ⟨w.heap.size,5,none⟩=some (.int .i64 m.locals)∧w'.cell? ⟨w.heap.size,6,none⟩=some (.slice ca m.code.length ck)∧w'.cell? ⟨w.heap.size,7,none⟩=some (.slice ha m.handlers.length hk)∧w'.cell? ⟨w.heap.size+1,0,none⟩=some (.int .i64 30)∧w'.cell? ⟨w.heap.size+1,1,none⟩=some (.int .i64 a)∧w'.cell? ⟨w.heap.size+1,2,none⟩=some (.string cs)∧w'.cell? ⟨w.heap.size+1,3,none⟩=some (.string ms)) (first|(go_keep;done)|((repeat' apply And.intro)<;>first|(go_keep;done)|(refine a3F ?_ hne02;assumption))) (first
    |(go_at_call 272;refine(HT.out _ (A1 HG0.out (B8 _ _))).mono ?_;rintro e w3 ⟨hg3,v3,rfl,ho3⟩;obtain⟨a3,k3,rfl⟩:=F1 ho3;have sm0:=hg3.cell Qm0 A7;have sm1:=hg3.cell Qm1 A7;have sm2:=hg3.cell Qm2 A7;have sm3:=hg3.cell Qm3 A7;have sm4:=hg3.cell Qm4 A7;have sm5:=hg3.cell Qm5 A7;have sm6:=hg3.cell Qm6 A7;have sm7:=hg3.cell Qm7 A7;have si0:=hg3.cell Qi0 A7;have si1:=hg3.cell Qi1 A7;have si2:=hg3.cell Qi2 A7;have si3:=hg3.cell Qi3 A7;have hv3:=Nat.lt_of_lt_of_le HX.out hg3.size;have hv31:=Nat.lt_of_succ_lt hv3;have hv30:=Nat.lt_of_succ_lt hv31)
    |(go_at_call 273;refine(HP.out _ (A1 (A1 HG0.out (B8 _ _)) hg3)).mono ?_;rintro e w4 ⟨hg4,v4,rfl,ho4⟩;obtain⟨a4,k4,rfl⟩:=F1 ho4;have rm0:=hg4.cell sm0 A7;have rm1:=hg4.cell sm1 A7;have rm2:=hg4.cell sm2 A7;have rm3:=hg4.cell sm3 A7;have rm4:=hg4.cell sm4 A7;have rm5:=hg4.cell sm5 A7;have rm6:=hg4.cell sm6 A7;have rm7:=hg4.cell sm7 A7;have ri0:=hg4.cell si0 A7;have ri1:=hg4.cell si1 A7;have ri2:=hg4.cell si2 A7;have ri3:=hg4.cell si3 A7;have HB4:=(HB.out.keep hg3 A7).keep hg4 A7;have g0:=HB4.cell 0 _ rfl;have g1:=HB4.cell 1 _ rfl;have g2:=HB4.cell 2 _ rfl;have f0:=HB4.frozen 0;have f1:=HB4.frozen 1;have f2:=HB4.frozen 2;have hv4:=Nat.lt_of_lt_of_le hv3 hg4.size;have hv41:=Nat.lt_of_succ_lt hv4;have hv40:=Nat.lt_of_succ_lt hv41))
   all_goals go_wp2_with fail
   all_goals
    have hb7:A3 _ (w.heap.size+1+1) #[.slice a3 TT.length k3, .slice a4 PP.length k4, .bool true] 315:=((HB4.set 0 (.slice a3 TT.length k3)).set 1 (.slice a4 PP.length k4)).set 2 (.bool true);have hg6:w4.grownBy (((w4.setCell ⟨w.heap.size+1+1,0,none⟩ (.slice a3 TT.length k3)).setCell ⟨w.heap.size+1+1,1,none⟩ (.slice a4 PP.length k4)).setCell ⟨w.heap.size+1+1,2,none⟩ (.bool true)) (some (w.heap.size+1+1)):=A1 (A1 (A6 _ ⟨w.heap.size+1+1,0,none⟩ _) (A6 _ ⟨w.heap.size+1+1,1,none⟩ _)) (A6 _ ⟨w.heap.size+1+1,2,none⟩ _);have hg7:=C7 (A1 (A1 (A1 HG0.out (B8 _ _)) hg3) hg4) hg6 (fun k e=> .inl (by cases e;omega));have hn3:=ho3.kept hg4 (by cases hv:(Value.slice a3 TT.length k3).ownBlock<;>simp);have hn3':=(ho3.kept hg4 (by cases hv:(Value.slice a3 TT.length k3).ownBlock<;>simp)).kept hg6 (.inr (E9 ho3 (Nat.lt_of_succ_le HX.out)));have hn4':=ho4.kept hg6 (.inr (E9 ho4 (by omega)));generalize (((w4.setCell ⟨w.heap.size+1+1,0,none⟩ (.slice a3 TT.length k3)).setCell ⟨w.heap.size+1+1,1,none⟩ (.slice a4 PP.length k4)).setCell ⟨w.heap.size+1+1,2,none⟩ (.bool true))=W7 at hb7 hg7 hn3' hn4'⊢;have z0:=hb7.cell 0 _ rfl;have z1:=hb7.cell 1 _ rfl;have z2:=hb7.cell 2 _ rfl;exact bodyPost_ret (v:= .agg #[.slice a3 TT.length k3, .slice a4 PP.length k4, .bool true]) (by simp[results,Tryz.results197,go_sem,z0,z1,z2]) rfl ⟨hg7,_,rfl,_,_,_,_,rfl,S0 hn3' HG0.out.size,S0 hn4' (by have:=HG0.out.size;have:=hg3.size;exact Nat.le_trans HG0.out.size hg3.size)⟩
  ·obtain rfl:eb=false:=by rw[HE.out];simp[h20,h30]
   have d20:((i.op:Int)==20)=false:=by simp[h20]
   have d30:((i.op:Int)==30)=false:=by simp[h30]
   have Qm0:=HM.out.cell 0 _ rfl;have Qm1:=HM.out.cell 1 _ rfl;have Qm2:=HM.out.cell 2 _ rfl;have Qm3:=HM.out.cell 3 _ rfl;have Qm4:=HM.out.cell 4 _ rfl;have Qm5:=HM.out.cell 5 _ rfl;have Qm6:=HM.out.cell 6 _ rfl;have Qm7:=HM.out.cell 7 _ rfl;have Qi0:=HI.out.cell 0 _ rfl;have Qi1:=HI.out.cell 1 _ rfl;have Qi2:=HI.out.cell 2 _ rfl;have Qi3:=HI.out.cell 3 _ rfl;go_enter Tryz.func197,Tryz.ntmps197;go_upto_region 1 with fail
   go_region_held2 (fun w'=>w'.cell? ⟨w.heap.size,0,none⟩=some (.string m.name)∧w'.cell? ⟨w.heap.size,1,none⟩=some (.slice pa m.params.length pk)∧w'.cell? ⟨w.heap.size,2,none⟩=some (.int .i64 m.ret.kind)∧w'.cell? ⟨w.heap.size,3,none⟩=some (.string m.ret.name)∧w'.cell? ⟨w.heap.size,4,none⟩=some (.int .i64 m.stack)∧w'.cell? ⟨w.heap.size,5,none⟩=some (.int .i64 m.locals)∧w'.cell? ⟨w.heap.size,6,none⟩=some (.slice ca m.code.length ck)∧w'.cell? ⟨w.heap.size,7,none⟩=some (.slice ha m.handlers.length hk)∧w'.cell? ⟨w.heap.size+1,0,none⟩=some (.int .i64 i.op)∧w'.cell? ⟨w.heap.size+1,1,none⟩=some (.int .i64 i.a)∧w'.cell? ⟨w.heap.size+1,2,none⟩=some (.string i.cls)∧w'.cell? ⟨w.heap.size+1,3,none⟩=some (.string i.mem)) (first|(go_keep;done)|((repeat' apply And.intro)<;>first|(go_keep;done)|(refine a3F ?_ hne02;assumption))) (first
    |(go_at_call 272;refine(HT.out _ (A1 HG0.out (B8 _ _))).mono ?_;rintro e w3 ⟨hg3,v3,rfl,ho3⟩;obtain⟨a3,k3,rfl⟩:=F1 ho3;have sm0:=hg3.cell Qm0 A7;have sm1:=hg3.cell Qm1 A7;have sm2:=hg3.cell Qm2 A7;have sm3:=hg3.cell Qm3 A7;have sm4:=hg3.cell Qm4 A7;have sm5:=hg3.cell Qm5 A7;have sm6:=hg3.cell Qm6 A7;have sm7:=hg3.cell Qm7 A7;have si0:=hg3.cell Qi0 A7;have si1:=hg3.cell Qi1 A7;have si2:=hg3.cell Qi2 A7;have si3:=hg3.cell Qi3 A7;have hv3:=Nat.lt_of_lt_of_le HX.out hg3.size;have hv31:=Nat.lt_of_succ_lt hv3;have hv30:=Nat.lt_of_succ_lt hv31)
    |(go_at_call 273;refine(HP.out _ (A1 (A1 HG0.out (B8 _ _)) hg3)).mono ?_;rintro e w4 ⟨hg4,v4,rfl,ho4⟩;obtain⟨a4,k4,rfl⟩:=F1 ho4;have rm0:=hg4.cell sm0 A7;have rm1:=hg4.cell sm1 A7;have rm2:=hg4.cell sm2 A7;have rm3:=hg4.cell sm3 A7;have rm4:=hg4.cell sm4 A7;have rm5:=hg4.cell sm5 A7;have rm6:=hg4.cell sm6 A7;have rm7:=hg4.cell sm7 A7;have ri0:=hg4.cell si0 A7;have ri1:=hg4.cell si1 A7;have ri2:=hg4.cell si2 A7;have ri3:=hg4.cell si3 A7;have HB4:=(HB.out.keep hg3 A7).keep hg4 A7;have g0:=HB4.cell 0 _ rfl;have g1:=HB4.cell 1 _ rfl;have g2:=HB4.cell 2 _ rfl;have f0:=HB4.frozen 0;have f1:=HB4.frozen 1;have f2:=HB4.frozen 2;have hv4:=Nat.lt_of_lt_of_le hv3 hg4.size;have hv41:=Nat.lt_of_succ_lt hv4;have hv40:=Nat.lt_of_succ_lt hv41))
   all_goals go_wp2_with fail
   all_goals
    have hb7:A3 _ (w.heap.size+1+1) #[.slice a3 TT.length k3, .slice a4 PP.length k4, .bool false] 315:=((HB4.set 0 (.slice a3 TT.length k3)).set 1 (.slice a4 PP.length k4)).set 2 (.bool false);have hg6:w4.grownBy (((w4.setCell ⟨w.heap.size+1+1,0,none⟩ (.slice a3 TT.length k3)).setCell ⟨w.heap.size+1+1,1,none⟩ (.slice a4 PP.length k4)).setCell ⟨w.heap.size+1+1,2,none⟩ (.bool false)) (some (w.heap.size+1+1)):=A1 (A1 (A6 _ ⟨w.heap.size+1+1,0,none⟩ _) (A6 _ ⟨w.heap.size+1+1,1,none⟩ _)) (A6 _ ⟨w.heap.size+1+1,2,none⟩ _);have hg7:=C7 (A1 (A1 (A1 HG0.out (B8 _ _)) hg3) hg4) hg6 (fun k e=> .inl (by cases e;omega));have hn3:=ho3.kept hg4 (by cases hv:(Value.slice a3 TT.length k3).ownBlock<;>simp);have hn3':=(ho3.kept hg4 (by cases hv:(Value.slice a3 TT.length k3).ownBlock<;>simp)).kept hg6 (.inr (E9 ho3 (Nat.lt_of_succ_le HX.out)));have hn4':=ho4.kept hg6 (.inr (E9 ho4 (by omega)));generalize (((w4.setCell ⟨w.heap.size+1+1,0,none⟩ (.slice a3 TT.length k3)).setCell ⟨w.heap.size+1+1,1,none⟩ (.slice a4 PP.length k4)).setCell ⟨w.heap.size+1+1,2,none⟩ (.bool false))=W7 at hb7 hg7 hn3' hn4'⊢;have z0:=hb7.cell 0 _ rfl;have z1:=hb7.cell 1 _ rfl;have z2:=hb7.cell 2 _ rfl;exact bodyPost_ret (v:= .agg #[.slice a3 TT.length k3, .slice a4 PP.length k4, .bool false]) (by simp[results,Tryz.results197,go_sem,z0,z1,z2]) rfl ⟨hg7,_,rfl,_,_,_,_,rfl,S0 hn3' HG0.out.size,S0 hn4' (by have:=HG0.out.size;have:=hg3.size;exact Nat.le_trans HG0.out.size hg3.size)⟩
theorem b9f(w:World)(lim b:Nat)(L:List Cl)(p:Addr)(cap m1 m2 m3:Nat)(q:Nat→Qs)(h:Hid (Lk w lim b L p cap m1 m2 m3 q))(hl:lim≤w.heap.size)(s:ByteArray)(hs:s.size≤maxLen):Calls Tryz.prog 244 #[.pointer (some ⟨b,0,none⟩), .string s] w fun e w'=>e= .returned (.bool (E2 L s))∧w'=w:=a3S w lim b L p cap m1 m2 m3 q h.out.kls s hs
theorem b0q(w:World)(lim b:Nat)(L:List Cl)(p:Addr)(cap m1 m2 m3:Nat)(q:Nat→Qs)(h:Hid (Lk w lim b L p cap m1 m2 m3 q))(hl:lim≤w.heap.size)(c o:ByteArray)(hc:c.size≤maxLen):Calls Tryz.prog 240 #[.pointer (some ⟨b,0,none⟩), .string c, .string o] w fun e w'=>e= .returned (.bool (I6 L c o))∧w.grownBy w' none:=b6t w lim b L p cap m1 m2 m3 q h.out.kls hl h.out.up c o hc
theorem b7l(w:World)(lim b:Nat)(L:List Cl)(p:Addr)(cap m1 m2 m3:Nat)(q:Nat→Qs)(h:Hid (Lk w lim b L p cap m1 m2 m3 q))(hl:lim≤w.heap.size)(c o:ByteArray)(hc:c.size≤maxLen)(ho:o.size≤maxLen):Calls Tryz.prog 248 #[.pointer (some ⟨b,0,none⟩), .string c, .string o] w fun e w'=>w.grownBy w' none∧∃t,e= .returned (.tuple #[t, .bool (R0 L c o).isSome]):=by
 refine(a4z w lim b L p cap m1 m2 m3 q h.out.kls hl h.out.up h.out.dist h.out.sf h.out.pf c o hc ho).mono ?_;rintro e w' ⟨rfl,hg⟩;refine⟨hg,?_⟩;unfold a1p;cases R0 L c o with
 |none=>exact⟨_,rfl⟩
 |some k=>exact⟨_,rfl⟩
theorem b5Q(w:World)(lim b:Nat)(L:List Cl)(p:Addr)(cap m1 m2 m3:Nat)(q:Nat→Qs)(h:Hid (Lk w lim b L p cap m1 m2 m3 q))(hl:lim≤w.heap.size)(c o:ByteArray)(hc:c.size≤maxLen)(ho:o.size≤maxLen):Calls Tryz.prog 62 #[.pointer (some ⟨b,0,none⟩), .string c, .string o] w fun e w'=>w.grownBy w' none∧∃t,e= .returned (.tuple #[t, .bool (O7 L c o).isSome]):=by
 refine(a8I w lim b L p cap m1 m2 m3 q h.out.kls hl h.out.up h.out.dist h.out.named h.out.sm h.out.pm c o hc ho).mono ?_;rintro e w' ⟨hg,ha⟩;refine⟨hg,?_⟩;cases hk:O7 L c o with
 |none=>rw[hk]at ha;exact⟨_,ha⟩
 |some k=>
  rw[hk]at ha;obtain⟨pa,ca,ha,pk,ck,hk,rfl,-⟩:=ha;exact⟨_,rfl⟩
set_option maxRecDepth 100000 in
set_option maxHeartbeats 40000000 in
theorem b3F(w:World)(lim b:Nat)(L:List Cl)(p:Addr)(cap m1 m2 m3:Nat)(q:Nat→Qs)(h:Hid (Lk w lim b L p cap m1 m2 m3 q))(hl:lim≤w.heap.size)(m:Me)(pa ca ha:Option Addr)(pk ck hk:Nat)(i:In)(hc:i.cls.size≤maxLen)(hm:i.mem.size≤maxLen):
 Calls Tryz.prog 229 #[.pointer (some ⟨b,0,none⟩), .agg #[.string m.name, .slice pa m.params.length pk, .int .i64 m.ret.kind, .string m.ret.name, .int .i64 m.stack, .int .i64 m.locals, .slice ca m.code.length ck, .slice ha m.handlers.length hk], .agg #[.int .i64 i.op, .int .i64 i.a, .string i.cls, .string i.mem]] w fun e w'=>e= .returned (.bool (L7 L m i))∧w.grownBy w' none:=by
 obtain⟨op,a,cs,ms⟩:=i;obtain⟨mn,mp,⟨rk,rn⟩,mst,mlo,mco,mha⟩:=m;dsimp only at hc hm⊢;generalize HTT:L7 L ⟨mn,mp,⟨rk,rn⟩,mst,mlo,mco,mha⟩ ⟨op,a,cs,ms⟩=TT;have HT:=A0 HTT;clear HTT;generalize mp.length=pn;generalize mha.length=hn;have HG0:Hid (w.grownBy ((w.alloc (.cells #[.string mn, .slice pa pn pk, .int .i64 rk, .string rn, .int .i64 mst, .int .i64 mlo, .slice ca mco.length ck, .slice ha hn hk] 102)).alloc (.cells #[.int .i64 op, .int .i64 a, .string cs, .string ms] 120)) none):=A1 (A2 _ _ _) (A2 _ _ _);have HH:=A0 (fun W hW=>b9f W lim b L p cap m1 m2 m3 q (h.out.keep hW hl) (Nat.le_trans hl hW.size) cs hc);have HF:=A0 (fun W hW=>b7l W lim b L p cap m1 m2 m3 q (h.out.keep hW hl) (Nat.le_trans hl hW.size) cs ms hc hm);have HM:=A0 (fun W hW=>b5Q W lim b L p cap m1 m2 m3 q (h.out.keep hW hl) (Nat.le_trans hl hW.size) cs ms hc hm);have hcs:op=2∨op=3∨op=12∨op=13∨op=14∨op=15∨op=16∨op=22∨op=28∨op=29∨op=17∨op=18∨op=19∨(op≠2∧op≠3∧op≠12∧op≠13∧op≠14∧op≠15∧op≠16∧op≠22∧op≠28∧op≠29∧op≠17∧op≠18∧op≠19):=by omega
 clear h hl hc hm;go_enter Tryz.func229,Tryz.ntmps229;go_upto_region 3 with fail
 rcases hcs with rfl|rfl|rfl|rfl|rfl|rfl|rfl|rfl|rfl|rfl|rfl|rfl|rfl|hne
 ·skip
  by_cases hh:a<(mlo:Int)
  ·go_wp2_with fail
   all_goals exact bodyPost_ret (v:= .bool true) (by simp[results,Tryz.results229,go_sem,hh]) rfl ⟨by rw[←HT.out];simp[L7,hh],HG0.out⟩
  ·go_wp2_with fail
   all_goals exact bodyPost_ret (v:= .bool false) (by simp[results,Tryz.results229,go_sem,hh]) rfl ⟨by rw[←HT.out];simp[L7,hh],HG0.out⟩
 ·skip
  by_cases hh:a<(mlo:Int)
  ·go_wp2_with fail
   all_goals exact bodyPost_ret (v:= .bool true) (by simp[results,Tryz.results229,go_sem,hh]) rfl ⟨by rw[←HT.out];simp[L7,hh],HG0.out⟩
  ·go_wp2_with fail
   all_goals exact bodyPost_ret (v:= .bool false) (by simp[results,Tryz.results229,go_sem,hh]) rfl ⟨by rw[←HT.out];simp[L7,hh],HG0.out⟩
 ·skip
  by_cases hh:a<(mco.length:Int)
  ·go_wp2_with fail
   all_goals exact bodyPost_ret (v:= .bool true) (by simp[results,Tryz.results229,go_sem,hh]) rfl ⟨by rw[←HT.out];simp[L7,hh],HG0.out⟩
  ·go_wp2_with fail
   all_goals exact bodyPost_ret (v:= .bool false) (by simp[results,Tryz.results229,go_sem,hh]) rfl ⟨by rw[←HT.out];simp[L7,hh],HG0.out⟩
 ·skip
  by_cases hh:a<(mco.length:Int)
  ·go_wp2_with fail
   all_goals exact bodyPost_ret (v:= .bool true) (by simp[results,Tryz.results229,go_sem,hh]) rfl ⟨by rw[←HT.out];simp[L7,hh],HG0.out⟩
  ·go_wp2_with fail
   all_goals exact bodyPost_ret (v:= .bool false) (by simp[results,Tryz.results229,go_sem,hh]) rfl ⟨by rw[←HT.out];simp[L7,hh],HG0.out⟩
 ·skip
  by_cases hh:a<(mco.length:Int)
  ·go_wp2_with fail
   all_goals exact bodyPost_ret (v:= .bool true) (by simp[results,Tryz.results229,go_sem,hh]) rfl ⟨by rw[←HT.out];simp[L7,hh],HG0.out⟩
  ·go_wp2_with fail
   all_goals exact bodyPost_ret (v:= .bool false) (by simp[results,Tryz.results229,go_sem,hh]) rfl ⟨by rw[←HT.out];simp[L7,hh],HG0.out⟩
 ·skip
  by_cases hh:a<(mco.length:Int)
  ·go_wp2_with fail
   all_goals exact bodyPost_ret (v:= .bool true) (by simp[results,Tryz.results229,go_sem,hh]) rfl ⟨by rw[←HT.out];simp[L7,hh],HG0.out⟩
  ·go_wp2_with fail
   all_goals exact bodyPost_ret (v:= .bool false) (by simp[results,Tryz.results229,go_sem,hh]) rfl ⟨by rw[←HT.out];simp[L7,hh],HG0.out⟩
 ·skip
  go_wp2_with (go_at_call 244;refine(HH.out _ HG0.out).mono ?_;rintro e w1 ⟨rfl,rfl⟩)
  all_goals exact bodyPost_ret (v:= .bool (E2 L cs)) (by simp[results,Tryz.results229,go_sem]) rfl ⟨by rw[←HT.out];simp[L7],HG0.out⟩
 ·skip
  go_wp2_with (go_at_call 244;refine(HH.out _ HG0.out).mono ?_;rintro e w1 ⟨rfl,rfl⟩)
  all_goals exact bodyPost_ret (v:= .bool (E2 L cs)) (by simp[results,Tryz.results229,go_sem]) rfl ⟨by rw[←HT.out];simp[L7],HG0.out⟩
 ·skip
  go_wp2_with (go_at_call 244;refine(HH.out _ HG0.out).mono ?_;rintro e w1 ⟨rfl,rfl⟩)
  all_goals exact bodyPost_ret (v:= .bool (E2 L cs)) (by simp[results,Tryz.results229,go_sem]) rfl ⟨by rw[←HT.out];simp[L7],HG0.out⟩
 ·skip
  go_wp2_with (go_at_call 244;refine(HH.out _ HG0.out).mono ?_;rintro e w1 ⟨rfl,rfl⟩)
  all_goals exact bodyPost_ret (v:= .bool (E2 L cs)) (by simp[results,Tryz.results229,go_sem]) rfl ⟨by rw[←HT.out];simp[L7],HG0.out⟩
 ·skip
  go_wp2_with (go_at_call 248;refine(HF.out _ HG0.out).mono ?_;rintro e w1 ⟨hg1,t,rfl⟩)
  all_goals exact bodyPost_ret (v:= .bool (R0 L cs ms).isSome) (by simp[results,Tryz.results229,go_sem]) rfl ⟨by rw[←HT.out];simp[L7],A1 HG0.out hg1⟩
 ·skip
  go_wp2_with (go_at_call 248;refine(HF.out _ HG0.out).mono ?_;rintro e w1 ⟨hg1,t,rfl⟩)
  all_goals exact bodyPost_ret (v:= .bool (R0 L cs ms).isSome) (by simp[results,Tryz.results229,go_sem]) rfl ⟨by rw[←HT.out];simp[L7],A1 HG0.out hg1⟩
 ·skip
  go_wp2_with (go_at_call 62;refine(HM.out _ HG0.out).mono ?_;rintro e w1 ⟨hg1,t,rfl⟩)
  all_goals exact bodyPost_ret (v:= .bool (O7 L cs ms).isSome) (by simp[results,Tryz.results229,go_sem]) rfl ⟨by rw[←HT.out];simp[L7],A1 HG0.out hg1⟩
 ·obtain⟨n2,n3,n12,n13,n14,n15,n16,n22,n28,n29,n17,n18,n19⟩:=hne;have k2:¬(op:Int)=2:=by omega
  have k3:¬(op:Int)=3:=by omega
  have k12:¬(op:Int)=12:=by omega
  have k13:¬(op:Int)=13:=by omega
  have k14:¬(op:Int)=14:=by omega
  have k15:¬(op:Int)=15:=by omega
  have k16:¬(op:Int)=16:=by omega
  have k22:¬(op:Int)=22:=by omega
  have k28:¬(op:Int)=28:=by omega
  have k29:¬(op:Int)=29:=by omega
  have k17:¬(op:Int)=17:=by omega
  have k18:¬(op:Int)=18:=by omega
  have k19:¬(op:Int)=19:=by omega
  have HN:Hid (TT=true):=by
   unfold Hid;rw[←HT.out];unfold L7;dsimp only;rw[if_neg (by omega),if_neg (by omega),if_neg (by omega),if_neg (by omega),if_neg (by omega)]
  go_wp2_with fail
  all_goals exact bodyPost_ret (v:= .bool true) (by simp[results,Tryz.results229,go_sem]) rfl ⟨by rw[HN.out],HG0.out⟩
theorem a3H:D4.toList=[79,98,106,101,99,116]:=by simp[D4]
set_option maxRecDepth 100000 in
set_option maxHeartbeats 40000000 in
theorem b4a(w:World)(b:Nat)(k:Nat)(n:ByteArray):
 Calls Tryz.prog 295 #[.pointer (some ⟨b,0,none⟩), .agg #[.int .i64 k, .string n], .agg #[.int .i64 k, .string n]] w fun e w'=>e= .returned (.bool true)∧w.grownBy w' none:=by
 have HG0:Hid (w.grownBy ((w.alloc (.cells #[.int .i64 k, .string n] 98)).alloc (.cells #[.int .i64 k, .string n] 98)) none):=A1 (A2 _ _ _) (A2 _ _ _);go_enter Tryz.func295,Tryz.ntmps295;go_wp2_with fail
 all_goals exact bodyPost_ret (v:= .bool true) (by simp[results,Tryz.results295,go_sem]) rfl ⟨rfl,HG0.out⟩
set_option maxRecDepth 100000 in
set_option maxHeartbeats 40000000 in
theorem a2p(w:World)(b:Nat)(k:Nat)(n m:ByteArray)(hk:¬(k:Int)=0):
 Calls Tryz.prog 295 #[.pointer (some ⟨b,0,none⟩), .agg #[.int .i64 k, .string n], .agg #[.int .i64 0, .string m]] w fun e w'=>e= .returned (.bool true)∧w.grownBy w' none:=by
 have HG0:Hid (w.grownBy ((w.alloc (.cells #[.int .i64 k, .string n] 98)).alloc (.cells #[.int .i64 0, .string m] 98)) none):=A1 (A2 _ _ _) (A2 _ _ _);go_enter Tryz.func295,Tryz.ntmps295;go_wp2_with fail
 all_goals exact bodyPost_ret (v:= .bool true) (by simp[results,Tryz.results295,go_sem]) rfl ⟨rfl,HG0.out⟩
set_option maxRecDepth 100000 in
set_option maxHeartbeats 40000000 in
theorem b4c(w:World)(b:Nat)(j:Nat)(n m:ByteArray)(h5:¬(5:Int)=j)(h0:¬(j:Int)=0):
 Calls Tryz.prog 295 #[.pointer (some ⟨b,0,none⟩), .agg #[.int .i64 5, .string n], .agg #[.int .i64 j, .string m]] w fun e w'=>e= .returned (.bool (decide ((j:Int)=2)||decide ((j:Int)=3)||decide ((j:Int)=4)))∧w.grownBy w' none:=by
 have HG0:Hid (w.grownBy ((w.alloc (.cells #[.int .i64 5, .string n] 98)).alloc (.cells #[.int .i64 j, .string m] 98)) none):=A1 (A2 _ _ _) (A2 _ _ _);by_cases h2:(j:Int)=2
 ·obtain rfl:j=2:=by omega
  go_enter Tryz.func295,Tryz.ntmps295;go_wp2_with fail
  all_goals exact bodyPost_ret (v:= .bool true) (by simp[results,Tryz.results295,go_sem]) rfl ⟨rfl,HG0.out⟩
 ·by_cases h3:(j:Int)=3
  ·obtain rfl:j=3:=by omega
   go_enter Tryz.func295,Tryz.ntmps295;go_wp2_with fail
   all_goals exact bodyPost_ret (v:= .bool true) (by simp[results,Tryz.results295,go_sem]) rfl ⟨rfl,HG0.out⟩
  ·by_cases h4:(j:Int)=4
   ·obtain rfl:j=4:=by omega
    go_enter Tryz.func295,Tryz.ntmps295;go_wp2_with fail
    all_goals exact bodyPost_ret (v:= .bool true) (by simp[results,Tryz.results295,go_sem]) rfl ⟨rfl,HG0.out⟩
   ·go_enter Tryz.func295,Tryz.ntmps295;go_wp2_with fail
    all_goals exact bodyPost_ret (v:= .bool false) (by simp[results,Tryz.results295,go_sem,h2,h3,h4]) rfl ⟨by simp[h2,h3,h4],HG0.out⟩
set_option maxRecDepth 100000 in
set_option maxHeartbeats 40000000 in
theorem b3a(w:World)(b:Nat)(n m:ByteArray)(hnm:¬n=m):
 Calls Tryz.prog 295 #[.pointer (some ⟨b,0,none⟩), .agg #[.int .i64 5, .string n], .agg #[.int .i64 5, .string m]] w fun e w'=>e= .returned (.bool false)∧w.grownBy w' none:=by
 have hnb:=j4 hnm;have HG0:Hid (w.grownBy ((w.alloc (.cells #[.int .i64 5, .string n] 98)).alloc (.cells #[.int .i64 5, .string m] 98)) none):=A1 (A2 _ _ _) (A2 _ _ _);go_enter Tryz.func295,Tryz.ntmps295;go_wp2_with fail
 all_goals exact bodyPost_ret (v:= .bool false) (by simp[results,Tryz.results295,go_sem]) rfl ⟨rfl,HG0.out⟩
set_option maxRecDepth 100000 in
set_option maxHeartbeats 40000000 in
theorem b5h(w:World)(b:Nat)(L:List Cl)(n m:ByteArray)(hnm:¬n=m)(HB:Hid (∀W,w.grownBy W none→Calls Tryz.prog 240 #[.pointer (some ⟨b,0,none⟩), .string n, .string m] W fun e w'=>e= .returned (.bool (I6 L n m))∧W.grownBy w' none)):
 Calls Tryz.prog 295 #[.pointer (some ⟨b,0,none⟩), .agg #[.int .i64 2, .string n], .agg #[.int .i64 2, .string m]] w fun e w'=>e= .returned (.bool (I6 L n m))∧w.grownBy w' none:=by
 have hnb:=j4 hnm;have HG0:Hid (w.grownBy ((w.alloc (.cells #[.int .i64 2, .string n] 98)).alloc (.cells #[.int .i64 2, .string m] 98)) none):=A1 (A2 _ _ _) (A2 _ _ _);go_enter Tryz.func295,Tryz.ntmps295;go_wp2_with (go_at_call 240;refine(HB.out _ HG0.out).mono ?_;rintro e w1 ⟨rfl,hg1⟩)
 all_goals exact bodyPost_ret (v:= .bool (I6 L n m)) (by simp[results,Tryz.results295,go_sem]) rfl ⟨rfl,A1 HG0.out hg1⟩
set_option maxRecDepth 100000 in
set_option maxHeartbeats 40000000 in
theorem b4b(w:World)(b:Nat)(j:Nat)(n m:ByteArray)(h2:¬(2:Int)=j)(h2':¬(j:Int)=2)(h0:¬(j:Int)=0):
 Calls Tryz.prog 295 #[.pointer (some ⟨b,0,none⟩), .agg #[.int .i64 2, .string n], .agg #[.int .i64 j, .string m]] w fun e w'=>e= .returned (.bool false)∧w.grownBy w' none:=by
 have HG0:Hid (w.grownBy ((w.alloc (.cells #[.int .i64 2, .string n] 98)).alloc (.cells #[.int .i64 j, .string m] 98)) none):=A1 (A2 _ _ _) (A2 _ _ _);go_enter Tryz.func295,Tryz.ntmps295;go_wp2_with fail
 all_goals exact bodyPost_ret (v:= .bool false) (by simp[results,Tryz.results295,go_sem]) rfl ⟨rfl,HG0.out⟩
set_option maxRecDepth 100000 in
set_option maxHeartbeats 40000000 in
theorem b4d(w:World)(b:Nat)(k j:Nat)(n m:ByteArray)(hkj:¬(k:Int)=j)(h0:¬(j:Int)=0)(h5:¬(k:Int)=5)(h2:¬(k:Int)=2)(h3:¬(k:Int)=3)(h4:¬(k:Int)=4):
 Calls Tryz.prog 295 #[.pointer (some ⟨b,0,none⟩), .agg #[.int .i64 k, .string n], .agg #[.int .i64 j, .string m]] w fun e w'=>e= .returned (.bool false)∧w.grownBy w' none:=by
 have HG0:Hid (w.grownBy ((w.alloc (.cells #[.int .i64 k, .string n] 98)).alloc (.cells #[.int .i64 j, .string m] 98)) none):=A1 (A2 _ _ _) (A2 _ _ _);go_enter Tryz.func295,Tryz.ntmps295;go_wp2_with fail
 all_goals exact bodyPost_ret (v:= .bool false) (by simp[results,Tryz.results295,go_sem]) rfl ⟨rfl,HG0.out⟩
set_option maxRecDepth 100000 in
set_option maxHeartbeats 40000000 in
theorem b3b(w:World)(b:Nat)(k:Nat)(n m:ByteArray)(hnm:¬n=m)(h0:¬(k:Int)=0)(h5:¬(k:Int)=5)(h2:¬(k:Int)=2)(h3:¬(k:Int)=3)(h4:¬(k:Int)=4):
 Calls Tryz.prog 295 #[.pointer (some ⟨b,0,none⟩), .agg #[.int .i64 k, .string n], .agg #[.int .i64 k, .string m]] w fun e w'=>e= .returned (.bool false)∧w.grownBy w' none:=by
 have hnb:=j4 hnm;have HG0:Hid (w.grownBy ((w.alloc (.cells #[.int .i64 k, .string n] 98)).alloc (.cells #[.int .i64 k, .string m] 98)) none):=A1 (A2 _ _ _) (A2 _ _ _);go_enter Tryz.func295,Tryz.ntmps295;go_wp2_with fail
 all_goals exact bodyPost_ret (v:= .bool false) (by simp[results,Tryz.results295,go_sem]) rfl ⟨rfl,HG0.out⟩
set_option maxRecDepth 100000 in
set_option maxHeartbeats 40000000 in
theorem b3j(w:World)(b:Nat)(n:ByteArray):
 Calls Tryz.prog 295 #[.pointer (some ⟨b,0,none⟩), .agg #[.int .i64 3, .string n], .agg #[.int .i64 2, .string D4]] w fun e w'=>e= .returned (.bool true)∧w.grownBy w' none:=by
 have hmt:=a3H;have HG0:Hid (w.grownBy ((w.alloc (.cells #[.int .i64 3, .string n] 98)).alloc (.cells #[.int .i64 2, .string D4] 98)) none):=A1 (A2 _ _ _) (A2 _ _ _)
 have hq:A3 ((w.alloc (.cells #[.int .i64 3, .string n] 98)).alloc (.cells #[.int .i64 2, .string D4] 98)).drew (w.heap.size+1) #[.int .i64 2, .string D4] 98:=by
  have:=A3.new (w.alloc (.cells #[.int .i64 3, .string n] 98)) #[.int .i64 2, .string D4] 98;rw[World.size_alloc]at this;exact this
 have Q0:=hq.cell 0 _ rfl;have Q1:=hq.cell 1 _ rfl;clear hq;go_enter Tryz.func295,Tryz.ntmps295;go_upto_region 10 with fail
 refine wp_region_held_drew (S:=(fun w'=>w'.cell? ⟨w.heap.size+1,0,none⟩=some (.int .i64 2)∧w'.cell? ⟨w.heap.size+1,1,none⟩=some (.string D4))) (by kernel_rfl) ?hS0 (fun hHeld=> ?rest0)
 case hS0=>exact⟨Q0,Q1⟩
 refine A4 0 ?_;refine wpAnyH_ready (rs:=[1]) (by kernel_rfl) (by simp) ?_;refine AllReadyH.cons rfl (fun K hK=> ?_) AllReadyH.nil;go_simp
 go_wp2_with (go_at_call 267;refine(U8 _ _).mono ?_;rintro e w1 ⟨rfl,hg1⟩;have s0:=hg1.cell Q0 A7;have s1:=hg1.cell Q1 A7)
 refine hK.out _ _ ?_ (fun hHeld=> ?_)
 case refine_1=>exact⟨s0,s1⟩
 try clear hK K
 try simp only[Act.put,lz]
 refine A4 2 ?_;refine A4 3 ?_;refine wpAnyH_done (by kernel_rfl) ?_ _;go_wp2_with fail
 all_goals exact bodyPost_ret (v:= .bool true) (by simp[results,Tryz.results295,go_sem]) rfl ⟨rfl,A1 (A1 HG0.out (B8 _ _)) hg1⟩
set_option maxRecDepth 100000 in
set_option maxHeartbeats 40000000 in
theorem b3i(w:World)(b:Nat)(n m:ByteArray)(hm:¬m=D4):
 Calls Tryz.prog 295 #[.pointer (some ⟨b,0,none⟩), .agg #[.int .i64 3, .string n], .agg #[.int .i64 2, .string m]] w fun e w'=>e= .returned (.bool false)∧w.grownBy w' none:=by
 have hmt:¬m.toList=[79,98,106,101,99,116]:=fun e=>hm (t8 (e.trans a3H.symm))
 have HG0:Hid (w.grownBy ((w.alloc (.cells #[.int .i64 3, .string n] 98)).alloc (.cells #[.int .i64 2, .string m] 98)) none):=A1 (A2 _ _ _) (A2 _ _ _)
 have hq:A3 ((w.alloc (.cells #[.int .i64 3, .string n] 98)).alloc (.cells #[.int .i64 2, .string m] 98)).drew (w.heap.size+1) #[.int .i64 2, .string m] 98:=by
  have:=A3.new (w.alloc (.cells #[.int .i64 3, .string n] 98)) #[.int .i64 2, .string m] 98;rw[World.size_alloc]at this;exact this
 have Q0:=hq.cell 0 _ rfl;have Q1:=hq.cell 1 _ rfl;clear hq;go_enter Tryz.func295,Tryz.ntmps295;go_upto_region 10 with fail
 refine wp_region_held_drew (S:=(fun w'=>w'.cell? ⟨w.heap.size+1,0,none⟩=some (.int .i64 2)∧w'.cell? ⟨w.heap.size+1,1,none⟩=some (.string m))) (by kernel_rfl) ?hS0 (fun hHeld=> ?rest0)
 case hS0=>exact⟨Q0,Q1⟩
 refine A4 0 ?_;refine wpAnyH_ready (rs:=[1]) (by kernel_rfl) (by simp) ?_;refine AllReadyH.cons rfl (fun K hK=> ?_) AllReadyH.nil;go_simp
 go_wp2_with (go_at_call 267;refine(U8 _ _).mono ?_;rintro e w1 ⟨rfl,hg1⟩;have s0:=hg1.cell Q0 A7;have s1:=hg1.cell Q1 A7)
 refine hK.out _ _ ?_ (fun hHeld=> ?_)
 case refine_1=>exact⟨s0,s1⟩
 try clear hK K
 try simp only[Act.put,lz]
 refine A4 2 ?_;refine A4 3 ?_;refine wpAnyH_done (by kernel_rfl) ?_ _;go_wp2_with fail
 all_goals exact bodyPost_ret (v:= .bool false) (by simp[results,Tryz.results295,go_sem]) rfl ⟨rfl,A1 (A1 HG0.out (B8 _ _)) hg1⟩
set_option maxRecDepth 100000 in
set_option maxHeartbeats 40000000 in
theorem b3h(w:World)(b:Nat)(j:Nat)(n m:ByteArray)(hkj:¬(3:Int)=j)(h0:¬(j:Int)=0)(h2:¬(j:Int)=2)(h2':¬(2:Int)=j):
 Calls Tryz.prog 295 #[.pointer (some ⟨b,0,none⟩), .agg #[.int .i64 3, .string n], .agg #[.int .i64 j, .string m]] w fun e w'=>e= .returned (.bool false)∧w.grownBy w' none:=by
 have HG0:Hid (w.grownBy ((w.alloc (.cells #[.int .i64 3, .string n] 98)).alloc (.cells #[.int .i64 j, .string m] 98)) none):=A1 (A2 _ _ _) (A2 _ _ _)
 have hq:A3 ((w.alloc (.cells #[.int .i64 3, .string n] 98)).alloc (.cells #[.int .i64 j, .string m] 98)).drew (w.heap.size+1) #[.int .i64 j, .string m] 98:=by
  have:=A3.new (w.alloc (.cells #[.int .i64 3, .string n] 98)) #[.int .i64 j, .string m] 98;rw[World.size_alloc]at this;exact this
 have Q0:=hq.cell 0 _ rfl;have Q1:=hq.cell 1 _ rfl;clear hq;go_enter Tryz.func295,Tryz.ntmps295;go_upto_region 10 with fail
 refine wp_region_held_drew (S:=(fun w'=>w'.cell? ⟨w.heap.size+1,0,none⟩=some (.int .i64 j)∧w'.cell? ⟨w.heap.size+1,1,none⟩=some (.string m))) (by kernel_rfl) ?hS0 (fun hHeld=> ?rest0)
 case hS0=>exact⟨Q0,Q1⟩
 refine A4 0 ?_;refine wpAnyH_ready (rs:=[1]) (by kernel_rfl) (by simp) ?_;refine AllReadyH.cons rfl (fun K hK=> ?_) AllReadyH.nil;go_simp
 go_wp2_with (go_at_call 267;refine(U8 _ _).mono ?_;rintro e w1 ⟨rfl,hg1⟩;have s0:=hg1.cell Q0 A7;have s1:=hg1.cell Q1 A7)
 refine hK.out _ _ ?_ (fun hHeld=> ?_)
 case refine_1=>exact⟨s0,s1⟩
 try clear hK K
 try simp only[Act.put,lz]
 refine A4 2 ?_;refine A4 3 ?_;refine wpAnyH_done (by kernel_rfl) ?_ _;go_wp2_with fail
 all_goals exact bodyPost_ret (v:= .bool false) (by simp[results,Tryz.results295,go_sem]) rfl ⟨rfl,A1 (A1 HG0.out (B8 _ _)) hg1⟩
set_option maxRecDepth 100000 in
set_option maxHeartbeats 40000000 in
theorem b3g(w:World)(b:Nat)(n m:ByteArray)(hnm:¬n=m):
 Calls Tryz.prog 295 #[.pointer (some ⟨b,0,none⟩), .agg #[.int .i64 3, .string n], .agg #[.int .i64 3, .string m]] w fun e w'=>e= .returned (.bool false)∧w.grownBy w' none:=by
 have hnb:=j4 hnm;have HG0:Hid (w.grownBy ((w.alloc (.cells #[.int .i64 3, .string n] 98)).alloc (.cells #[.int .i64 3, .string m] 98)) none):=A1 (A2 _ _ _) (A2 _ _ _)
 have hq:A3 ((w.alloc (.cells #[.int .i64 3, .string n] 98)).alloc (.cells #[.int .i64 3, .string m] 98)).drew (w.heap.size+1) #[.int .i64 3, .string m] 98:=by
  have:=A3.new (w.alloc (.cells #[.int .i64 3, .string n] 98)) #[.int .i64 3, .string m] 98;rw[World.size_alloc]at this;exact this
 have Q0:=hq.cell 0 _ rfl;have Q1:=hq.cell 1 _ rfl;clear hq;go_enter Tryz.func295,Tryz.ntmps295;go_upto_region 10 with fail
 refine wp_region_held_drew (S:=(fun w'=>w'.cell? ⟨w.heap.size+1,0,none⟩=some (.int .i64 3)∧w'.cell? ⟨w.heap.size+1,1,none⟩=some (.string m))) (by kernel_rfl) ?hS0 (fun hHeld=> ?rest0)
 case hS0=>exact⟨Q0,Q1⟩
 refine A4 0 ?_;refine wpAnyH_ready (rs:=[1]) (by kernel_rfl) (by simp) ?_;refine AllReadyH.cons rfl (fun K hK=> ?_) AllReadyH.nil;go_simp
 go_wp2_with (go_at_call 267;refine(U8 _ _).mono ?_;rintro e w1 ⟨rfl,hg1⟩;have s0:=hg1.cell Q0 A7;have s1:=hg1.cell Q1 A7)
 refine hK.out _ _ ?_ (fun hHeld=> ?_)
 case refine_1=>exact⟨s0,s1⟩
 try clear hK K
 try simp only[Act.put,lz]
 refine A4 2 ?_;refine A4 3 ?_;refine wpAnyH_done (by kernel_rfl) ?_ _;go_wp2_with fail
 all_goals exact bodyPost_ret (v:= .bool false) (by simp[results,Tryz.results295,go_sem]) rfl ⟨rfl,A1 (A1 HG0.out (B8 _ _)) hg1⟩
set_option maxRecDepth 100000 in
set_option maxHeartbeats 40000000 in
theorem b3f(w:World)(b:Nat)(n:ByteArray):
 Calls Tryz.prog 295 #[.pointer (some ⟨b,0,none⟩), .agg #[.int .i64 4, .string n], .agg #[.int .i64 2, .string D4]] w fun e w'=>e= .returned (.bool true)∧w.grownBy w' none:=by
 have hmt:=a3H;have HG0:Hid (w.grownBy ((w.alloc (.cells #[.int .i64 4, .string n] 98)).alloc (.cells #[.int .i64 2, .string D4] 98)) none):=A1 (A2 _ _ _) (A2 _ _ _)
 have hq:A3 ((w.alloc (.cells #[.int .i64 4, .string n] 98)).alloc (.cells #[.int .i64 2, .string D4] 98)).drew (w.heap.size+1) #[.int .i64 2, .string D4] 98:=by
  have:=A3.new (w.alloc (.cells #[.int .i64 4, .string n] 98)) #[.int .i64 2, .string D4] 98;rw[World.size_alloc]at this;exact this
 have Q0:=hq.cell 0 _ rfl;have Q1:=hq.cell 1 _ rfl;clear hq;go_enter Tryz.func295,Tryz.ntmps295;go_upto_region 10 with fail
 refine wp_region_held_drew (S:=(fun w'=>w'.cell? ⟨w.heap.size+1,0,none⟩=some (.int .i64 2)∧w'.cell? ⟨w.heap.size+1,1,none⟩=some (.string D4))) (by kernel_rfl) ?hS0 (fun hHeld=> ?rest0)
 case hS0=>exact⟨Q0,Q1⟩
 refine A4 0 ?_;refine wpAnyH_ready (rs:=[1]) (by kernel_rfl) (by simp) ?_;refine AllReadyH.cons rfl (fun K hK=> ?_) AllReadyH.nil;go_simp
 go_wp2_with (go_at_call 267;refine(U8 _ _).mono ?_;rintro e w1 ⟨rfl,hg1⟩;have s0:=hg1.cell Q0 A7;have s1:=hg1.cell Q1 A7)
 refine hK.out _ _ ?_ (fun hHeld=> ?_)
 case refine_1=>exact⟨s0,s1⟩
 try clear hK K
 try simp only[Act.put,lz]
 refine A4 2 ?_;refine A4 3 ?_;refine wpAnyH_done (by kernel_rfl) ?_ _;go_wp2_with fail
 all_goals exact bodyPost_ret (v:= .bool true) (by simp[results,Tryz.results295,go_sem]) rfl ⟨rfl,A1 (A1 HG0.out (B8 _ _)) hg1⟩
set_option maxRecDepth 100000 in
set_option maxHeartbeats 40000000 in
theorem b3e(w:World)(b:Nat)(n m:ByteArray)(hm:¬m=D4):
 Calls Tryz.prog 295 #[.pointer (some ⟨b,0,none⟩), .agg #[.int .i64 4, .string n], .agg #[.int .i64 2, .string m]] w fun e w'=>e= .returned (.bool false)∧w.grownBy w' none:=by
 have hmt:¬m.toList=[79,98,106,101,99,116]:=fun e=>hm (t8 (e.trans a3H.symm))
 have HG0:Hid (w.grownBy ((w.alloc (.cells #[.int .i64 4, .string n] 98)).alloc (.cells #[.int .i64 2, .string m] 98)) none):=A1 (A2 _ _ _) (A2 _ _ _)
 have hq:A3 ((w.alloc (.cells #[.int .i64 4, .string n] 98)).alloc (.cells #[.int .i64 2, .string m] 98)).drew (w.heap.size+1) #[.int .i64 2, .string m] 98:=by
  have:=A3.new (w.alloc (.cells #[.int .i64 4, .string n] 98)) #[.int .i64 2, .string m] 98;rw[World.size_alloc]at this;exact this
 have Q0:=hq.cell 0 _ rfl;have Q1:=hq.cell 1 _ rfl;clear hq;go_enter Tryz.func295,Tryz.ntmps295;go_upto_region 10 with fail
 refine wp_region_held_drew (S:=(fun w'=>w'.cell? ⟨w.heap.size+1,0,none⟩=some (.int .i64 2)∧w'.cell? ⟨w.heap.size+1,1,none⟩=some (.string m))) (by kernel_rfl) ?hS0 (fun hHeld=> ?rest0)
 case hS0=>exact⟨Q0,Q1⟩
 refine A4 0 ?_;refine wpAnyH_ready (rs:=[1]) (by kernel_rfl) (by simp) ?_;refine AllReadyH.cons rfl (fun K hK=> ?_) AllReadyH.nil;go_simp
 go_wp2_with (go_at_call 267;refine(U8 _ _).mono ?_;rintro e w1 ⟨rfl,hg1⟩;have s0:=hg1.cell Q0 A7;have s1:=hg1.cell Q1 A7)
 refine hK.out _ _ ?_ (fun hHeld=> ?_)
 case refine_1=>exact⟨s0,s1⟩
 try clear hK K
 try simp only[Act.put,lz]
 refine A4 2 ?_;refine A4 3 ?_;refine wpAnyH_done (by kernel_rfl) ?_ _;go_wp2_with fail
 all_goals exact bodyPost_ret (v:= .bool false) (by simp[results,Tryz.results295,go_sem]) rfl ⟨rfl,A1 (A1 HG0.out (B8 _ _)) hg1⟩
set_option maxRecDepth 100000 in
set_option maxHeartbeats 40000000 in
theorem b3d(w:World)(b:Nat)(j:Nat)(n m:ByteArray)(hkj:¬(4:Int)=j)(h0:¬(j:Int)=0)(h2:¬(j:Int)=2)(h2':¬(2:Int)=j):
 Calls Tryz.prog 295 #[.pointer (some ⟨b,0,none⟩), .agg #[.int .i64 4, .string n], .agg #[.int .i64 j, .string m]] w fun e w'=>e= .returned (.bool false)∧w.grownBy w' none:=by
 have HG0:Hid (w.grownBy ((w.alloc (.cells #[.int .i64 4, .string n] 98)).alloc (.cells #[.int .i64 j, .string m] 98)) none):=A1 (A2 _ _ _) (A2 _ _ _)
 have hq:A3 ((w.alloc (.cells #[.int .i64 4, .string n] 98)).alloc (.cells #[.int .i64 j, .string m] 98)).drew (w.heap.size+1) #[.int .i64 j, .string m] 98:=by
  have:=A3.new (w.alloc (.cells #[.int .i64 4, .string n] 98)) #[.int .i64 j, .string m] 98;rw[World.size_alloc]at this;exact this
 have Q0:=hq.cell 0 _ rfl;have Q1:=hq.cell 1 _ rfl;clear hq;go_enter Tryz.func295,Tryz.ntmps295;go_upto_region 10 with fail
 refine wp_region_held_drew (S:=(fun w'=>w'.cell? ⟨w.heap.size+1,0,none⟩=some (.int .i64 j)∧w'.cell? ⟨w.heap.size+1,1,none⟩=some (.string m))) (by kernel_rfl) ?hS0 (fun hHeld=> ?rest0)
 case hS0=>exact⟨Q0,Q1⟩
 refine A4 0 ?_;refine wpAnyH_ready (rs:=[1]) (by kernel_rfl) (by simp) ?_;refine AllReadyH.cons rfl (fun K hK=> ?_) AllReadyH.nil;go_simp
 go_wp2_with (go_at_call 267;refine(U8 _ _).mono ?_;rintro e w1 ⟨rfl,hg1⟩;have s0:=hg1.cell Q0 A7;have s1:=hg1.cell Q1 A7)
 refine hK.out _ _ ?_ (fun hHeld=> ?_)
 case refine_1=>exact⟨s0,s1⟩
 try clear hK K
 try simp only[Act.put,lz]
 refine A4 2 ?_;refine A4 3 ?_;refine wpAnyH_done (by kernel_rfl) ?_ _;go_wp2_with fail
 all_goals exact bodyPost_ret (v:= .bool false) (by simp[results,Tryz.results295,go_sem]) rfl ⟨rfl,A1 (A1 HG0.out (B8 _ _)) hg1⟩
set_option maxRecDepth 100000 in
set_option maxHeartbeats 40000000 in
theorem b3c(w:World)(b:Nat)(n m:ByteArray)(hnm:¬n=m):
 Calls Tryz.prog 295 #[.pointer (some ⟨b,0,none⟩), .agg #[.int .i64 4, .string n], .agg #[.int .i64 4, .string m]] w fun e w'=>e= .returned (.bool false)∧w.grownBy w' none:=by
 have hnb:=j4 hnm;have HG0:Hid (w.grownBy ((w.alloc (.cells #[.int .i64 4, .string n] 98)).alloc (.cells #[.int .i64 4, .string m] 98)) none):=A1 (A2 _ _ _) (A2 _ _ _)
 have hq:A3 ((w.alloc (.cells #[.int .i64 4, .string n] 98)).alloc (.cells #[.int .i64 4, .string m] 98)).drew (w.heap.size+1) #[.int .i64 4, .string m] 98:=by
  have:=A3.new (w.alloc (.cells #[.int .i64 4, .string n] 98)) #[.int .i64 4, .string m] 98;rw[World.size_alloc]at this;exact this
 have Q0:=hq.cell 0 _ rfl;have Q1:=hq.cell 1 _ rfl;clear hq;go_enter Tryz.func295,Tryz.ntmps295;go_upto_region 10 with fail
 refine wp_region_held_drew (S:=(fun w'=>w'.cell? ⟨w.heap.size+1,0,none⟩=some (.int .i64 4)∧w'.cell? ⟨w.heap.size+1,1,none⟩=some (.string m))) (by kernel_rfl) ?hS0 (fun hHeld=> ?rest0)
 case hS0=>exact⟨Q0,Q1⟩
 refine A4 0 ?_;refine wpAnyH_ready (rs:=[1]) (by kernel_rfl) (by simp) ?_;refine AllReadyH.cons rfl (fun K hK=> ?_) AllReadyH.nil;go_simp
 go_wp2_with (go_at_call 267;refine(U8 _ _).mono ?_;rintro e w1 ⟨rfl,hg1⟩;have s0:=hg1.cell Q0 A7;have s1:=hg1.cell Q1 A7)
 refine hK.out _ _ ?_ (fun hHeld=> ?_)
 case refine_1=>exact⟨s0,s1⟩
 try clear hK K
 try simp only[Act.put,lz]
 refine A4 2 ?_;refine A4 3 ?_;refine wpAnyH_done (by kernel_rfl) ?_ _;go_wp2_with fail
 all_goals exact bodyPost_ret (v:= .bool false) (by simp[results,Tryz.results295,go_sem]) rfl ⟨rfl,A1 (A1 HG0.out (B8 _ _)) hg1⟩
set_option maxRecDepth 100000 in
set_option maxHeartbeats 40000000 in
theorem b3Z(w:World)(b:Nat)(n m:ByteArray)(hnm:¬n=m):
 Calls Tryz.prog 295 #[.pointer (some ⟨b,0,none⟩), .agg #[.int .i64 0, .string n], .agg #[.int .i64 0, .string m]] w fun e w'=>e= .returned (.bool true)∧w.grownBy w' none:=by
 have hnb:=j4 hnm;have HG0:Hid (w.grownBy ((w.alloc (.cells #[.int .i64 0, .string n] 98)).alloc (.cells #[.int .i64 0, .string m] 98)) none):=A1 (A2 _ _ _) (A2 _ _ _);go_enter Tryz.func295,Tryz.ntmps295;go_wp2_with fail
 all_goals exact bodyPost_ret (v:= .bool true) (by simp[results,Tryz.results295,go_sem]) rfl ⟨rfl,HG0.out⟩
theorem a6O(w:World)(lim b:Nat)(L:List Cl)(p:Addr)(cap m1 m2 m3:Nat)(q:Nat→Qs)(h:Hid (Lk w lim b L p cap m1 m2 m3 q))(hl:lim≤w.heap.size)(s t:Ty)(hs:s.name.size≤maxLen):
 Calls Tryz.prog 295 #[.pointer (some ⟨b,0,none⟩), .agg #[.int .i64 s.kind, .string s.name], .agg #[.int .i64 t.kind, .string t.name]] w fun e w'=>e= .returned (.bool (D0 L s t))∧w.grownBy w' none:=by
 obtain⟨k,n⟩:=s;obtain⟨j,m⟩:=t;dsimp only at hs⊢;have key:∀v,D0 L ⟨k,n⟩ ⟨j,m⟩=v→Calls Tryz.prog 295 #[.pointer (some ⟨b,0,none⟩), .agg #[.int .i64 k, .string n], .agg #[.int .i64 j, .string m]] w (fun e w'=>e= .returned (.bool v)∧w.grownBy w' none)→Calls Tryz.prog 295 #[.pointer (some ⟨b,0,none⟩), .agg #[.int .i64 k, .string n], .agg #[.int .i64 j, .string m]] w (fun e w'=>e= .returned (.bool (D0 L ⟨k,n⟩ ⟨j,m⟩))∧w.grownBy w' none):=fun v e hh=>by rw[e];exact hh
 by_cases hkj:k=j
 ·subst hkj;by_cases hnm:n=m
  ·subst hnm;exact key true (by simp[D0,I4]) (b4a w b k n)
  ·by_cases h0:k=0
   ·subst h0;exact key true (by simp[D0]) (b3Z w b n m hnm)
   ·by_cases h5:k=5
    ·subst h5;exact key false (by simp[D0,I4,hnm]) (b3a w b n m hnm)
    ·by_cases h2:k=2
     ·subst h2;exact key (I6 L n m) (by simp[D0,I4,hnm]) (b5h w b L n m hnm (fun W hW=>b0q W lim b L p cap m1 m2 m3 q (h.out.keep hW hl) (Nat.le_trans hl hW.size) n m hs))
     ·by_cases h3:k=3
      ·subst h3;exact key false (by simp[D0,I4,hnm]) (b3g w b n m hnm)
      ·by_cases h4:k=4
       ·subst h4;exact key false (by simp[D0,I4,hnm]) (b3c w b n m hnm)
       ·exact key false (by simp[D0,I4,hnm,h0,h5,h2,h3,h4]) (b3b w b k n m hnm (by omega) (by omega) (by omega) (by omega) (by omega))
 ·by_cases h0:j=0
  ·subst h0;exact key true (by simp[D0]) (a2p w b k n m (by omega))
  ·by_cases h5:k=5
   ·subst h5;refine key _ ?_ (b4c w b j n m (by omega) (by omega));rw[Bool.eq_iff_iff];simp[D0,I4,h0,hkj];omega
   ·by_cases h2:k=2
    ·subst h2;exact key false (by simp[D0,I4,h0,hkj];omega) (b4b w b j n m (by omega) (by omega) (by omega))
    ·by_cases h3:k=3
     ·subst h3;by_cases hj:j=2
      ·subst hj;by_cases hm:m=D4
       ·subst hm;exact key true (by simp[D0,I4]) (b3j w b n)
       ·exact key false (by simp[D0,I4,hm]) (b3i w b n m hm)
      ·exact key false (by simp[D0,I4,h0,hkj,hj]) (b3h w b j n m (by omega) (by omega) (by omega) (by omega))
     ·by_cases h4:k=4
      ·subst h4;by_cases hj:j=2
       ·subst hj;by_cases hm:m=D4
        ·subst hm;exact key true (by simp[D0,I4]) (b3f w b n)
        ·exact key false (by simp[D0,I4,hm]) (b3e w b n m hm)
       ·exact key false (by simp[D0,I4,h0,hkj,hj]) (b3d w b j n m (by omega) (by omega) (by omega) (by omega))
      ·exact key false (by simp[D0,I4,h0,hkj,h5,h2,h3,h4]) (b4d w b k j n m (by omega) (by omega) (by omega) (by omega) (by omega) (by omega))
end Kx
end Go.Proofs.YtdhophglnhcjbaaGreatDoor
