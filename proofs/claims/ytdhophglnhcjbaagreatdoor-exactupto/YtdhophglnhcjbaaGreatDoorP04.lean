/- P04: a part of the proof that the last text tells. -/
import Derived.Test.YtdhophglnhcjbaaGreatDoorP03
set_option linter.all false
set_option maxRecDepth 100000
set_option maxHeartbeats 40000000
open Go.Proofs.Tryz
namespace Go.Proofs.YtdhophglnhcjbaaGreatDoor
section
theorem c7l{P:Prop}(h:P:=by
 unfold Hid;rw[HA.out,hTn];have:(xs.map ty).drop s=[]:=List.eq_nil_of_length_eq_zero (by rw[List.length_drop,List.length_map,←HSN.out];omega);rw[this];rfl):P:=h
theorem a0v{P:Prop}(h:P:=by
 have I1:=(HIb.out _ HGW.out).c1;have I2:=(HIb.out _ HGW.out).c2;have I3:=(HIb.out _ HGW.out).c3;have htz:tn=0:=by omega
 subst htz;have hTn:=List.eq_nil_of_length_eq_zero HTN.out.symm
 have hA:Hid (ans=O6 L i []):=by
  exact c7l
 go_wp2_with fail
 go_loopw [16,56] (fun tv c wr=>tv= .slice none 0 0∧c= .int .i64 0∧wr=w2) (fun _ _ _=>0)
 case atStart=>exact⟨rfl,rfl,rfl⟩
 case round=>
  obtain⟨rfl,rfl,hwr⟩:=hrel;subst hwr;go_wp2_with (go_at_call 296;refine(HF.out _ [] none 0 HW2.out).mono ?_;rintro e w8 ⟨rfl,hg8⟩)
  all_goals exact bodyPost_ret (v:= .bool (O6 L i [])) (by simp[results,results252,go_sem]) rfl ⟨by rw[hA.out],A1 HW2.out hg8⟩):P:=h
theorem a3a{P:Prop}(h:P:=by
 rw[World.size_alloc]at this;exact this):P:=h
theorem a5p{P:Prop}(h:P:=by
 go_enter func295,ntmps295;go_wp2_with fail
 all_goals exact bodyPost_ret (v:= .bool true) (by simp[results,results295,go_sem]) rfl ⟨rfl,HG0.out⟩):P:=h
theorem a5s{P:Prop}(h:P:=by
 have h5:=a0T C9 2 (fun _=>rfl) TT j hjT 0 (by omega);have h6:=hotr.cells (g:=gt) (by rw[hgt];rfl) (j*2) (.int .i64 yt.kind) (by rw[Nat.add_zero]at h5;rw[h5,hyt];simp[C9,hjT]);rcases Nat.eq_zero_or_pos (j*2)with e2|e2<;>simpa[Addr.add_lit]using h6):P:=h
theorem a6u{P:Prop}(h:P:=by
 exact⟨hg5.cell Q0 A5,hg5.cell Q1 A5,hg5.cell Q2 A5,hg5.cell Q3 A5,hg5.cell Q4 A5⟩):P:=h
theorem a6y{P:Prop}(h:P:=by
 unfold j8;cases eb with
 |true=>
  have:=HPP.out rfl;exact⟨_,by simp[show¬tn≤n by omega];rfl⟩
 |false=>exact⟨_,by
  have:(decide (tn≤n)&&decide ((n:Int)-tn+pn≤m.stack))=false:=by simp;omega
  simp only[this];rfl⟩):P:=h
theorem b4a{P:Prop}(h:P:=by
 rw[List.flatMap_cons,List.length_append,ih,List.length_cons];simp only[O8,List.length_cons,List.length_nil];omega):P:=h
theorem c5b{P:Prop}(h:P:=by
 have:=hown.kept hs (.inr (I4 hown hb7 (by decide)));simp only[List.length_append,List.length_cons,List.length_nil,Nat.zero_add,List.flatMap_append,List.flatMap_cons,List.flatMap_nil,List.append_nil];exact this):P:=h
theorem c5k{P:Prop}(h:P:=by
 have h5:=a0T C9 2 (fun _=>rfl) TT j hjT 1 (by omega);have h6:=hotr.cells (g:=gt) (by rw[hgt];rfl) (j*2+1) (.string yt.name) (by rw[h5,hyt];simp[C9,hjT]);simpa[Addr.add_lit]using h6):P:=h
theorem c5m{P:Prop}(h:P:=by
 have:=A3.new (w.alloc (.cells (mV m pa pk ca ck ha hk) 102)) #[.int .i64 i.op, .int .i64 i.a, .string i.cls, .string i.mem] 120;rw[World.size_alloc]at this;exact this.keep hW A5):P:=h
theorem c5q{P:Prop}(h:P:=by
 have hjz:j<zt.length:=by rw[HZL.out];exact hlt
 have hz:zt[j]=xt:=by have:=HZJ.out;simpa[hjz]using this
 rw[List.take_succ_eq_append_getElem hjz,hz,List.flatMap_append];rfl):P:=h
theorem c6b{P:Prop}(h:P:=by
 unfold j8;cases eb with
 |true=>exact⟨_,by simp[hroom.1];rfl⟩
 |false=>exact⟨_,by simp[hroom.1,show(n:Int)-tn+pn≤m.stack by omega];rfl⟩):P:=h
theorem c6g{P:Prop}(h:P:=by
 obtain⟨p',e',-,hc⟩:=hs.out.keep hW (s+j) hj;cases e';rw[hadd];exact⟨hc 0 _ rfl,by rw[C0 p0 ((s+j)*2) 0];exact hc 1 _ rfl⟩):P:=h
theorem c6i{P:Prop}(h:P:=by
 exact⟨0,none,0,rfl,rfl,Nat.zero_le _,by simpa using World.ownsRow_nil _ _ _ _,fun r hr=>absurd hr (Nat.not_lt_zero r),I8 _ _⟩):P:=h
theorem c6j{P:Prop}(h:P:=by
 rw[hzt]at ht;obtain⟨x,hx,rfl⟩:=List.mem_map.1 (List.mem_of_mem_drop ht);have:=HTO.out x (.inl hx);exact⟨this.1,this.2.1⟩):P:=h
theorem c6m{P:Prop}(h:P:=by
 unfold Hid;rw[HA2.out,a4w (by rw[HZL.out,←HTN.out]) (fun r hr=>HALL.out r (by rw[HZL.out]at hr;exact hr))];rfl):P:=h
theorem c6p{P:Prop}(h:P:=by
 rw[HN.out];cases hxs:xs with
 |nil=>rfl
 |cons x xs'=>
  obtain⟨p',e',-⟩:=hs.out 0 (by rw[hxs];simp);cases e'):P:=h
theorem c6q{P:Prop}(h:P:=by
 rcases List.mem_append.1 hp with hp|hp
 ·exact a7o h1 h2 (hs.work p hp)
 ·rw[List.mem_singleton.1 hp,hq];simp):P:=h
theorem c6s{P:Prop}(h:P:=by
 rw[hzt,List.getD_eq_getElem?_getD,List.getElem?_drop,List.getElem?_map,List.getElem?_eq_getElem hr];rfl):P:=h
theorem c6u{P:Prop}(h:P:=by
 unfold Hid;rw[HA2.out,a8a j (by rw[HZL.out];exact hlt) hjT (by rw[HZJ.out,←HYT.out];exact hu')];rfl):P:=h
theorem c7d{P:Prop}(h:P:=by
 simp only[List.length_append,List.length_cons,List.length_nil,Nat.zero_add];exact this):P:=h
theorem c7h{P:Prop}(h:P:=by
 by_cases e:r=j
 ·subst e;rw[HZJ.out,←HYT.out];exact hu
 ·exact HALL.out r (by omega)):P:=h
theorem c7i{P:Prop}(h:P:=by
 rw[hq]at hk;split at hk
 ·rename_i e;rw[←e.1,←e.2];exact hr
 ·exact hs.snd b k hk):P:=h
theorem c7k{P:Prop}(h:P:=by
 exact⟨j+1,a7,k7,by go_num,rfl,by omega,by rw[htk];exact hown7,HUA.out,hg57⟩):P:=h
end
section
open Go.RowKit Go.Shelf Cf
variable {P:Program}
variable {ops:Array Oper}
variable {Q:Exit→Act→World→Prop}
variable {S:World→Prop}
variable {oi:Oper}
variable {v:Value}
variable {fuel:Nat}
variable {listed:Array Bool}
variable {a:Act}
variable {w:World}
theorem tkR{md:Region.Mode}(i:Nat)(h7:S w)
 (h1:ops[i]? =some oi:=by rfl) (h2:Region.noSelect ops=true:=by kernel_rfl) (h3:Region.free md ops listed i=true:=by kernel_rfl) (h4:(Region.ready md ops listed).contains i=true:=by kernel_rfl)
 (h5:∀(c:List PanicEntry) (a:Act) (w:World),Q (Exit.panic c) (a.put oi.dst v) w→Q (Exit.panic c) a w:=by exact fun _ _ _ h=>h)
 (hv:YieldsIf P ops S oi v a:=by exact Or.inl ⟨by rfl,by(intro w hSw;(try dsimp only at hSw);go_simp;try with_reducible rfl)⟩)
 (k:wpAnyH P md ops Q S fuel (listed.setIfInBounds i true) (a.put oi.dst v) w):wpAnyH P md ops Q S (fuel+1) listed a w:=
 wpAnyH_take h1 h2 h3 h4 h5 hv h7 k
theorem tkT{md:Region.Mode}(i:Nat)
 (h1:ops[i]? =some oi:=by rfl) (h2:Region.noSelect ops=true:=by kernel_rfl) (h3:Region.free md ops listed i=true:=by kernel_rfl) (h4:(Region.ready md ops listed).contains i=true:=by kernel_rfl)
 (h5:∀(c:List PanicEntry) (a:Act) (w:World),Q (Exit.panic c) (a.put oi.dst v) w→Q (Exit.panic c) a w:=by exact fun _ _ _ h=>h)
 (hv:YieldsIf P ops S oi v a) (k:wpAnyH P md ops Q S fuel (listed.setIfInBounds i true) (a.put oi.dst v) w) (h7:S w:=by assumption):wpAnyH P md ops Q S (fuel+1) listed a w:=
 wpAnyH_take h1 h2 h3 h4 h5 hv h7 k
theorem A4{md:Region.Mode}(i:Nat){G:Prop}(g:G)(h7:S w:=by assumption)
 (h1:ops[i]? =some oi:=by rfl) (h2:Region.noSelect ops=true:=by kernel_rfl) (h3:Region.free md ops listed i=true:=by kernel_rfl) (h4:(Region.ready md ops listed).contains i=true:=by kernel_rfl)
 (h5:∀(c:List PanicEntry) (a:Act) (w:World),Q (Exit.panic c) (a.put oi.dst v) w→Q (Exit.panic c) a w:=by exact fun _ _ _ h=>h)
 (hv:YieldsIf P ops S oi v a:=by exact Or.inl ⟨by rfl,by(intro w hSw;(try dsimp only at hSw);go_simp;try with_reducible rfl)⟩)
 (k:G→wpAnyH P md ops Q S fuel (listed.setIfInBounds i true) (a.put oi.dst v) w:=by(intro k;(try simp only[Act.put,lz]);exact k)):wpAnyH P md ops Q S (fuel+1) listed a w:=
 wpAnyH_take h1 h2 h3 h4 h5 hv h7 (k g)
theorem T6{md:Region.Mode}(i:Nat){o:Oper}
 (h:∀K':Act→World→Prop,Shut (∀a w,S w→(S w→wpAnyH P md ops Q S fuel (listed.setIfInBounds i true) a w)→K' a w)→if Region.wanted o (yielded ops a.tmps)=true then Oper.wp P o a w K' Q else K' (a.put o.dst undef) w)
 (hr:Region.ready md ops listed=[i]:=by kernel_rfl) (ho:ops[i]? =some o:=by rfl):wpAnyH P md ops Q S (fuel+1) listed a w:=
 wpAnyH_ready hr (by simp) (AllReadyH.cons ho h AllReadyH.nil)
namespace Kx
variable {w:World}
variable {b g o:Nat}
variable {v v0 v1:Value}
theorem a4L{v2:Value}(h:w.cell? ⟨b,o,none⟩=some v)(hne:b≠g):(((w.setCell ⟨g,0,none⟩ v0).setCell ⟨g,1,none⟩ v1).setCell ⟨g,2,none⟩ v2).cell? ⟨b,o,none⟩=some v:=
 (A9 _ ⟨g,2,none⟩ v2).cell ((A9 _ ⟨g,1,none⟩ v1).cell ((A9 w ⟨g,0,none⟩ v0).cell h (fun e=>hne (Option.some.inj e))) (fun e=>hne (Option.some.inj e))) (fun e=>hne (Option.some.inj e))
def U2(i:In):Bool:=i.op==20||i.op==30
def a6s(w':World)(base:Nat)(L:List Cl)(m:Me)(i:In)(v:Value):Prop:=∃ta tk ua uk,v= .agg #[.slice ta (F6 L m i).length tk, .slice ua (C6 L i).length uk, .bool (U2 i)]∧w'.ownsRow base 98 2 (.slice ta (F6 L m i).length tk) (F6 L m i).length ((F6 L m i).flatMap C9)∧w'.ownsRow base 98 2 (.slice ua (C6 L i).length uk) (C6 L i).length ((C6 L i).flatMap C9)
theorem a7Y(w:World)(lim b:Nat)(L:List Cl)(p:Addr)(cap m1 m2 m3:Nat)(q:Nat→Qs)(h:Hid (Lk w lim b L p cap m1 m2 m3 q))(hl:lim≤w.heap.size)(m:Me)(pa ca ha:Option Addr)(pk ck hk:Nat)(i:In)(hi:a4n L i):
 Calls prog 197 #[.pointer (some ⟨b,0,none⟩), .agg (mV m pa pk ca ck ha hk), .agg #[.int .i64 i.op, .int .i64 i.a, .string i.cls, .string i.mem]] w fun e w'=>w.grownBy w' none∧∃v,e= .returned v∧a6s w' w.heap.size L m i v:=by
 have HT:Hid (∀W,w.grownBy W none→Calls prog 272 #[.pointer (some ⟨b,0,none⟩), .agg (mV m pa pk ca ck ha hk), .agg #[.int .i64 i.op, .int .i64 i.a, .string i.cls, .string i.mem]] W fun e w'=>W.grownBy w' none∧∃v,e= .returned v∧w'.ownsRow W.heap.size 98 2 v (F6 L m i).length ((F6 L m i).flatMap C9)):=
  fun W hW=>b7B W lim b L p cap m1 m2 m3 q (h.out.keep hW hl) (Nat.le_trans hl hW.size) m pa ca ha pk ck hk i hi
 have HP:Hid (∀W,w.grownBy W none→Calls prog 273 #[.pointer (some ⟨b,0,none⟩), .agg #[.int .i64 i.op, .int .i64 i.a, .string i.cls, .string i.mem]] W fun e w'=>W.grownBy w' none∧∃v,e= .returned v∧w'.ownsRow W.heap.size 98 2 v (C6 L i).length ((C6 L i).flatMap C9)):=
  fun W hW=>b9m W lim b L p cap m1 m2 m3 q (h.out.keep hW hl) (Nat.le_trans hl hW.size) i hi.two
 unfold a6s
 have HE:Hid (U2 i=(decide ((i.op:Int)=20)||decide ((i.op:Int)=30))):=by
  unfold Hid U2;rw[Bool.eq_iff_iff];simp;omega
 obtain⟨eb,heb⟩:∃eb,eb=U2 i:=⟨_,rfl⟩
 rw[←heb]at HE⊢;clear heb;obtain⟨TT,hTT⟩:∃TT,TT=F6 L m i:=⟨_,rfl⟩
 obtain⟨PP,hPP⟩:∃PP,PP=C6 L i:=⟨_,rfl⟩
 rw[←hTT]at HT⊢;rw[←hPP]at HP⊢;clear hTT hPP h hl hi;have HG0:Hid (w.grownBy (((w.alloc (.cells (mV m pa pk ca ck ha hk) 102)).alloc (.cells #[.int .i64 i.op, .int .i64 i.a, .string i.cls, .string i.mem] 120)).alloc (.cells #[.slice none 0 0, .slice none 0 0, .bool false] 315)) none):=A1 (A1 (A2 _ _ _) (A2 _ _ _)) (A2 _ _ _);have HX:Hid (w.heap.size+2<(((w.alloc (.cells (mV m pa pk ca ck ha hk) 102)).alloc (.cells #[.int .i64 i.op, .int .i64 i.a, .string i.cls, .string i.mem] 120)).alloc (.cells #[.slice none 0 0, .slice none 0 0, .bool false] 315)).drew.heap.size):=by(unfold Hid;simp[c0P])
 have HB:Hid (A3 (((w.alloc (.cells (mV m pa pk ca ck ha hk) 102)).alloc (.cells #[.int .i64 i.op, .int .i64 i.a, .string i.cls, .string i.mem] 120)).alloc (.cells #[.slice none 0 0, .slice none 0 0, .bool false] 315)).drew (w.heap.size+2) #[.slice none 0 0, .slice none 0 0, .bool false] 315):=by
  have:=A3.new ((w.alloc (.cells (mV m pa pk ca ck ha hk) 102)).alloc (.cells #[.int .i64 i.op, .int .i64 i.a, .string i.cls, .string i.mem] 120)) #[.slice none 0 0, .slice none 0 0, .bool false] 315;simp only[World.size_alloc]at this;exact this
 have HM:Hid (A3 (((w.alloc (.cells (mV m pa pk ca ck ha hk) 102)).alloc (.cells #[.int .i64 i.op, .int .i64 i.a, .string i.cls, .string i.mem] 120)).alloc (.cells #[.slice none 0 0, .slice none 0 0, .bool false] 315)).drew w.heap.size (mV m pa pk ca ck ha hk) 102):=(((A3.new w (mV m pa pk ca ck ha hk) 102).keep (A2 _ _ none) A5).keep (A2 _ _ none) A5).keep (B6 _ none) A5
 have HI:Hid (A3 (((w.alloc (.cells (mV m pa pk ca ck ha hk) 102)).alloc (.cells #[.int .i64 i.op, .int .i64 i.a, .string i.cls, .string i.mem] 120)).alloc (.cells #[.slice none 0 0, .slice none 0 0, .bool false] 315)).drew (w.heap.size+1) #[.int .i64 i.op, .int .i64 i.a, .string i.cls, .string i.mem] 120):=by
  have:=(A3.new (w.alloc (.cells (mV m pa pk ca ck ha hk) 102)) #[.int .i64 i.op, .int .i64 i.a, .string i.cls, .string i.mem] 120).keep (A2 _ (.cells #[.slice none 0 0, .slice none 0 0, .bool false] 315) none) A5;exact a3a
 have hne12:w.heap.size+1≠w.heap.size+1+1:=by omega
 have hne02:¬w.heap.size=w.heap.size+1+1:=by omega
 by_cases h20:(i.op:Int)=20
 ·obtain⟨op,a,cs,ms⟩:=i;obtain rfl:op=20:=by dsimp only at h20;omega
  clear h20;obtain rfl:eb=true:=HE.out;simp only[Int.cast_ofNat_Int]at HT HP HG0 HX HB HM HI⊢;obtain⟨Qm0,Qm1,Qm2,Qm3,Qm4,Qm5,Qm6,Qm7⟩:=HM.out.q8;obtain⟨Qi0,Qi1,Qi2,Qi3⟩:=HI.out.q4;go_enter func197,ntmps197;go_upto_region 1 with fail
  refine wp_region_held_drew (S:=(fun w'=>w'.cell? ⟨w.heap.size,0,none⟩=some (.string m.name)∧w'.cell? ⟨w.heap.size,1,none⟩=some (.slice pa m.params.length pk)∧w'.cell? ⟨w.heap.size,2,none⟩=some (.int .i64 m.ret.kind)∧w'.cell? ⟨w.heap.size,3,none⟩=some (.string m.ret.name)∧w'.cell? ⟨w.heap.size,4,none⟩=some (.int .i64 m.stack)∧w'.cell? ⟨w.heap.size,5,none⟩=some (.int .i64 m.locals)∧w'.cell? ⟨w.heap.size,6,none⟩=some (.slice ca m.code.length ck)∧w'.cell? ⟨w.heap.size,7,none⟩=some (.slice ha m.handlers.length hk)∧w'.cell? ⟨w.heap.size+1,0,none⟩=some (.int .i64 20)∧w'.cell? ⟨w.heap.size+1,1,none⟩=some (.int .i64 a)∧w'.cell? ⟨w.heap.size+1,2,none⟩=some (.string cs)∧w'.cell? ⟨w.heap.size+1,3,none⟩=some (.string ms))) (by kernel_rfl) ?hS0 (fun hHeld=> ?rest0)
  case hS0=>(try dsimp only);(first|(go_keep;done)|((repeat' apply And.intro)<;>first|(go_keep;done)|(refine a4L ?_ hne02;assumption)))
  refine tkR 7 (by assumption) (k:= ?_);try simp only[Act.put,List.setIfInBounds_toArray,List.set_cons_zero,List.set_cons_succ]
  refine tkR 8 (by assumption) (k:= ?_);try simp only[Act.put,List.setIfInBounds_toArray,List.set_cons_zero,List.set_cons_succ]
  refine tkR 9 (by assumption) (k:= ?_);try simp only[Act.put,List.setIfInBounds_toArray,List.set_cons_zero,List.set_cons_succ]
  refine tkR 0 (by assumption) (k:= ?_);try simp only[Act.put,List.setIfInBounds_toArray,List.set_cons_zero,List.set_cons_succ]
  refine tkR 1 (by assumption) (k:= ?_);try simp only[Act.put,List.setIfInBounds_toArray,List.set_cons_zero,List.set_cons_succ]
  refine tkR 2 (by assumption) (k:= ?_);try simp only[Act.put,List.setIfInBounds_toArray,List.set_cons_zero,List.set_cons_succ]
  refine tkR 4 (by assumption) (k:= ?_);try simp only[Act.put,List.setIfInBounds_toArray,List.set_cons_zero,List.set_cons_succ]
  refine tkR 5 (by assumption) (k:= ?_);try simp only[Act.put,List.setIfInBounds_toArray,List.set_cons_zero,List.set_cons_succ]
  refine T6 3 fun K hK=> ?_;go_simp
  go_wp2_with (go_at_call 272;refine(HT.out _ (A1 HG0.out (B6 _ _))).mono ?_;rintro e w3 ⟨hg3,v3,rfl,ho3⟩;obtain⟨a3,k3,rfl⟩:=F0 ho3;have sm0:=hg3.cell Qm0 A5;have sm1:=hg3.cell Qm1 A5;have sm2:=hg3.cell Qm2 A5;have sm3:=hg3.cell Qm3 A5;have sm4:=hg3.cell Qm4 A5;have sm5:=hg3.cell Qm5 A5;have sm6:=hg3.cell Qm6 A5;have sm7:=hg3.cell Qm7 A5;have si0:=hg3.cell Qi0 A5;have si1:=hg3.cell Qi1 A5;have si2:=hg3.cell Qi2 A5;have si3:=hg3.cell Qi3 A5;have hv3:=Nat.lt_of_lt_of_le HX.out hg3.size;have hv31:=Nat.lt_of_succ_lt hv3;have hv30:=Nat.lt_of_succ_lt hv31)
  refine hK.out _ _ ?_ (fun hHeld=> ?_)
  case refine_1=>((try dsimp only);(first|(go_keep;done)|((repeat' apply And.intro)<;>first|(go_keep;done)|(refine a4L ?_ hne02;assumption))))
  try clear hK K
  try simp only[Act.put,List.setIfInBounds_toArray,List.set_cons_zero,List.set_cons_succ]
  refine T6 6 fun K hK=> ?_;go_simp
  go_wp2_with (go_at_call 273;refine(HP.out _ (A1 (A1 HG0.out (B6 _ _)) hg3)).mono ?_;rintro e w4 ⟨hg4,v4,rfl,ho4⟩;obtain⟨a4,k4,rfl⟩:=F0 ho4;have rm0:=hg4.cell sm0 A5;have rm1:=hg4.cell sm1 A5;have rm2:=hg4.cell sm2 A5;have rm3:=hg4.cell sm3 A5;have rm4:=hg4.cell sm4 A5;have rm5:=hg4.cell sm5 A5;have rm6:=hg4.cell sm6 A5;have rm7:=hg4.cell sm7 A5;have ri0:=hg4.cell si0 A5;have ri1:=hg4.cell si1 A5;have ri2:=hg4.cell si2 A5;have ri3:=hg4.cell si3 A5;have HB4:=(HB.out.keep hg3 A5).keep hg4 A5;obtain⟨g0,g1,g2⟩:=HB4.q3;obtain⟨f0,f1,f2⟩:=HB4.z3;have hv4:=Nat.lt_of_lt_of_le hv3 hg4.size;have hv41:=Nat.lt_of_succ_lt hv4;have hv40:=Nat.lt_of_succ_lt hv41)
  refine hK.out _ _ ?_ (fun hHeld=> ?_)
  case refine_1=>((try dsimp only);(first|(go_keep;done)|((repeat' apply And.intro)<;>first|(go_keep;done)|(refine a4L ?_ hne02;assumption))))
  try clear hK K
  try simp only[Act.put,List.setIfInBounds_toArray,List.set_cons_zero,List.set_cons_succ]
  refine tkR 10 (by assumption) (k:= ?_);try simp only[Act.put,List.setIfInBounds_toArray,List.set_cons_zero,List.set_cons_succ]
  refine tkT 11 (v:=undef) (hv:= .inr ⟨by rfl,rfl⟩) (k:= ?r11);try simp only[Act.put,List.setIfInBounds_toArray,List.set_cons_zero,List.set_cons_succ]
  refine tkT 12 (v:=undef) (hv:= .inr ⟨by rfl,rfl⟩) (k:= ?r12);try simp only[Act.put,List.setIfInBounds_toArray,List.set_cons_zero,List.set_cons_succ]
  refine tkT 13 (v:=undef) (hv:= .inr ⟨by rfl,rfl⟩) (k:= ?r13);try simp only[Act.put,List.setIfInBounds_toArray,List.set_cons_zero,List.set_cons_succ]
  refine tkR 14 (by assumption) (k:= ?_);try simp only[Act.put,List.setIfInBounds_toArray,List.set_cons_zero,List.set_cons_succ]
  refine tkR 15 (by assumption) (k:= ?_);try simp only[Act.put,List.setIfInBounds_toArray,List.set_cons_zero,List.set_cons_succ]
  refine T6 16 fun K hK=> ?_;go_simp
  refine hK.out _ _ ?_ (fun hHeld=> ?_)
  case refine_1=>((try dsimp only);(first|(go_keep;done)|((repeat' apply And.intro)<;>first|(go_keep;done)|(refine a4L ?_ hne02;assumption))))
  try clear hK K
  try simp only[Act.put,List.setIfInBounds_toArray,List.set_cons_zero,List.set_cons_succ]
  refine wpAnyH_done (by kernel_rfl) ?_ _
  all_goals go_wp2_with fail
  all_goals
   have hb7:A3 _ (w.heap.size+1+1) #[.slice a3 TT.length k3, .slice a4 PP.length k4, .bool true] 315:=((HB4.set 0 (.slice a3 TT.length k3)).set 1 (.slice a4 PP.length k4)).set 2 (.bool true);have hg6:w4.grownBy (((w4.setCell ⟨w.heap.size+1+1,0,none⟩ (.slice a3 TT.length k3)).setCell ⟨w.heap.size+1+1,1,none⟩ (.slice a4 PP.length k4)).setCell ⟨w.heap.size+1+1,2,none⟩ (.bool true)) (some (w.heap.size+1+1)):=A1 (A1 (A9 _ ⟨w.heap.size+1+1,0,none⟩ _) (A9 _ ⟨w.heap.size+1+1,1,none⟩ _)) (A9 _ ⟨w.heap.size+1+1,2,none⟩ _);have hg7:=D5 (A1 (A1 (A1 HG0.out (B6 _ _)) hg3) hg4) hg6 (fun k e=> .inl (by cases e;omega));have hn3:=ho3.kept hg4 (by cases hv:(Value.slice a3 TT.length k3).ownBlock<;>simp);have hn3':=(ho3.kept hg4 (by cases hv:(Value.slice a3 TT.length k3).ownBlock<;>simp)).kept hg6 (.inr (K0 ho3 (Nat.lt_of_succ_le HX.out)));have hn4':=ho4.kept hg6 (.inr (K0 ho4 (by omega)));generalize (((w4.setCell ⟨w.heap.size+1+1,0,none⟩ (.slice a3 TT.length k3)).setCell ⟨w.heap.size+1+1,1,none⟩ (.slice a4 PP.length k4)).setCell ⟨w.heap.size+1+1,2,none⟩ (.bool true))=W7 at hb7 hg7 hn3' hn4'⊢;obtain⟨z0,z1,z2⟩:=hb7.q3;exact bodyPost_ret (v:= .agg #[.slice a3 TT.length k3, .slice a4 PP.length k4, .bool true]) (by simp[results,results197,go_sem,z0,z1,z2]) rfl ⟨hg7,_,rfl,_,_,_,_,rfl,P3 hn3' HG0.out.size,P3 hn4' (by have:=HG0.out.size;have:=hg3.size;exact Nat.le_trans HG0.out.size hg3.size)⟩
 ·by_cases h30:(i.op:Int)=30
  ·obtain⟨op,a,cs,ms⟩:=i;obtain rfl:op=30:=by dsimp only at h30;omega
   clear h30 h20;have h320:¬(30:Int)=20:=by omega
   obtain rfl:eb=true:=HE.out;simp only[Int.cast_ofNat_Int]at HT HP HG0 HX HB HM HI⊢;obtain⟨Qm0,Qm1,Qm2,Qm3,Qm4,Qm5,Qm6,Qm7⟩:=HM.out.q8;obtain⟨Qi0,Qi1,Qi2,Qi3⟩:=HI.out.q4;go_enter func197,ntmps197;go_upto_region 1 with fail
   go_region_held2 (fun w'=>w'.cell? ⟨w.heap.size,0,none⟩=some (.string m.name)∧w'.cell? ⟨w.heap.size,1,none⟩=some (.slice pa m.params.length pk)∧w'.cell? ⟨w.heap.size,2,none⟩=some (.int .i64 m.ret.kind)∧w'.cell? ⟨w.heap.size,3,none⟩=some (.string m.ret.name)∧w'.cell? ⟨w.heap.size,4,none⟩=some (.int .i64 m.stack)∧w'.cell? ⟨w.heap.size,5,none⟩=some (.int .i64 m.locals)∧w'.cell? ⟨w.heap.size,6,none⟩=some (.slice ca m.code.length ck)∧w'.cell? ⟨w.heap.size,7,none⟩=some (.slice ha m.handlers.length hk)∧w'.cell? ⟨w.heap.size+1,0,none⟩=some (.int .i64 30)∧w'.cell? ⟨w.heap.size+1,1,none⟩=some (.int .i64 a)∧w'.cell? ⟨w.heap.size+1,2,none⟩=some (.string cs)∧w'.cell? ⟨w.heap.size+1,3,none⟩=some (.string ms)) (first|(go_keep;done)|((repeat' apply And.intro)<;>first|(go_keep;done)|(refine a4L ?_ hne02;assumption))) (first
    |(go_at_call 272;refine(HT.out _ (A1 HG0.out (B6 _ _))).mono ?_;rintro e w3 ⟨hg3,v3,rfl,ho3⟩;obtain⟨a3,k3,rfl⟩:=F0 ho3;have sm0:=hg3.cell Qm0 A5;have sm1:=hg3.cell Qm1 A5;have sm2:=hg3.cell Qm2 A5;have sm3:=hg3.cell Qm3 A5;have sm4:=hg3.cell Qm4 A5;have sm5:=hg3.cell Qm5 A5;have sm6:=hg3.cell Qm6 A5;have sm7:=hg3.cell Qm7 A5;have si0:=hg3.cell Qi0 A5;have si1:=hg3.cell Qi1 A5;have si2:=hg3.cell Qi2 A5;have si3:=hg3.cell Qi3 A5;have hv3:=Nat.lt_of_lt_of_le HX.out hg3.size;have hv31:=Nat.lt_of_succ_lt hv3;have hv30:=Nat.lt_of_succ_lt hv31)
    |(go_at_call 273;refine(HP.out _ (A1 (A1 HG0.out (B6 _ _)) hg3)).mono ?_;rintro e w4 ⟨hg4,v4,rfl,ho4⟩;obtain⟨a4,k4,rfl⟩:=F0 ho4;have rm0:=hg4.cell sm0 A5;have rm1:=hg4.cell sm1 A5;have rm2:=hg4.cell sm2 A5;have rm3:=hg4.cell sm3 A5;have rm4:=hg4.cell sm4 A5;have rm5:=hg4.cell sm5 A5;have rm6:=hg4.cell sm6 A5;have rm7:=hg4.cell sm7 A5;have ri0:=hg4.cell si0 A5;have ri1:=hg4.cell si1 A5;have ri2:=hg4.cell si2 A5;have ri3:=hg4.cell si3 A5;have HB4:=(HB.out.keep hg3 A5).keep hg4 A5;obtain⟨g0,g1,g2⟩:=HB4.q3;obtain⟨f0,f1,f2⟩:=HB4.z3;have hv4:=Nat.lt_of_lt_of_le hv3 hg4.size;have hv41:=Nat.lt_of_succ_lt hv4;have hv40:=Nat.lt_of_succ_lt hv41))
   all_goals go_wp2_with fail
   all_goals
    have hb7:A3 _ (w.heap.size+1+1) #[.slice a3 TT.length k3, .slice a4 PP.length k4, .bool true] 315:=((HB4.set 0 (.slice a3 TT.length k3)).set 1 (.slice a4 PP.length k4)).set 2 (.bool true);have hg6:w4.grownBy (((w4.setCell ⟨w.heap.size+1+1,0,none⟩ (.slice a3 TT.length k3)).setCell ⟨w.heap.size+1+1,1,none⟩ (.slice a4 PP.length k4)).setCell ⟨w.heap.size+1+1,2,none⟩ (.bool true)) (some (w.heap.size+1+1)):=A1 (A1 (A9 _ ⟨w.heap.size+1+1,0,none⟩ _) (A9 _ ⟨w.heap.size+1+1,1,none⟩ _)) (A9 _ ⟨w.heap.size+1+1,2,none⟩ _);have hg7:=D5 (A1 (A1 (A1 HG0.out (B6 _ _)) hg3) hg4) hg6 (fun k e=> .inl (by cases e;omega));have hn3:=ho3.kept hg4 (by cases hv:(Value.slice a3 TT.length k3).ownBlock<;>simp);have hn3':=(ho3.kept hg4 (by cases hv:(Value.slice a3 TT.length k3).ownBlock<;>simp)).kept hg6 (.inr (K0 ho3 (Nat.lt_of_succ_le HX.out)));have hn4':=ho4.kept hg6 (.inr (K0 ho4 (by omega)));generalize (((w4.setCell ⟨w.heap.size+1+1,0,none⟩ (.slice a3 TT.length k3)).setCell ⟨w.heap.size+1+1,1,none⟩ (.slice a4 PP.length k4)).setCell ⟨w.heap.size+1+1,2,none⟩ (.bool true))=W7 at hb7 hg7 hn3' hn4'⊢;obtain⟨z0,z1,z2⟩:=hb7.q3;exact bodyPost_ret (v:= .agg #[.slice a3 TT.length k3, .slice a4 PP.length k4, .bool true]) (by simp[results,results197,go_sem,z0,z1,z2]) rfl ⟨hg7,_,rfl,_,_,_,_,rfl,P3 hn3' HG0.out.size,P3 hn4' (by have:=HG0.out.size;have:=hg3.size;exact Nat.le_trans HG0.out.size hg3.size)⟩
  ·obtain rfl:eb=false:=by rw[HE.out];simp[h20,h30]
   have d20:((i.op:Int)==20)=false:=by simp[h20]
   have d30:((i.op:Int)==30)=false:=by simp[h30]
   obtain⟨Qm0,Qm1,Qm2,Qm3,Qm4,Qm5,Qm6,Qm7⟩:=HM.out.q8;obtain⟨Qi0,Qi1,Qi2,Qi3⟩:=HI.out.q4;go_enter func197,ntmps197;go_upto_region 1 with fail
   go_region_held2 (fun w'=>w'.cell? ⟨w.heap.size,0,none⟩=some (.string m.name)∧w'.cell? ⟨w.heap.size,1,none⟩=some (.slice pa m.params.length pk)∧w'.cell? ⟨w.heap.size,2,none⟩=some (.int .i64 m.ret.kind)∧w'.cell? ⟨w.heap.size,3,none⟩=some (.string m.ret.name)∧w'.cell? ⟨w.heap.size,4,none⟩=some (.int .i64 m.stack)∧w'.cell? ⟨w.heap.size,5,none⟩=some (.int .i64 m.locals)∧w'.cell? ⟨w.heap.size,6,none⟩=some (.slice ca m.code.length ck)∧w'.cell? ⟨w.heap.size,7,none⟩=some (.slice ha m.handlers.length hk)∧w'.cell? ⟨w.heap.size+1,0,none⟩=some (.int .i64 i.op)∧w'.cell? ⟨w.heap.size+1,1,none⟩=some (.int .i64 i.a)∧w'.cell? ⟨w.heap.size+1,2,none⟩=some (.string i.cls)∧w'.cell? ⟨w.heap.size+1,3,none⟩=some (.string i.mem)) (first|(go_keep;done)|((repeat' apply And.intro)<;>first|(go_keep;done)|(refine a4L ?_ hne02;assumption))) (first
    |(go_at_call 272;refine(HT.out _ (A1 HG0.out (B6 _ _))).mono ?_;rintro e w3 ⟨hg3,v3,rfl,ho3⟩;obtain⟨a3,k3,rfl⟩:=F0 ho3;have sm0:=hg3.cell Qm0 A5;have sm1:=hg3.cell Qm1 A5;have sm2:=hg3.cell Qm2 A5;have sm3:=hg3.cell Qm3 A5;have sm4:=hg3.cell Qm4 A5;have sm5:=hg3.cell Qm5 A5;have sm6:=hg3.cell Qm6 A5;have sm7:=hg3.cell Qm7 A5;have si0:=hg3.cell Qi0 A5;have si1:=hg3.cell Qi1 A5;have si2:=hg3.cell Qi2 A5;have si3:=hg3.cell Qi3 A5;have hv3:=Nat.lt_of_lt_of_le HX.out hg3.size;have hv31:=Nat.lt_of_succ_lt hv3;have hv30:=Nat.lt_of_succ_lt hv31)
    |(go_at_call 273;refine(HP.out _ (A1 (A1 HG0.out (B6 _ _)) hg3)).mono ?_;rintro e w4 ⟨hg4,v4,rfl,ho4⟩;obtain⟨a4,k4,rfl⟩:=F0 ho4;have rm0:=hg4.cell sm0 A5;have rm1:=hg4.cell sm1 A5;have rm2:=hg4.cell sm2 A5;have rm3:=hg4.cell sm3 A5;have rm4:=hg4.cell sm4 A5;have rm5:=hg4.cell sm5 A5;have rm6:=hg4.cell sm6 A5;have rm7:=hg4.cell sm7 A5;have ri0:=hg4.cell si0 A5;have ri1:=hg4.cell si1 A5;have ri2:=hg4.cell si2 A5;have ri3:=hg4.cell si3 A5;have HB4:=(HB.out.keep hg3 A5).keep hg4 A5;obtain⟨g0,g1,g2⟩:=HB4.q3;obtain⟨f0,f1,f2⟩:=HB4.z3;have hv4:=Nat.lt_of_lt_of_le hv3 hg4.size;have hv41:=Nat.lt_of_succ_lt hv4;have hv40:=Nat.lt_of_succ_lt hv41))
   all_goals go_wp2_with fail
   all_goals
    have hb7:A3 _ (w.heap.size+1+1) #[.slice a3 TT.length k3, .slice a4 PP.length k4, .bool false] 315:=((HB4.set 0 (.slice a3 TT.length k3)).set 1 (.slice a4 PP.length k4)).set 2 (.bool false);have hg6:w4.grownBy (((w4.setCell ⟨w.heap.size+1+1,0,none⟩ (.slice a3 TT.length k3)).setCell ⟨w.heap.size+1+1,1,none⟩ (.slice a4 PP.length k4)).setCell ⟨w.heap.size+1+1,2,none⟩ (.bool false)) (some (w.heap.size+1+1)):=A1 (A1 (A9 _ ⟨w.heap.size+1+1,0,none⟩ _) (A9 _ ⟨w.heap.size+1+1,1,none⟩ _)) (A9 _ ⟨w.heap.size+1+1,2,none⟩ _);have hg7:=D5 (A1 (A1 (A1 HG0.out (B6 _ _)) hg3) hg4) hg6 (fun k e=> .inl (by cases e;omega));have hn3:=ho3.kept hg4 (by cases hv:(Value.slice a3 TT.length k3).ownBlock<;>simp);have hn3':=(ho3.kept hg4 (by cases hv:(Value.slice a3 TT.length k3).ownBlock<;>simp)).kept hg6 (.inr (K0 ho3 (Nat.lt_of_succ_le HX.out)));have hn4':=ho4.kept hg6 (.inr (K0 ho4 (by omega)));generalize (((w4.setCell ⟨w.heap.size+1+1,0,none⟩ (.slice a3 TT.length k3)).setCell ⟨w.heap.size+1+1,1,none⟩ (.slice a4 PP.length k4)).setCell ⟨w.heap.size+1+1,2,none⟩ (.bool false))=W7 at hb7 hg7 hn3' hn4'⊢;obtain⟨z0,z1,z2⟩:=hb7.q3;exact bodyPost_ret (v:= .agg #[.slice a3 TT.length k3, .slice a4 PP.length k4, .bool false]) (by simp[results,results197,go_sem,z0,z1,z2]) rfl ⟨hg7,_,rfl,_,_,_,_,rfl,P3 hn3' HG0.out.size,P3 hn4' (by have:=HG0.out.size;have:=hg3.size;exact Nat.le_trans HG0.out.size hg3.size)⟩
theorem b9F(w:World)(lim b:Nat)(L:List Cl)(p:Addr)(cap m1 m2 m3:Nat)(q:Nat→Qs)(h:Hid (Lk w lim b L p cap m1 m2 m3 q))(hl:lim≤w.heap.size)(c o:ByteArray)(hc:c.size≤maxLen):Calls prog 240 #[.pointer (some ⟨b,0,none⟩), .string c, .string o] w fun e w'=>e= .returned (.bool (L6 L c o))∧w.grownBy w' none:=b8K w lim b L p cap m1 m2 m3 q h.out.kls hl h.out.up c o hc
theorem b0y(w:World)(lim b:Nat)(L:List Cl)(p:Addr)(cap m1 m2 m3:Nat)(q:Nat→Qs)(h:Hid (Lk w lim b L p cap m1 m2 m3 q))(hl:lim≤w.heap.size)(m:Me)(pa ca ha:Option Addr)(pk ck hk:Nat)(i:In)(h2:Op2 i):
 Calls prog 229 #[.pointer (some ⟨b,0,none⟩), .agg #[.string m.name, .slice pa m.params.length pk, .int .i64 m.ret.kind, .string m.ret.name, .int .i64 m.stack, .int .i64 m.locals, .slice ca m.code.length ck, .slice ha m.handlers.length hk], .agg #[.int .i64 i.op, .int .i64 i.a, .string i.cls, .string i.mem]] w fun e w'=>e= .returned (.bool (R4 L m i))∧w.grownBy w' none:=by
 obtain⟨op,a,cs,ms⟩:=i;obtain⟨mn,mp,⟨rk,rn⟩,mst,mlo,mco,mha⟩:=m;have h2:op=2∨op=20:=h2;dsimp only;generalize HTT:R4 L ⟨mn,mp,⟨rk,rn⟩,mst,mlo,mco,mha⟩ ⟨op,a,cs,ms⟩=TT;have HT:=A0 HTT;clear HTT;generalize mp.length=pn;generalize mha.length=hn;have HG0:Hid (w.grownBy ((w.alloc (.cells #[.string mn, .slice pa pn pk, .int .i64 rk, .string rn, .int .i64 mst, .int .i64 mlo, .slice ca mco.length ck, .slice ha hn hk] 102)).alloc (.cells #[.int .i64 op, .int .i64 a, .string cs, .string ms] 120)) none):=A1 (A2 _ _ _) (A2 _ _ _);clear h hl;go_enter func229,ntmps229;go_upto_region 3 with fail
 rcases h2 with rfl|rfl
 ·skip
  by_cases hh:a<(mlo:Int)
  ·go_wp2_with fail
   all_goals exact bodyPost_ret (v:= .bool true) (by simp[results,results229,go_sem,hh]) rfl ⟨by rw[←HT.out];simp[R4,hh],HG0.out⟩
  ·go_wp2_with fail
   all_goals exact bodyPost_ret (v:= .bool false) (by simp[results,results229,go_sem,hh]) rfl ⟨by rw[←HT.out];simp[R4,hh],HG0.out⟩
 ·have HN:Hid (TT=true):=HT.out.symm;go_wp2_with fail
  all_goals exact bodyPost_ret (v:= .bool true) (by simp[results,results229,go_sem]) rfl ⟨by rw[HN.out],HG0.out⟩
theorem a7g:F2.toList=[79,98,106,101,99,116]:=by simp[F2]
theorem b6r(w:World)(b:Nat)(k:Nat)(n:ByteArray):
 Calls prog 295 #[.pointer (some ⟨b,0,none⟩), .agg #[.int .i64 k, .string n], .agg #[.int .i64 k, .string n]] w fun e w'=>e= .returned (.bool true)∧w.grownBy w' none:=by
 have HG0:Hid (w.grownBy ((w.alloc (.cells #[.int .i64 k, .string n] 98)).alloc (.cells #[.int .i64 k, .string n] 98)) none):=A1 (A2 _ _ _) (A2 _ _ _);go_enter func295,ntmps295;go_wp2_with fail
 all_goals exact bodyPost_ret (v:= .bool true) (by simp[results,results295,go_sem]) rfl ⟨rfl,HG0.out⟩
theorem a2u(w:World)(b:Nat)(k:Nat)(n m:ByteArray)(hk:¬(k:Int)=0):
 Calls prog 295 #[.pointer (some ⟨b,0,none⟩), .agg #[.int .i64 k, .string n], .agg #[.int .i64 0, .string m]] w fun e w'=>e= .returned (.bool true)∧w.grownBy w' none:=by
 have HG0:Hid (w.grownBy ((w.alloc (.cells #[.int .i64 k, .string n] 98)).alloc (.cells #[.int .i64 0, .string m] 98)) none):=A1 (A2 _ _ _) (A2 _ _ _);go_enter func295,ntmps295;go_wp2_with fail
 all_goals exact bodyPost_ret (v:= .bool true) (by simp[results,results295,go_sem]) rfl ⟨rfl,HG0.out⟩
theorem b6t(w:World)(b:Nat)(j:Nat)(n m:ByteArray)(h5:¬(5:Int)=j)(h0:¬(j:Int)=0):
 Calls prog 295 #[.pointer (some ⟨b,0,none⟩), .agg #[.int .i64 5, .string n], .agg #[.int .i64 j, .string m]] w fun e w'=>e= .returned (.bool (decide ((j:Int)=2)||decide ((j:Int)=3)||decide ((j:Int)=4)))∧w.grownBy w' none:=by
 have HG0:Hid (w.grownBy ((w.alloc (.cells #[.int .i64 5, .string n] 98)).alloc (.cells #[.int .i64 j, .string m] 98)) none):=A1 (A2 _ _ _) (A2 _ _ _);by_cases h2:(j:Int)=2
 ·obtain rfl:j=2:=by omega
  exact a5p
 ·by_cases h3:(j:Int)=3
  ·obtain rfl:j=3:=by omega
   exact a5p
  ·by_cases h4:(j:Int)=4
   ·obtain rfl:j=4:=by omega
    exact a5p
   ·go_enter func295,ntmps295;go_wp2_with fail
    all_goals exact bodyPost_ret (v:= .bool false) (by simp[results,results295,go_sem,h2,h3,h4]) rfl ⟨by simp[h2,h3,h4],HG0.out⟩
theorem b5s(w:World)(b:Nat)(n m:ByteArray)(hnm:¬n=m):
 Calls prog 295 #[.pointer (some ⟨b,0,none⟩), .agg #[.int .i64 5, .string n], .agg #[.int .i64 5, .string m]] w fun e w'=>e= .returned (.bool false)∧w.grownBy w' none:=by
 have hnb:=a2x hnm;have HG0:Hid (w.grownBy ((w.alloc (.cells #[.int .i64 5, .string n] 98)).alloc (.cells #[.int .i64 5, .string m] 98)) none):=A1 (A2 _ _ _) (A2 _ _ _);go_enter func295,ntmps295;go_wp2_with fail
 all_goals exact bodyPost_ret (v:= .bool false) (by simp[results,results295,go_sem]) rfl ⟨rfl,HG0.out⟩
theorem b7x(w:World)(b:Nat)(L:List Cl)(n m:ByteArray)(hnm:¬n=m)(HB:Hid (∀W,w.grownBy W none→Calls prog 240 #[.pointer (some ⟨b,0,none⟩), .string n, .string m] W fun e w'=>e= .returned (.bool (L6 L n m))∧W.grownBy w' none)):
 Calls prog 295 #[.pointer (some ⟨b,0,none⟩), .agg #[.int .i64 2, .string n], .agg #[.int .i64 2, .string m]] w fun e w'=>e= .returned (.bool (L6 L n m))∧w.grownBy w' none:=by
 have hnb:=a2x hnm;have HG0:Hid (w.grownBy ((w.alloc (.cells #[.int .i64 2, .string n] 98)).alloc (.cells #[.int .i64 2, .string m] 98)) none):=A1 (A2 _ _ _) (A2 _ _ _);go_enter func295,ntmps295;go_wp2_with (go_at_call 240;refine(HB.out _ HG0.out).mono ?_;rintro e w1 ⟨rfl,hg1⟩)
 all_goals exact bodyPost_ret (v:= .bool (L6 L n m)) (by simp[results,results295,go_sem]) rfl ⟨rfl,A1 HG0.out hg1⟩
theorem b6s(w:World)(b:Nat)(j:Nat)(n m:ByteArray)(h2:¬(2:Int)=j)(h2':¬(j:Int)=2)(h0:¬(j:Int)=0):
 Calls prog 295 #[.pointer (some ⟨b,0,none⟩), .agg #[.int .i64 2, .string n], .agg #[.int .i64 j, .string m]] w fun e w'=>e= .returned (.bool false)∧w.grownBy w' none:=by
 have HG0:Hid (w.grownBy ((w.alloc (.cells #[.int .i64 2, .string n] 98)).alloc (.cells #[.int .i64 j, .string m] 98)) none):=A1 (A2 _ _ _) (A2 _ _ _);go_enter func295,ntmps295;go_wp2_with fail
 all_goals exact bodyPost_ret (v:= .bool false) (by simp[results,results295,go_sem]) rfl ⟨rfl,HG0.out⟩
theorem b6u(w:World)(b:Nat)(k j:Nat)(n m:ByteArray)(hkj:¬(k:Int)=j)(h0:¬(j:Int)=0)(h5:¬(k:Int)=5)(h2:¬(k:Int)=2)(h3:¬(k:Int)=3)(h4:¬(k:Int)=4):
 Calls prog 295 #[.pointer (some ⟨b,0,none⟩), .agg #[.int .i64 k, .string n], .agg #[.int .i64 j, .string m]] w fun e w'=>e= .returned (.bool false)∧w.grownBy w' none:=by
 have HG0:Hid (w.grownBy ((w.alloc (.cells #[.int .i64 k, .string n] 98)).alloc (.cells #[.int .i64 j, .string m] 98)) none):=A1 (A2 _ _ _) (A2 _ _ _);go_enter func295,ntmps295;go_wp2_with fail
 all_goals exact bodyPost_ret (v:= .bool false) (by simp[results,results295,go_sem]) rfl ⟨rfl,HG0.out⟩
theorem b5t(w:World)(b:Nat)(k:Nat)(n m:ByteArray)(hnm:¬n=m)(h0:¬(k:Int)=0)(h5:¬(k:Int)=5)(h2:¬(k:Int)=2)(h3:¬(k:Int)=3)(h4:¬(k:Int)=4):
 Calls prog 295 #[.pointer (some ⟨b,0,none⟩), .agg #[.int .i64 k, .string n], .agg #[.int .i64 k, .string m]] w fun e w'=>e= .returned (.bool false)∧w.grownBy w' none:=by
 have hnb:=a2x hnm;have HG0:Hid (w.grownBy ((w.alloc (.cells #[.int .i64 k, .string n] 98)).alloc (.cells #[.int .i64 k, .string m] 98)) none):=A1 (A2 _ _ _) (A2 _ _ _);go_enter func295,ntmps295;go_wp2_with fail
 all_goals exact bodyPost_ret (v:= .bool false) (by simp[results,results295,go_sem]) rfl ⟨rfl,HG0.out⟩
theorem b0u(k:Int)(hk:k=3∨k=4)(w:World)(b:Nat)(n:ByteArray):
 Calls prog 295 #[.pointer (some ⟨b,0,none⟩), .agg #[.int .i64 k, .string n], .agg #[.int .i64 2, .string F2]] w fun e w'=>e= .returned (.bool true)∧w.grownBy w' none:=by
 have hmt:=a7g;have HG0:Hid (w.grownBy ((w.alloc (.cells #[.int .i64 k, .string n] 98)).alloc (.cells #[.int .i64 2, .string F2] 98)) none):=A1 (A2 _ _ _) (A2 _ _ _)
 have hq:A3 ((w.alloc (.cells #[.int .i64 k, .string n] 98)).alloc (.cells #[.int .i64 2, .string F2] 98)).drew (w.heap.size+1) #[.int .i64 2, .string F2] 98:=by
  have:=A3.new (w.alloc (.cells #[.int .i64 k, .string n] 98)) #[.int .i64 2, .string F2] 98;exact a3a
 obtain⟨Q0,Q1⟩:=hq.q2;clear hq;rcases hk with rfl|rfl
 all_goals
  go_enter func295,ntmps295;go_upto_region 10 with fail
  refine wp_region_held_drew (S:=(fun w'=>w'.cell? ⟨w.heap.size+1,0,none⟩=some (.int .i64 2)∧w'.cell? ⟨w.heap.size+1,1,none⟩=some (.string F2))) (by kernel_rfl) ⟨Q0,Q1⟩ (fun hHeld=> ?_);refine A4 0 ?_;refine T6 1 fun K hK=> ?_;go_simp
  go_wp2_with (go_at_call 267;refine(a1T _ _).mono ?_;rintro e w1 ⟨rfl,hg1⟩;have s0:=hg1.cell Q0 A5;have s1:=hg1.cell Q1 A5)
  refine hK.out _ _ ⟨s0,s1⟩ (fun hHeld=> ?_);try clear hK K
  try simp only[Act.put,lz]
  refine A4 2 ?_;refine A4 3 ?_;refine wpAnyH_done (by kernel_rfl) ?_ _;go_wp2_with fail
  all_goals exact bodyPost_ret (v:= .bool true) (by simp[results,results295,go_sem]) rfl ⟨rfl,A1 (A1 HG0.out (B6 _ _)) hg1⟩
theorem b0t(k:Int)(hk:k=3∨k=4)(w:World)(b:Nat)(n m:ByteArray)(hm:¬m=F2):
 Calls prog 295 #[.pointer (some ⟨b,0,none⟩), .agg #[.int .i64 k, .string n], .agg #[.int .i64 2, .string m]] w fun e w'=>e= .returned (.bool false)∧w.grownBy w' none:=by
 have hmt:¬m.toList=[79,98,106,101,99,116]:=fun e=>hm (a3p (e.trans a7g.symm))
 have HG0:Hid (w.grownBy ((w.alloc (.cells #[.int .i64 k, .string n] 98)).alloc (.cells #[.int .i64 2, .string m] 98)) none):=A1 (A2 _ _ _) (A2 _ _ _)
 have hq:A3 ((w.alloc (.cells #[.int .i64 k, .string n] 98)).alloc (.cells #[.int .i64 2, .string m] 98)).drew (w.heap.size+1) #[.int .i64 2, .string m] 98:=by
  have:=A3.new (w.alloc (.cells #[.int .i64 k, .string n] 98)) #[.int .i64 2, .string m] 98;exact a3a
 obtain⟨Q0,Q1⟩:=hq.q2;clear hq;rcases hk with rfl|rfl
 all_goals
  go_enter func295,ntmps295;go_upto_region 10 with fail
  refine wp_region_held_drew (S:=(fun w'=>w'.cell? ⟨w.heap.size+1,0,none⟩=some (.int .i64 2)∧w'.cell? ⟨w.heap.size+1,1,none⟩=some (.string m))) (by kernel_rfl) ⟨Q0,Q1⟩ (fun hHeld=> ?_);refine A4 0 ?_;refine T6 1 fun K hK=> ?_;go_simp
  go_wp2_with (go_at_call 267;refine(a1T _ _).mono ?_;rintro e w1 ⟨rfl,hg1⟩;have s0:=hg1.cell Q0 A5;have s1:=hg1.cell Q1 A5)
  refine hK.out _ _ ⟨s0,s1⟩ (fun hHeld=> ?_);try clear hK K
  try simp only[Act.put,lz]
  refine A4 2 ?_;refine A4 3 ?_;refine wpAnyH_done (by kernel_rfl) ?_ _;go_wp2_with fail
  all_goals exact bodyPost_ret (v:= .bool false) (by simp[results,results295,go_sem]) rfl ⟨rfl,A1 (A1 HG0.out (B6 _ _)) hg1⟩
theorem b0s(k:Int)(hk:k=3∨k=4)(w:World)(b:Nat)(j:Nat)(n m:ByteArray)(hkj:¬k=j)(h0:¬(j:Int)=0)(h2:¬(j:Int)=2)(h2':¬(2:Int)=j):
 Calls prog 295 #[.pointer (some ⟨b,0,none⟩), .agg #[.int .i64 k, .string n], .agg #[.int .i64 j, .string m]] w fun e w'=>e= .returned (.bool false)∧w.grownBy w' none:=by
 have HG0:Hid (w.grownBy ((w.alloc (.cells #[.int .i64 k, .string n] 98)).alloc (.cells #[.int .i64 j, .string m] 98)) none):=A1 (A2 _ _ _) (A2 _ _ _)
 have hq:A3 ((w.alloc (.cells #[.int .i64 k, .string n] 98)).alloc (.cells #[.int .i64 j, .string m] 98)).drew (w.heap.size+1) #[.int .i64 j, .string m] 98:=by
  have:=A3.new (w.alloc (.cells #[.int .i64 k, .string n] 98)) #[.int .i64 j, .string m] 98;exact a3a
 obtain⟨Q0,Q1⟩:=hq.q2;clear hq;rcases hk with rfl|rfl
 all_goals
  go_enter func295,ntmps295;go_upto_region 10 with fail
  refine wp_region_held_drew (S:=(fun w'=>w'.cell? ⟨w.heap.size+1,0,none⟩=some (.int .i64 j)∧w'.cell? ⟨w.heap.size+1,1,none⟩=some (.string m))) (by kernel_rfl) ⟨Q0,Q1⟩ (fun hHeld=> ?_);refine A4 0 ?_;refine T6 1 fun K hK=> ?_;go_simp
  go_wp2_with (go_at_call 267;refine(a1T _ _).mono ?_;rintro e w1 ⟨rfl,hg1⟩;have s0:=hg1.cell Q0 A5;have s1:=hg1.cell Q1 A5)
  refine hK.out _ _ ⟨s0,s1⟩ (fun hHeld=> ?_);try clear hK K
  try simp only[Act.put,lz]
  refine A4 2 ?_;refine A4 3 ?_;refine wpAnyH_done (by kernel_rfl) ?_ _;go_wp2_with fail
  all_goals exact bodyPost_ret (v:= .bool false) (by simp[results,results295,go_sem]) rfl ⟨rfl,A1 (A1 HG0.out (B6 _ _)) hg1⟩
theorem b5v(w:World)(b:Nat)(n m:ByteArray)(hnm:¬n=m):
 Calls prog 295 #[.pointer (some ⟨b,0,none⟩), .agg #[.int .i64 3, .string n], .agg #[.int .i64 3, .string m]] w fun e w'=>e= .returned (.bool false)∧w.grownBy w' none:=by
 have hnb:=a2x hnm;have HG0:Hid (w.grownBy ((w.alloc (.cells #[.int .i64 3, .string n] 98)).alloc (.cells #[.int .i64 3, .string m] 98)) none):=A1 (A2 _ _ _) (A2 _ _ _)
 have hq:A3 ((w.alloc (.cells #[.int .i64 3, .string n] 98)).alloc (.cells #[.int .i64 3, .string m] 98)).drew (w.heap.size+1) #[.int .i64 3, .string m] 98:=by
  have:=A3.new (w.alloc (.cells #[.int .i64 3, .string n] 98)) #[.int .i64 3, .string m] 98;exact a3a
 obtain⟨Q0,Q1⟩:=hq.q2;clear hq;go_enter func295,ntmps295;go_upto_region 10 with fail
 refine wp_region_held_drew (S:=(fun w'=>w'.cell? ⟨w.heap.size+1,0,none⟩=some (.int .i64 3)∧w'.cell? ⟨w.heap.size+1,1,none⟩=some (.string m))) (by kernel_rfl) ?hS0 (fun hHeld=> ?rest0)
 case hS0=>exact⟨Q0,Q1⟩
 refine A4 0 ?_;refine T6 1 fun K hK=> ?_;go_simp
 go_wp2_with (go_at_call 267;refine(a1T _ _).mono ?_;rintro e w1 ⟨rfl,hg1⟩;have s0:=hg1.cell Q0 A5;have s1:=hg1.cell Q1 A5)
 refine hK.out _ _ ?_ (fun hHeld=> ?_)
 case refine_1=>exact⟨s0,s1⟩
 try clear hK K
 try simp only[Act.put,lz]
 refine A4 2 ?_;refine A4 3 ?_;refine wpAnyH_done (by kernel_rfl) ?_ _;go_wp2_with fail
 all_goals exact bodyPost_ret (v:= .bool false) (by simp[results,results295,go_sem]) rfl ⟨rfl,A1 (A1 HG0.out (B6 _ _)) hg1⟩
theorem b5u(w:World)(b:Nat)(n m:ByteArray)(hnm:¬n=m):
 Calls prog 295 #[.pointer (some ⟨b,0,none⟩), .agg #[.int .i64 4, .string n], .agg #[.int .i64 4, .string m]] w fun e w'=>e= .returned (.bool false)∧w.grownBy w' none:=by
 have hnb:=a2x hnm;have HG0:Hid (w.grownBy ((w.alloc (.cells #[.int .i64 4, .string n] 98)).alloc (.cells #[.int .i64 4, .string m] 98)) none):=A1 (A2 _ _ _) (A2 _ _ _)
 have hq:A3 ((w.alloc (.cells #[.int .i64 4, .string n] 98)).alloc (.cells #[.int .i64 4, .string m] 98)).drew (w.heap.size+1) #[.int .i64 4, .string m] 98:=by
  have:=A3.new (w.alloc (.cells #[.int .i64 4, .string n] 98)) #[.int .i64 4, .string m] 98;exact a3a
 obtain⟨Q0,Q1⟩:=hq.q2;clear hq;go_enter func295,ntmps295;go_upto_region 10 with fail
 refine wp_region_held_drew (S:=(fun w'=>w'.cell? ⟨w.heap.size+1,0,none⟩=some (.int .i64 4)∧w'.cell? ⟨w.heap.size+1,1,none⟩=some (.string m))) (by kernel_rfl) ?hS0 (fun hHeld=> ?rest0)
 case hS0=>exact⟨Q0,Q1⟩
 refine A4 0 ?_;refine T6 1 fun K hK=> ?_;go_simp
 go_wp2_with (go_at_call 267;refine(a1T _ _).mono ?_;rintro e w1 ⟨rfl,hg1⟩;have s0:=hg1.cell Q0 A5;have s1:=hg1.cell Q1 A5)
 refine hK.out _ _ ?_ (fun hHeld=> ?_)
 case refine_1=>exact⟨s0,s1⟩
 try clear hK K
 try simp only[Act.put,lz]
 refine A4 2 ?_;refine A4 3 ?_;refine wpAnyH_done (by kernel_rfl) ?_ _;go_wp2_with fail
 all_goals exact bodyPost_ret (v:= .bool false) (by simp[results,results295,go_sem]) rfl ⟨rfl,A1 (A1 HG0.out (B6 _ _)) hg1⟩
theorem a6G(w:World)(b:Nat)(n m:ByteArray)(hnm:¬n=m):
 Calls prog 295 #[.pointer (some ⟨b,0,none⟩), .agg #[.int .i64 0, .string n], .agg #[.int .i64 0, .string m]] w fun e w'=>e= .returned (.bool true)∧w.grownBy w' none:=by
 have hnb:=a2x hnm;have HG0:Hid (w.grownBy ((w.alloc (.cells #[.int .i64 0, .string n] 98)).alloc (.cells #[.int .i64 0, .string m] 98)) none):=A1 (A2 _ _ _) (A2 _ _ _);go_enter func295,ntmps295;go_wp2_with fail
 all_goals exact bodyPost_ret (v:= .bool true) (by simp[results,results295,go_sem]) rfl ⟨rfl,HG0.out⟩
theorem a8v(w:World)(lim b:Nat)(L:List Cl)(p:Addr)(cap m1 m2 m3:Nat)(q:Nat→Qs)(h:Hid (Lk w lim b L p cap m1 m2 m3 q))(hl:lim≤w.heap.size)(s t:Ty)(hs:s.name.size≤maxLen):
 Calls prog 295 #[.pointer (some ⟨b,0,none⟩), .agg #[.int .i64 s.kind, .string s.name], .agg #[.int .i64 t.kind, .string t.name]] w fun e w'=>e= .returned (.bool (D4 L s t))∧w.grownBy w' none:=by
 obtain⟨k,n⟩:=s;obtain⟨j,m⟩:=t;dsimp only at hs⊢;have key:∀v,D4 L ⟨k,n⟩ ⟨j,m⟩=v→Calls prog 295 #[.pointer (some ⟨b,0,none⟩), .agg #[.int .i64 k, .string n], .agg #[.int .i64 j, .string m]] w (fun e w'=>e= .returned (.bool v)∧w.grownBy w' none)→Calls prog 295 #[.pointer (some ⟨b,0,none⟩), .agg #[.int .i64 k, .string n], .agg #[.int .i64 j, .string m]] w (fun e w'=>e= .returned (.bool (D4 L ⟨k,n⟩ ⟨j,m⟩))∧w.grownBy w' none):=fun v e hh=>by rw[e];exact hh
 by_cases hkj:k=j
 ·subst hkj;by_cases hnm:n=m
  ·subst hnm;exact key true (by simp[D4,L7]) (b6r w b k n)
  ·by_cases h0:k=0
   ·subst h0;exact key true (by simp[D4]) (a6G w b n m hnm)
   ·by_cases h5:k=5
    ·subst h5;exact key false (by simp[D4,L7,hnm]) (b5s w b n m hnm)
    ·by_cases h2:k=2
     ·subst h2;exact key (L6 L n m) (by simp[D4,L7,hnm]) (b7x w b L n m hnm (fun W hW=>b9F W lim b L p cap m1 m2 m3 q (h.out.keep hW hl) (Nat.le_trans hl hW.size) n m hs))
     ·by_cases h3:k=3
      ·subst h3;exact key false (by simp[D4,L7,hnm]) (b5v w b n m hnm)
      ·by_cases h4:k=4
       ·subst h4;exact key false (by simp[D4,L7,hnm]) (b5u w b n m hnm)
       ·exact key false (by simp[D4,L7,hnm,h0,h5,h2,h3,h4]) (b5t w b k n m hnm (by omega) (by omega) (by omega) (by omega) (by omega))
 ·by_cases h0:j=0
  ·subst h0;exact key true (by simp[D4]) (a2u w b k n m (by omega))
  ·by_cases h5:k=5
   ·subst h5;refine key _ ?_ (b6t w b j n m (by omega) (by omega));rw[Bool.eq_iff_iff];simp[D4,L7,h0,hkj];omega
   ·by_cases h2:k=2
    ·subst h2;exact key false (by simp[D4,L7,h0,hkj];omega) (b6s w b j n m (by omega) (by omega) (by omega))
    ·by_cases h3:k=3
     ·subst h3;by_cases hj:j=2
      ·subst hj;by_cases hm:m=F2
       ·subst hm;exact key true (by simp[D4,L7]) (b0u 3 (.inl rfl) w b n)
       ·exact key false (by simp[D4,L7,hm]) (b0t 3 (.inl rfl) w b n m hm)
      ·exact key false (by simp[D4,L7,h0,hkj,hj]) (b0s 3 (.inl rfl) w b j n m (by omega) (by omega) (by omega) (by omega))
     ·by_cases h4:k=4
      ·subst h4;by_cases hj:j=2
       ·subst hj;by_cases hm:m=F2
        ·subst hm;exact key true (by simp[D4,L7]) (b0u 4 (.inr rfl) w b n)
        ·exact key false (by simp[D4,L7,hm]) (b0t 4 (.inr rfl) w b n m hm)
       ·exact key false (by simp[D4,L7,h0,hkj,hj]) (b0s 4 (.inr rfl) w b j n m (by omega) (by omega) (by omega) (by omega))
      ·exact key false (by simp[D4,L7,h0,hkj,h5,h2,h3,h4]) (b6u w b k j n m (by omega) (by omega) (by omega) (by omega) (by omega) (by omega))
theorem b8I(h:w.cell? ⟨b,o,none⟩=some v)(hne:b≠g):((w.setCell ⟨g,0,none⟩ v0).setCell ⟨g,1,none⟩ v1).cell? ⟨b,o,none⟩=some v:=
 (A9 _ ⟨g,1,none⟩ v1).cell ((A9 w ⟨g,0,none⟩ v0).cell h (fun e=>hne (Option.some.inj e))) (fun e=>hne (Option.some.inj e))
theorem c2o(w:World)(b:Nat)(n:ByteArray):
 Calls prog 332 #[.pointer (some ⟨b,0,none⟩), .agg #[.int .i64 3, .string n]] w fun e w'=>e= .returned (.agg #[.int .i64 2, .string F2])∧w.grownBy w' none:=by
 have HG0:Hid (w.grownBy ((w.alloc (.cells #[.int .i64 3, .string n] 98)).alloc (.cells #[.int .i64 0, .string ⟨#[]⟩] 98)) none):=A1 (A2 _ _ _) (A2 _ _ _)
 have HB:Hid (A3 ((w.alloc (.cells #[.int .i64 3, .string n] 98)).alloc (.cells #[.int .i64 0, .string ⟨#[]⟩] 98)) (w.heap.size+1) #[.int .i64 0, .string ⟨#[]⟩] 98):=by
  have:=A3.new (w.alloc (.cells #[.int .i64 3, .string n] 98)) #[.int .i64 0, .string ⟨#[]⟩] 98;exact a3a
 go_enter func332,ntmps332;go_wp2_with (go_at_call 267;refine(a1T _ _).mono ?_)
 rintro e w1 ⟨rfl,hg1⟩;have hb1:=HB.out.keep hg1 A5;obtain⟨r0,r1⟩:=hb1.q2;obtain⟨z0,z1⟩:=hb1.z2;go_wp2_with fail
 all_goals
  have hb6:=(hb1.set 0 (.int .i64 2)).set 1 (.string ⟨#[79,98,106,101,99,116]⟩);have hg6:=D5 (A1 HG0.out hg1) (A1 (A9 w1 ⟨w.heap.size+1,0,none⟩ (.int .i64 2)) (A9 _ ⟨w.heap.size+1,1,none⟩ (.string ⟨#[79,98,106,101,99,116]⟩))) (fun k e=>by cases e;exact .inl (Nat.le_succ _));generalize (w1.setCell ⟨w.heap.size+1,0,none⟩ (.int .i64 2)).setCell ⟨w.heap.size+1,1,none⟩ (.string ⟨#[79,98,106,101,99,116]⟩)=W6 at hb6 hg6⊢;have q0:=hb6.c0;have q1:=hb6.c1;exact bodyPost_ret (v:= .agg #[(.int .i64 2),(.string ⟨#[79,98,106,101,99,116]⟩)]) (by simp[results,results332,go_sem,q0,q1]) rfl ⟨rfl,hg6⟩
theorem c2n(w:World)(b:Nat)(n:ByteArray):
 Calls prog 332 #[.pointer (some ⟨b,0,none⟩), .agg #[.int .i64 4, .string n]] w fun e w'=>e= .returned (.agg #[.int .i64 2, .string F2])∧w.grownBy w' none:=by
 have HG0:Hid (w.grownBy ((w.alloc (.cells #[.int .i64 4, .string n] 98)).alloc (.cells #[.int .i64 0, .string ⟨#[]⟩] 98)) none):=A1 (A2 _ _ _) (A2 _ _ _)
 have HB:Hid (A3 ((w.alloc (.cells #[.int .i64 4, .string n] 98)).alloc (.cells #[.int .i64 0, .string ⟨#[]⟩] 98)) (w.heap.size+1) #[.int .i64 0, .string ⟨#[]⟩] 98):=by
  have:=A3.new (w.alloc (.cells #[.int .i64 4, .string n] 98)) #[.int .i64 0, .string ⟨#[]⟩] 98;exact a3a
 go_enter func332,ntmps332;go_wp2_with (go_at_call 267;refine(a1T _ _).mono ?_)
 rintro e w1 ⟨rfl,hg1⟩;have hb1:=HB.out.keep hg1 A5;obtain⟨r0,r1⟩:=hb1.q2;obtain⟨z0,z1⟩:=hb1.z2;go_wp2_with fail
 all_goals
  have hb6:=(hb1.set 0 (.int .i64 2)).set 1 (.string ⟨#[79,98,106,101,99,116]⟩);have hg6:=D5 (A1 HG0.out hg1) (A1 (A9 w1 ⟨w.heap.size+1,0,none⟩ (.int .i64 2)) (A9 _ ⟨w.heap.size+1,1,none⟩ (.string ⟨#[79,98,106,101,99,116]⟩))) (fun k e=>by cases e;exact .inl (Nat.le_succ _));generalize (w1.setCell ⟨w.heap.size+1,0,none⟩ (.int .i64 2)).setCell ⟨w.heap.size+1,1,none⟩ (.string ⟨#[79,98,106,101,99,116]⟩)=W6 at hb6 hg6⊢;have q0:=hb6.c0;have q1:=hb6.c1;exact bodyPost_ret (v:= .agg #[(.int .i64 2),(.string ⟨#[79,98,106,101,99,116]⟩)]) (by simp[results,results332,go_sem,q0,q1]) rfl ⟨rfl,hg6⟩
theorem b9w(w:World)(lim b:Nat)(L:List Cl)(p:Addr)(cap m1 m2 m3:Nat)(q:Nat→Qs)(h:Hid (Lk w lim b L p cap m1 m2 m3 q))(hl:lim≤w.heap.size)(n:ByteArray)(hc:n.size≤maxLen)(hn:n≠F2)(i:Nat)(hf:C3 L n=some i):
 Calls prog 332 #[.pointer (some ⟨b,0,none⟩), .agg #[.int .i64 2, .string n]] w fun e w'=>e= .returned (.agg #[.int .i64 2, .string (l4 L n)])∧w.grownBy w' none:=by
 have HG0:Hid (w.grownBy ((w.alloc (.cells #[.int .i64 2, .string n] 98)).alloc (.cells #[.int .i64 0, .string ⟨#[]⟩] 98)) none):=A1 (A2 _ _ _) (A2 _ _ _)
 have HB:Hid (A3 ((w.alloc (.cells #[.int .i64 2, .string n] 98)).alloc (.cells #[.int .i64 0, .string ⟨#[]⟩] 98)) (w.heap.size+1) #[.int .i64 0, .string ⟨#[]⟩] 98):=by
  have:=A3.new (w.alloc (.cells #[.int .i64 2, .string n] 98)) #[.int .i64 0, .string ⟨#[]⟩] 98;exact a3a
 obtain⟨sp,hsp⟩:∃sp,sp=(cl L i).super:=⟨_,rfl⟩
 have hii:=M9 hf;have hi1:=hii.1;have hsm:L.length≤65536:=by have:=h.out.kls.small;omega
 have hbn:(n.toList==[79,98,106,101,99,116])=false:=by rw[←a7g];exact a2x hn
 have HS:Hid (∀W,w.grownBy W none→W.cell? ⟨b,0,none⟩=some (.slice (some p) L.length cap)∧W.cell? ⟨b,1,none⟩=some (.map (some m1))∧W.cell? ⟨(p.add (i*4)).block,(p.add (i*4)).off+1,none⟩=some (.string sp)∧(Instr.lookup 148 (.map (some m1)) (.string n) false).run prog W= .ok (.int .i64 (i:Int)) W):=fun W hW=>by
  have HK:=(h.out.keep hW hl).kls;refine⟨HK.c0,HK.c1,?_,?_⟩
  ·rw[C0 p (i*4) 0,hsp];exact HK.row i hi1 1 _ rfl
  ·have:=a8E HK.n1 n hc;rw[hf]at this;exact this
 have HQ:Hid (∀W,((w.alloc (.cells #[.int .i64 2, .string n] 98)).alloc (.cells #[.int .i64 0, .string ⟨#[]⟩] 98)).drew.grownBy W none→W.cell? ⟨w.heap.size,1,none⟩=some (.string n)):=fun W hW=>hW.cell (((A3.new w #[.int .i64 2, .string n] 98).keep (A2 _ _ none) A5).cell 1 _ rfl) A5
 have HSP:Hid (sp=l4 L n):=by unfold Hid l4;rw[hf,hsp];rfl
 clear hsp hii h hf;rw[←HSP.out];go_enter func332,ntmps332;go_upto_region 4 with fail
 refine wp_region_held_drew (S:=(fun w'=>w'.cell? ⟨b,0,none⟩=some (.slice (some p) L.length cap)∧w'.cell? ⟨b,1,none⟩=some (.map (some m1))∧w'.cell? ⟨w.heap.size,1,none⟩=some (.string n)∧w'.cell? ⟨(p.add (i*4)).block,(p.add (i*4)).off+1,none⟩=some (.string sp)∧(Instr.lookup 148 (.map (some m1)) (.string n) false).run prog w'= .ok (.int .i64 (i:Int)) w')) (by kernel_rfl) ?hS0 (fun hHeld=> ?rest0)
 case hS0=>
  have h1:=HS.out _ (A1 HG0.out (B6 _ _));exact⟨h1.1,h1.2.1,HQ.out _ (I8 _ _),h1.2.2.1,h1.2.2.2⟩
 refine A4 0 ?_;refine A4 1 ?_;refine A4 2 ?_;refine A4 3 ?_;refine A4 4 ?_;refine A4 5 ?_;refine A4 6 ?_;refine A4 7 ?_;refine A4 8 ?_;refine A4 9 ?_;refine A4 10 ?_;refine A4 11 ?_;refine A4 12 ?_;refine A4 13 ?_;refine T6 14 fun K hK=> ?_;go_simp
 go_wp2_with (go_at_call 267;refine(a1T _ _).mono ?_;rintro e w1 ⟨rfl,hg1⟩;have hS1:=HS.out _ (A1 (A1 HG0.out (B6 _ _)) hg1);have hb1:=HB.out.keep (A1 (B6 _ none) hg1) A5;obtain⟨r0,r1⟩:=hb1.q2;obtain⟨z0,z1⟩:=hb1.z2)
 refine hK.out _ _ ?_ (fun hHeld=> ?_)
 case refine_1=>exact⟨hS1.1,hS1.2.1,HQ.out _ hg1,hS1.2.2.1,hS1.2.2.2⟩
 try clear hK K
 try simp only[Act.put,lz]
 refine T6 15 fun K hK=> ?_;go_simp
 refine hK.out _ _ ?_ (fun hHeld=> ?_)
 case refine_1=>
  have hgS:w.grownBy ((w1.setCell ⟨w.heap.size+1,0,none⟩ (.int .i64 2)).setCell ⟨w.heap.size+1,1,none⟩ (.string sp)) none:=D5 (A1 (A1 HG0.out (B6 _ _)) hg1) (A1 (A9 _ ⟨w.heap.size+1,0,none⟩ _) (A9 _ ⟨w.heap.size+1,1,none⟩ _)) (fun k e=>by cases e;exact .inl (Nat.le_succ _));have h2:=HS.out _ hgS;exact⟨h2.1,h2.2.1,b8I (HQ.out _ hg1) (by omega),h2.2.2.1,h2.2.2.2⟩
 try clear hK K
 try simp only[Act.put,lz]
 refine wpAnyH_done (by kernel_rfl) ?_ _;go_wp2_with fail
 all_goals
  have hb1:=HB.out.keep (A1 (B6 _ none) hg1) A5;have hb6:=(hb1.set 0 (.int .i64 2)).set 1 (.string sp);have hg6:=D5 (A1 (A1 HG0.out (B6 _ _)) hg1) (A1 (A9 w1 ⟨w.heap.size+1,0,none⟩ (.int .i64 2)) (A9 _ ⟨w.heap.size+1,1,none⟩ (.string sp))) (fun k e=>by cases e;exact .inl (Nat.le_succ _));generalize (w1.setCell ⟨w.heap.size+1,0,none⟩ (.int .i64 2)).setCell ⟨w.heap.size+1,1,none⟩ (.string sp)=W6 at hb6 hg6⊢;have q0:=hb6.c0;have q1:=hb6.c1;exact bodyPost_ret (v:= .agg #[(.int .i64 2),(.string sp)]) (by simp[results,results332,go_sem,q0,q1]) rfl ⟨rfl,hg6⟩
theorem b9x(w:World)(b:Nat):
 Calls prog 332 #[.pointer (some ⟨b,0,none⟩), .agg #[.int .i64 2, .string F2]] w fun e w'=>e= .returned (.agg #[.int .i64 0, .string ⟨#[]⟩])∧w.grownBy w' none:=by
 have hmt:=a7g;have HG0:Hid (w.grownBy ((w.alloc (.cells #[.int .i64 2, .string F2] 98)).alloc (.cells #[.int .i64 0, .string ⟨#[]⟩] 98)) none):=A1 (A2 _ _ _) (A2 _ _ _)
 have HB:Hid (A3 ((w.alloc (.cells #[.int .i64 2, .string F2] 98)).alloc (.cells #[.int .i64 0, .string ⟨#[]⟩] 98)) (w.heap.size+1) #[.int .i64 0, .string ⟨#[]⟩] 98):=by
  have:=A3.new (w.alloc (.cells #[.int .i64 2, .string F2] 98)) #[.int .i64 0, .string ⟨#[]⟩] 98;exact a3a
 go_enter func332,ntmps332;go_wp2_with fail
 all_goals
  obtain⟨q0,q1⟩:=HB.out.q2;exact bodyPost_ret (v:= .agg #[.int .i64 0, .string ⟨#[]⟩]) (by simp[results,results332,go_sem,q0,q1]) rfl ⟨rfl,HG0.out⟩
theorem b7X(w:World)(b k:Nat)(n:ByteArray)(h3:¬(k:Int)=3)(h4:¬(k:Int)=4)(h2:¬(k:Int)=2):
 Calls prog 332 #[.pointer (some ⟨b,0,none⟩), .agg #[.int .i64 k, .string n]] w fun e w'=>e= .returned (.agg #[.int .i64 0, .string ⟨#[]⟩])∧w.grownBy w' none:=by
 have HG0:Hid (w.grownBy ((w.alloc (.cells #[.int .i64 k, .string n] 98)).alloc (.cells #[.int .i64 0, .string ⟨#[]⟩] 98)) none):=A1 (A2 _ _ _) (A2 _ _ _)
 have HB:Hid (A3 ((w.alloc (.cells #[.int .i64 k, .string n] 98)).alloc (.cells #[.int .i64 0, .string ⟨#[]⟩] 98)) (w.heap.size+1) #[.int .i64 0, .string ⟨#[]⟩] 98):=by
  have:=A3.new (w.alloc (.cells #[.int .i64 k, .string n] 98)) #[.int .i64 0, .string ⟨#[]⟩] 98;exact a3a
 have e3:((k:Int)==3)=false:=by simp[h3]
 have e4:((k:Int)==4)=false:=by simp[h4]
 have e2:((k:Int)==2)=false:=by simp[h2]
 go_enter func332,ntmps332;go_wp2_with fail
 all_goals
  obtain⟨q0,q1⟩:=HB.out.q2;exact bodyPost_ret (v:= .agg #[.int .i64 0, .string ⟨#[]⟩]) (by simp[results,results332,go_sem,q0,q1]) rfl ⟨rfl,HG0.out⟩
theorem b7Y(w:World)(lim b:Nat)(L:List Cl)(p:Addr)(cap m1 m2 m3:Nat)(q:Nat→Qs)(h:Hid (Lk w lim b L p cap m1 m2 m3 q))(hl:lim≤w.heap.size)(t:Ty)(hc:t.name.size≤maxLen)(hf:t.kind=2→t.name≠F2→∃i,C3 L t.name=some i):
 Calls prog 332 #[.pointer (some ⟨b,0,none⟩), .agg #[.int .i64 t.kind, .string t.name]] w fun e w'=>e= .returned (.agg #[.int .i64 (L5 L t).kind, .string (L5 L t).name])∧w.grownBy w' none:=by
 obtain⟨k,n⟩:=t;dsimp only at hc hf⊢;by_cases h3:k=3
 ·subst h3;exact c2o w b n
 ·by_cases h4:k=4
  ·subst h4;exact c2n w b n
  ·by_cases h2:k=2
   ·subst h2;by_cases hn:n=F2
    ·subst hn;have e:L5 L ⟨2,F2⟩=B1:=by simp[L5]
     rw[e];exact b9x w b
    ·obtain⟨i,hi⟩:=hf rfl hn;have e:L5 L ⟨2,n⟩=D7 (l4 L n):=by simp[L5,hn]
     rw[e];exact b9w w lim b L p cap m1 m2 m3 q h hl n hc hn i hi
   ·have e:L5 L ⟨k,n⟩=B1:=by simp[L5,h3,h4,h2]
    rw[e];exact b7X w b k n (by omega) (by omega) (by omega)
def muT(L:List Cl)(B:Nat)(W:World):Nat:=match W.cell? ⟨B,0,none⟩,W.cell? ⟨B,1,none⟩with|some (.int _ v),some (.string n)=>M5 L ⟨v.toNat,n⟩|_,_=>0
variable {L:List Cl}
theorem b3g{B:Nat}{W:World}{c:Ty}{t:TypeId}(h:A3 W B #[.int .i64 c.kind, .string c.name] t):muT L B W=M5 L c:=by
 unfold muT;rw[h.cell 0 _ rfl,h.cell 1 _ rfl];simp
theorem b9P(w:World)(lim b:Nat)(L:List Cl)(p:Addr)(cap m1 m2 m3:Nat)(q:Nat→Qs)(h:Hid (Lk w lim b L p cap m1 m2 m3 q))(hl:lim≤w.heap.size)(hW:B9 L)(t o:Ty)(ht:D6 L t)(ho:D6 L o)(hts:t.name.size≤maxLen)(hos:o.name.size≤maxLen):
 Calls prog 319 #[.pointer (some ⟨b,0,none⟩), .agg #[.int .i64 t.kind, .string t.name], .agg #[.int .i64 o.kind, .string o.name]] w fun e w'=>e= .returned (.agg #[.int .i64 (a1F L t o).kind, .string (a1F L t o).name])∧w.grownBy w' none:=by
 have HU:Hid (∀W (s u:Ty),w.grownBy W none→s.name.size≤maxLen→Calls prog 295 #[.pointer (some ⟨b,0,none⟩), .agg #[.int .i64 s.kind, .string s.name], .agg #[.int .i64 u.kind, .string u.name]] W fun e w'=>e= .returned (.bool (D4 L s u))∧W.grownBy w' none):=
  fun W s u hg hs=>a8v W lim b L p cap m1 m2 m3 q (h.out.keep hg hl) (Nat.le_trans hl hg.size) s u hs
 have HN:Hid (∀W (s:Ty),w.grownBy W none→s.name.size≤maxLen→D6 L s→Calls prog 332 #[.pointer (some ⟨b,0,none⟩), .agg #[.int .i64 s.kind, .string s.name]] W fun e w'=>e= .returned (.agg #[.int .i64 (L5 L s).kind, .string (L5 L s).name])∧W.grownBy w' none):=
  fun W s hg hs hk=>b7Y W lim b L p cap m1 m2 m3 q (h.out.keep hg hl) (Nat.le_trans hl hg.size) s hs (fun h2 _=>by have:=hk.2;rw[if_pos (.inl h2)]at this;exact this)
 have HZ:Hid (∀s:Ty,D6 L s→s.name.size≤maxLen→(L5 L s).name.size≤maxLen):=fun s hs hz=>by
  unfold L5;split
  ·exact(by decide:F2.size≤maxLen)
  ·split
   ·rename_i h2;have h3:=hs.2;rw[if_pos (.inl h2.1)]at h3;obtain⟨i,hi⟩:=h3;show(l4 L s.name).size≤maxLen;unfold l4;rw[hi];exact(h.out.kls.names i (M9 hi).1).2
   ·exact(by decide:C5.size≤maxLen)
 clear h hl;have HG0:Hid (w.grownBy (((w.alloc (.cells #[.int .i64 t.kind, .string t.name] 98)).alloc (.cells #[.int .i64 o.kind, .string o.name] 98)).alloc (.cells #[.int .i64 0, .string ⟨#[]⟩] 98)) none):=A1 (A1 (A2 _ _ _) (A2 _ _ _)) (A2 _ _ _);have HB0:Hid (A3 (((w.alloc (.cells #[.int .i64 t.kind, .string t.name] 98)).alloc (.cells #[.int .i64 o.kind, .string o.name] 98)).alloc (.cells #[.int .i64 0, .string ⟨#[]⟩] 98)) w.heap.size #[.int .i64 t.kind, .string t.name] 98):=((A3.new w #[.int .i64 t.kind, .string t.name] 98).keep (A2 _ _ none) A5).keep (A2 _ _ none) A5
 have HB1:Hid (A3 (((w.alloc (.cells #[.int .i64 t.kind, .string t.name] 98)).alloc (.cells #[.int .i64 o.kind, .string o.name] 98)).alloc (.cells #[.int .i64 0, .string ⟨#[]⟩] 98)) (w.heap.size+1) #[.int .i64 o.kind, .string o.name] 98):=by
  have:=(A3.new (w.alloc (.cells #[.int .i64 t.kind, .string t.name] 98)) #[.int .i64 o.kind, .string o.name] 98).keep (A2 _ (.cells #[.int .i64 0, .string ⟨#[]⟩] 98) none) A5;exact a3a
 have HB2:Hid (A3 (((w.alloc (.cells #[.int .i64 t.kind, .string t.name] 98)).alloc (.cells #[.int .i64 o.kind, .string o.name] 98)).alloc (.cells #[.int .i64 0, .string ⟨#[]⟩] 98)) (w.heap.size+2) #[.int .i64 0, .string ⟨#[]⟩] 98):=by
  have:=A3.new ((w.alloc (.cells #[.int .i64 t.kind, .string t.name] 98)).alloc (.cells #[.int .i64 o.kind, .string o.name] 98)) #[.int .i64 0, .string ⟨#[]⟩] 98;simp only[World.size_alloc]at this;exact this
 by_cases hu:D4 L t o=true
 ·have HJ:Hid (a1F L t o=o):=by unfold Hid a1F;rw[if_pos hu]
  rw[HJ.out]
  have HU1:Hid (Calls prog 295 #[.pointer (some ⟨b,0,none⟩), .agg #[.int .i64 t.kind, .string t.name], .agg #[.int .i64 o.kind, .string o.name]] (((w.alloc (.cells #[.int .i64 t.kind, .string t.name] 98)).alloc (.cells #[.int .i64 o.kind, .string o.name] 98)).alloc (.cells #[.int .i64 0, .string ⟨#[]⟩] 98)) fun e w'=>e= .returned (.bool true)∧((((w.alloc (.cells #[.int .i64 t.kind, .string t.name] 98)).alloc (.cells #[.int .i64 o.kind, .string o.name] 98)).alloc (.cells #[.int .i64 0, .string ⟨#[]⟩] 98))).grownBy w' none):=by
   have:=HU.out _ t o HG0.out hts;rw[hu]at this;exact this
  clear hu ht ho hts hos;go_enter func319,ntmps319;go_wp2_with (go_at_call 295;refine HU1.out.mono ?_)
  rintro e w1 ⟨rfl,hg1⟩;have hb2:=HB1.out.keep hg1 A5;obtain⟨c0,c1⟩:=hb2.q2;have hb1:=HB2.out.keep hg1 A5;obtain⟨r0,r1⟩:=hb1.q2;obtain⟨z0,z1⟩:=hb1.z2;go_wp2_with fail
  all_goals
   have hb6:A3 _ (w.heap.size+1+1) #[(.int .i64 o.kind),(.string o.name)] 98:=(hb1.set 0 (.int .i64 o.kind)).set 1 (.string o.name);have hg6:=D5 (A1 HG0.out hg1) (A1 (A9 w1 ⟨w.heap.size+1+1,0,none⟩ (.int .i64 o.kind)) (A9 _ ⟨w.heap.size+1+1,1,none⟩ (.string o.name))) (fun k e=>by cases e;exact .inl (by show w.heap.size≤w.heap.size+1+1;omega));generalize (w1.setCell ⟨w.heap.size+1+1,0,none⟩ (.int .i64 o.kind)).setCell ⟨w.heap.size+1+1,1,none⟩ (.string o.name)=W6 at hb6 hg6⊢;have q0:=hb6.c0;have q1:=hb6.c1;exact bodyPost_ret (v:= .agg #[(.int .i64 o.kind),(.string o.name)]) (by simp[results,results319,go_sem,q0,q1]) rfl ⟨rfl,hg6⟩
 ·have hu':D4 L t o=false:=by simpa using hu
  have HJ:Hid (a2g L (M5 L t+1) t o=a1F L t o):=by unfold Hid a1F;rw[if_neg hu]
  obtain⟨J,hJ⟩:∃J,J=a1F L t o:=⟨_,rfl⟩
  rw[←hJ]at HJ⊢;clear hJ
  have HU1:Hid (Calls prog 295 #[.pointer (some ⟨b,0,none⟩), .agg #[.int .i64 t.kind, .string t.name], .agg #[.int .i64 o.kind, .string o.name]] (((w.alloc (.cells #[.int .i64 t.kind, .string t.name] 98)).alloc (.cells #[.int .i64 o.kind, .string o.name] 98)).alloc (.cells #[.int .i64 0, .string ⟨#[]⟩] 98)) fun e w'=>e= .returned (.bool false)∧((((w.alloc (.cells #[.int .i64 t.kind, .string t.name] 98)).alloc (.cells #[.int .i64 o.kind, .string o.name] 98)).alloc (.cells #[.int .i64 0, .string ⟨#[]⟩] 98))).grownBy w' none):=by
   have:=HU.out _ t o HG0.out hts;rw[hu']at this;exact this
  have HT:Hid (D6 L t∧t.name.size≤maxLen∧o.name.size≤maxLen):=⟨ht,hts,hos⟩
  clear hu hu' ht ho hts hos;go_enter func319,ntmps319;go_wp2_with (go_at_call 295;refine HU1.out.mono ?_)
  rintro e w1 ⟨rfl,hg1⟩;go_wp2_with fail
  go_loopw [] (fun wr=>∃(k:Nat) (c:Ty),a2g L k c o=J∧M5 L c<k∧D6 L c∧c.name.size≤maxLen∧A3 wr w.heap.size #[.int .i64 c.kind, .string c.name] 98∧A3 wr (w.heap.size+1) #[.int .i64 o.kind, .string o.name] 98∧A3 wr (w.heap.size+2) #[.int .i64 0, .string ⟨#[]⟩] 98∧w.grownBy wr none) (fun wr=>muT L w.heap.size wr)
  case atStart=>exact⟨_,t,HJ.out,Nat.lt_succ_self _,HT.out.1,HT.out.2.1,HB0.out.keep hg1 A5,HB1.out.keep hg1 A5,HB2.out.keep hg1 A5,A1 HG0.out hg1⟩
  case round=>
   obtain⟨k,c,hcl,hrk,hok,hcs,hbc,hbo,hbz,hgr⟩:=hrel;have HB1c:=A0 hbo;have HB2c:=A0 hbz;have HB0c:=A0 hbc;have HGR:=A0 hgr;have HC:Hid (a2g L k c o=J∧M5 L c<k∧D6 L c∧c.name.size≤maxLen):=⟨hcl,hrk,hok,hcs⟩
   obtain⟨c0,c1⟩:=hbc.q2;obtain⟨o0,o1⟩:=hbo.q2;clear hcl hrk hok hcs hbc hbo hbz hgr;by_cases hu:D4 L o c=true
   ·have hcJ:Hid (c=J):=by
     obtain⟨h1,h2,-,-⟩:=HC.out;obtain⟨k',rfl⟩:∃k',k=k'+1:=⟨k-1,by omega⟩
     unfold a2g at h1;rw[if_pos hu]at h1;exact h1
    have HU2:Hid (Calls prog 295 #[.pointer (some ⟨b,0,none⟩), .agg #[.int .i64 o.kind, .string o.name], .agg #[.int .i64 c.kind, .string c.name]] wr fun e w'=>e= .returned (.bool true)∧wr.grownBy w' none):=by
     have:=HU.out _ o c HGR.out HT.out.2.2;rw[hu]at this;exact this
    clear hu;go_wp2_with (go_at_call 295;refine HU2.out.mono ?_)
    rintro e w2 ⟨rfl,hg2⟩;have hb0:=HB0c.out.keep hg2 A5;obtain⟨d0,d1⟩:=hb0.q2;have hb1:=HB2c.out.keep hg2 A5;obtain⟨r0,r1⟩:=hb1.q2;obtain⟨z0,z1⟩:=hb1.z2;go_wp2_with fail
    all_goals
     have hb6:A3 _ (w.heap.size+1+1) #[(.int .i64 c.kind),(.string c.name)] 98:=(hb1.set 0 (.int .i64 c.kind)).set 1 (.string c.name);have hg6:=D5 (A1 HGR.out hg2) (A1 (A9 w2 ⟨w.heap.size+1+1,0,none⟩ (.int .i64 c.kind)) (A9 _ ⟨w.heap.size+1+1,1,none⟩ (.string c.name))) (fun k e=>by cases e;exact .inl (by show w.heap.size≤w.heap.size+1+1;omega));generalize (w2.setCell ⟨w.heap.size+1+1,0,none⟩ (.int .i64 c.kind)).setCell ⟨w.heap.size+1+1,1,none⟩ (.string c.name)=W6 at hb6 hg6⊢;have q0:=hb6.c0;have q1:=hb6.c1;exact bodyPost_ret (v:= .agg #[(.int .i64 c.kind),(.string c.name)]) (by simp[results,results319,go_sem,q0,q1]) rfl ⟨by rw[hcJ.out],hg6⟩
   ·have hu':D4 L o c=false:=by simpa using hu
    have HC2:Hid (∃k',a2g L k' (L5 L c) o=J∧M5 L (L5 L c)<k'∧D6 L (L5 L c)∧(L5 L c).name.size≤maxLen∧M5 L (L5 L c)<M5 L c):=by
     obtain⟨h1,h2,h3,h4⟩:=HC.out;obtain⟨k',rfl⟩:∃k',k=k'+1:=⟨k-1,by omega⟩
     unfold a2g at h1;rw[if_neg hu]at h1
     have h0:c.kind≠0:=fun e=>by
      apply hu;unfold D4;simp[e]
     have:=hW.next_rank h3 h0;exact⟨k',h1,by omega,hW.next_ok h3,HZ.out c h3 h4,this⟩
    have HU2:Hid (Calls prog 295 #[.pointer (some ⟨b,0,none⟩), .agg #[.int .i64 o.kind, .string o.name], .agg #[.int .i64 c.kind, .string c.name]] wr fun e w'=>e= .returned (.bool false)∧wr.grownBy w' none):=by
     have:=HU.out _ o c HGR.out HT.out.2.2;rw[hu']at this;exact this
    clear hu hu';go_wp2_with (go_at_call 295;refine HU2.out.mono ?_)
    rintro e w2 ⟨rfl,hg2⟩;have hb0:=HB0c.out.keep hg2 A5;obtain⟨d0,d1⟩:=hb0.q2;go_wp2_with (go_at_call 332;refine(HN.out _ c (A1 HGR.out hg2) HC.out.2.2.2 HC.out.2.2.1).mono ?_)
    rintro e w3 ⟨rfl,hg3⟩;obtain⟨nc,hnc⟩:∃nc,nc=L5 L c:=⟨_,rfl⟩
    rw[←hnc]at HC2⊢;clear hnc;have hb3:=hb0.keep hg3 A5;obtain⟨e0,e1⟩:=hb3.q2;obtain⟨z0,z1⟩:=hb3.z2;have HB3:=A0 hb3;clear hb3 hb0;go_wp2_with fail
    have hg23:=A1 hg2 hg3;have hs:w3.grownBy ((w3.setCell ⟨w.heap.size,0,none⟩ (.int .i64 nc.kind)).setCell ⟨w.heap.size,1,none⟩ (.string nc.name)) (some w.heap.size):=A1 (A9 w3 ⟨w.heap.size,0,none⟩ _) (A9 _ ⟨w.heap.size,1,none⟩ _);have n0:A3 ((w3.setCell ⟨w.heap.size,0,none⟩ (.int .i64 nc.kind)).setCell ⟨w.heap.size,1,none⟩ (.string nc.name)) w.heap.size #[.int .i64 nc.kind, .string nc.name] 98:=(HB3.out.set 0 _).set 1 _;have n1:=(HB1c.out.keep hg23 A5).keep hs (by simp);have n2:=(HB2c.out.keep hg23 A5).keep hs (by simp);have n3:=D5 (A1 HGR.out hg23) hs (fun k e=>by cases e;exact .inl (Nat.le_refl _))
    have HM:Hid (muT L w.heap.size ((w3.setCell ⟨w.heap.size,0,none⟩ (.int .i64 nc.kind)).setCell ⟨w.heap.size,1,none⟩ (.string nc.name))<muT L w.heap.size wr):=by
     unfold Hid;rw[b3g n0,b3g HB0c.out];obtain⟨k',-,-,-,-,h5⟩:=HC2.out;exact h5
    clear c0 c1 o0 o1 d0 d1 e0 e1 z0 z1;go_roundw
    case rel=>
     obtain⟨k',g1,g2,g3,g4,g5⟩:=HC2.out;exact⟨k',nc,g1,g2,g3,g4,n0,n1,n2,n3⟩
    case measure=>exact HM.out
theorem c1B(w:World)(b:Nat)(a:Int)(cs ms:ByteArray)(op:Nat)(v:Value)(h3:¬(op:Int)=3)(h23:¬(op:Int)=23)(h26:¬(op:Int)=26)(h27:¬(op:Int)=27):
 Calls prog 296 #[.pointer (some ⟨b,0,none⟩), .agg #[.int .i64 op, .int .i64 a, .string cs, .string ms],v] w fun e w'=>e= .returned (.bool true)∧w.grownBy w' none:=by
 have HG0:Hid (w.grownBy (w.alloc (.cells #[.int .i64 op, .int .i64 a, .string cs, .string ms] 120)) none):=A2 _ _ _;go_enter func296,ntmps296;go_wp2_with fail
 all_goals exact bodyPost_ret (v:= .bool true) (by simp[results,results296,go_sem]) rfl ⟨rfl,HG0.out⟩
theorem b0f(w:World)(lim b:Nat)(L:List Cl)(p:Addr)(cap m1 m2 m3:Nat)(q:Nat→Qs)(h:Hid (Lk w lim b L p cap m1 m2 m3 q))(hl:lim≤w.heap.size)(i:In)(tk:List Ty)(ta:Option Addr)(k:Nat)(h2:Op2 i):
 Calls prog 296 #[.pointer (some ⟨b,0,none⟩), .agg #[.int .i64 i.op, .int .i64 i.a, .string i.cls, .string i.mem], .slice ta tk.length k] w fun e w'=>e= .returned (.bool (O6 L i tk))∧w.grownBy w' none:=by
 obtain⟨op,a,cs,ms⟩:=i;have h2:op=2∨op=20:=h2;have:O6 L ⟨op,a,cs,ms⟩ tk=true:=by rcases h2 with rfl|rfl<;>rfl
 dsimp only;rw[this];exact c1B w b a cs ms op _ (by omega) (by omega) (by omega) (by omega)
structure a1D(L:List Cl)(i:In):Prop where
 ok:a4n L i
 few:(a0V L i).params.length≤1000
 okin:P0 i
theorem b0b(t:Ty):(a1i t).length≤1:=by
 unfold a1i;by_cases c:t.kind=0
 ·rw[if_pos c];exact Nat.le_of_ble_eq_true rfl
 ·rw[if_neg c];exact Nat.le_refl _
variable {i:In}
theorem a8O{m:Me}(h:a1D L i):G8 L m i≤1001:=by
 have h2:i.op=2∨i.op=20:=h.ok.two;unfold G8 F6;rcases h2 with e|e<;>rw[e]
 ·exact Nat.zero_le _
 ·exact Nat.le_trans (b0b _) (by omega)
theorem a9q:M6 L i≤2:=by
 unfold M6 C6;repeat' split
 all_goals first|exact Nat.le_of_ble_eq_true rfl|exact Nat.le_trans (b0b _) (by omega)
theorem a9e(h:U2 i=true):M6 L i=0:=by
 unfold U2 at h;have:i.op=20∨i.op=30:=by simpa using h
 unfold M6 C6;rcases this with e|e<;>simp[e]
theorem b2Q(k:Int)(n:ByteArray)(w:World):(Instr.field 98 (.agg #[.int .i64 k, .string n]) 0).run prog w= .ok (.int .i64 k) w:=by kernel_rfl
theorem b2n(p:Addr)(a b:Nat):(p.add a).add b=p.add (a+b):=by
 unfold Addr.add;by_cases h:a=0
 ·subst h;simp
 ·by_cases h2:b=0
  ·subst h2;simp
  ·simp[h,h2,Nat.add_assoc]
theorem a4w:∀{a b:List Ty},a.length=b.length→(∀r,r<a.length→D4 L (a.getD r B1) (b.getD r B1)=true)→Z1 L a b=true
 | [],[],_,_=>rfl
 | [],_::_,h,_=>by simp at h
 |_::_,[],h,_=>by simp at h
 |x::a,y::b,h,hu=>by
  have h0:=hu 0 (by simp);simp only[List.getD_cons_zero]at h0;simp only[Z1,h0,Bool.true_and];exact a4w (by simpa using h) (fun r hr=>by have:=hu (r+1) (by simp;omega);simpa using this)
theorem a8a{L:List Cl}:∀{a b:List Ty} (r:Nat),r<a.length→r<b.length→D4 L (a.getD r B1) (b.getD r B1)=false→Z1 L a b=false
 | [],_,r,h,_,_=>by simp at h
 |_::_,[],r,_,h,_=>by simp at h
 |x::a,y::b,0,_,_,hu=>by
  simp only[List.getD_cons_zero]at hu;simp[Z1,hu]
 |x::a,y::b,r+1,h1,h2,hu=>by
  have:=a8a (L:=L) (a:=a) (b:=b) r (by simpa using h1) (by simpa using h2) (by simpa using hu);simp[Z1,this]
theorem b5W(w:World)(lim b:Nat)(L:List Cl)(p:Addr)(cap m1 m2 m3:Nat)(q:Nat→Qs)(h:Hid (Lk w lim b L p cap m1 m2 m3 q))(hl:lim≤w.heap.size)(m:Me)(pa ca ha:Option Addr)(pk ck hk:Nat)(i:In)(hi:a1D L i)(fv:Value)(hfv:fv= .func (.func 253) #[] #[])(ty:Ty→Ty)(xs ys:List (Ty))(sa la:Option Addr)(sk lk:Nat)(l2:Nat)(hl2:l2≤w.heap.size)(hs:Hid (B8 w l2 2 C9 sa xs))(hly:Hid (B8 w l2 2 C9 la ys))
 (hsn:xs.length≤1000) (hyn:ys.length≤1000) (hsk:xs.length≤sk) (hsl:xs.length≤m.stack) (hms:m.stack≤1000) (hml:m.locals≤1000)
 (HTO:Hid (∀x,x∈xs∨x∈ys→(ty x).name.size≤maxLen∧((ty x).kind=5→(ty x).name=⟨#[]⟩)∧∀W,w.grownBy W none→Calls prog 253 #[.agg #[.int .i64 (x).kind, .string (x).name]] W fun e w'=>e= .returned (.agg #[.int .i64 (ty x).kind, .string (ty x).name])∧W.grownBy w' none)) (hop2:i.op=2→i.a.toNat<ys.length):
 Calls prog 252 #[.pointer (some ⟨b,0,none⟩), .agg (mV m pa pk ca ck ha hk), .agg #[.int .i64 i.op, .int .i64 i.a, .string i.cls, .string i.mem], .slice sa xs.length sk, .slice la ys.length lk,fv] w fun e w'=>e= .returned (.bool (U1 L m i (xs.map ty) (ys.map ty)))∧w.grownBy w' none:=by
 subst hfv;have HG0:Hid (w.grownBy ((w.alloc (.cells (mV m pa pk ca ck ha hk) 102)).alloc (.cells #[.int .i64 i.op, .int .i64 i.a, .string i.cls, .string i.mem] 120)) none):=A1 (A2 _ _ _) (A2 _ _ _);have HE:=A0 (fun W hW=>a7Y W lim b L p cap m1 m2 m3 q (h.out.keep hW hl) (Nat.le_trans hl hW.size) m pa ca ha pk ck hk i hi.ok)
 have HU:Hid (∀W (s u:Ty),w.grownBy W none→s.name.size≤maxLen→Calls prog 295 #[.pointer (some ⟨b,0,none⟩), .agg #[.int .i64 s.kind, .string s.name], .agg #[.int .i64 u.kind, .string u.name]] W fun e w'=>e= .returned (.bool (D4 L s u))∧W.grownBy w' none):=
  fun W s u hg hs=>a8v W lim b L p cap m1 m2 m3 q (h.out.keep hg hl) (Nat.le_trans hl hg.size) s u hs
 have HF:Hid (∀W (tk:List Ty) (ta:Option Addr) (k:Nat),w.grownBy W none→Calls prog 296 #[.pointer (some ⟨b,0,none⟩), .agg #[.int .i64 i.op, .int .i64 i.a, .string i.cls, .string i.mem], .slice ta tk.length k] W fun e w'=>e= .returned (.bool (O6 L i tk))∧W.grownBy w' none):=
  fun W tk ta k hg=>b0f W lim b L p cap m1 m2 m3 q (h.out.keep hg hl) (Nat.le_trans hl hg.size) i tk ta k hi.ok.two
 have HMb:=A0 (fun W (hW:((w.alloc (.cells (mV m pa pk ca ck ha hk) 102)).alloc (.cells #[.int .i64 i.op, .int .i64 i.a, .string i.cls, .string i.mem] 120)).grownBy W none)=>((A3.new w (mV m pa pk ca ck ha hk) 102).keep (A2 _ _ none) A5).keep hW A5)
 have HIb:Hid (∀W,((w.alloc (.cells (mV m pa pk ca ck ha hk) 102)).alloc (.cells #[.int .i64 i.op, .int .i64 i.a, .string i.cls, .string i.mem] 120)).grownBy W none→A3 W (w.heap.size+1) #[.int .i64 i.op, .int .i64 i.a, .string i.cls, .string i.mem] 120):=fun W hW=>by
  exact c5m
 have htn:G8 L m i≤1001:=a8O hi;have hpn:M6 L i≤2:=a9q;have hend:U2 i=true→M6 L i=0:=a9e;have hoki:=hi.okin;unfold U1 a7z a2d;rw[List.length_map];obtain⟨TT,hTT⟩:∃TT,TT=F6 L m i:=⟨_,rfl⟩
 obtain⟨PP,hPP⟩:∃PP,PP=C6 L i:=⟨_,rfl⟩
 have htt:G8 L m i=TT.length:=by rw[hTT];rfl
 have hpp:M6 L i=PP.length:=by rw[hPP];rfl
 unfold a6s at HE;rw[←hTT,←hPP]at HE;rw[←hTT];rw[htt]at htn⊢;rw[hpp]at hpn hend⊢;clear hTT hPP htt hpp h hl hi;obtain⟨tn,htn0⟩:∃tn,tn=TT.length:=⟨_,rfl⟩
 obtain⟨pn,hpn0⟩:∃pn,pn=PP.length:=⟨_,rfl⟩
 have HTN:=A0 htn0;rw[←htn0]at htn HE⊢;rw[←hpn0]at hpn hend HE⊢;clear htn0 hpn0;obtain⟨n,hn0⟩:∃n,n=xs.length:=⟨_,rfl⟩
 have HN:=A0 hn0;rw[←hn0]at hsn hsk hsl⊢;clear hn0;obtain⟨eb,heb⟩:∃eb,eb=U2 i:=⟨_,rfl⟩
 rw[←heb]at hend HE;clear heb;have HPP:=A0 hend;clear hend;obtain⟨ans,hans⟩:∃ans,ans=(decide (tn≤n)&&decide (n-tn+pn≤m.stack)&&(if i.op=2 then decide (((ys.map ty).getD i.a.toNat B1).kind≠0)else Z1 L ((xs.map ty).drop (n-tn)) TT&&O6 L i ((xs.map ty).drop (n-tn)))):=⟨_,rfl⟩
 have HANS:=A0 hans;rw[←hans];clear hans;go_enter func252,ntmps252;have hqm:=(HMb.out _ (I8 _ _)).cell 4 _ rfl;go_wp2_with (go_at_call 197;refine(HE.out _ HG0.out).mono ?_)
 rintro e w1 ⟨hg1,v1,rfl,ta,tk,ua,uk,rfl,hot,hou⟩;have M4:=(HMb.out _ hg1).c4;have hv1:=(HIb.out _ hg1).lt;have hv0:=Nat.lt_of_succ_lt hv1;clear hqm;have HBH:=A0 (fun W=>a8s W ta ua tn tk pn uk n m.stack eb (by omega) (by omega) (by omega) (by omega));by_cases hroom:tn≤n∧n-tn+pn≤m.stack
 ·have hbv:∃bh,j8 tn pn n m.stack eb= .tuple #[bh, .bool true]:=by
   exact c6b
  obtain⟨bh,hbh⟩:=hbv;rw[hbh]at HBH;have hres:(decide (tn≤n)&&decide (n-tn+pn≤m.stack))=true:=by simp[hroom]
  clear hbh;have htle:=hroom.1;clear hroom;go_upto_region 5 with(go_at_call 275;refine(HBH.out _).mono ?_;rintro e w2 ⟨rfl,hg2⟩)
  have hW2:=A1 (A1 (A1 HG0.out hg1) (A2 _ _ _)) hg2;have HW2:=A0 hW2;have hgw:=A1 (A1 hg1 (A2 _ _ _)) hg2;have HGW:=A0 hgw;obtain⟨I0,I1⟩:=(HIb.out _ hgw).q2;by_cases h2:i.op=2
  ·have h2i:(i.op:Int)=2:=by omega
   obtain⟨k,hk⟩:∃k:Nat,i.a=(k:Int):=⟨i.a.toNat,by have:=hoki.2 (by omega);omega⟩
   have hkl:k<ys.length:=by have:=hop2 h2;rw[hk]at this;simpa using this
   obtain⟨pl,rfl,-,hcl⟩:=hly.out.keep hW2 k hkl;have L0:w2.cell? (pl.add (k*2))=some (.int .i64 (ys[k]).kind):=hcl 0 _ rfl;have L1:w2.cell? ⟨(pl.add (k*2)).block,(pl.add (k*2)).off+1,none⟩=some (.string (ys[k]).name):=by rw[C0 pl (k*2) 0];exact hcl 1 _ rfl
   have hT:=(HTO.out (ys[k]) (.inr (List.getElem_mem hkl))).2.2;have HT:=A0 hT
   have hA:Hid (ans=decide ((ty (ys[k])).kind≠0)):=by
    unfold Hid;rw[HANS.out,hres,Bool.true_and,if_pos h2,hk];simp[hkl]
   have hkI:(k:Int)<(ys.length:Int):=by omega
   generalize ty (ys[k])=t at HT hA;generalize ys[k]=y at L0 L1 HT;obtain⟨y1,y2⟩:=y;dsimp only at L0 L1 HT;clear hcl hT hres h2 hop2 hoki;rw[hk]at I1;have hfd:=b2Q;by_cases hk0:(t.kind:Int)=0
   ·have hk0n:t.kind=0:=by omega
    obtain⟨tk0,tn0⟩:=t;dsimp only at hk0n;subst hk0n;clear hk0;go_wp2_with (go_at_call 253;refine(HT.out _ HW2.out).mono ?_;rintro e w3 ⟨rfl,hg3⟩)
    all_goals exact bodyPost_ret (v:= .bool false) (by simp[results,results252,go_sem]) rfl ⟨by rw[hA.out];simp,A1 HW2.out hg3⟩
   ·have hk0n:¬t.kind=0:=by omega
    go_wp2_with (go_at_call 253;refine(HT.out _ HW2.out).mono ?_;rintro e w3 ⟨rfl,hg3⟩)
    all_goals exact bodyPost_ret (v:= .bool true) (by simp[results,results252,go_sem,hk0,hk0n]) rfl ⟨by rw[hA.out];simp[hk0n],A1 HW2.out hg3⟩
  ·have h2i:¬(i.op:Int)=2:=by omega
   have h2b:((i.op:Int)==2)=false:=by simp[h2i]
   obtain⟨s,hs0⟩:∃s,s=n-tn:=⟨_,rfl⟩
   have hsI:(n:Int)-(tn:Int)=(s:Int):=by omega
   have hst:n-s=tn:=by omega
   have hsle:s≤n:=by omega
   have hskI:s≤sk:=by omega
   have HA:Hid (ans=(Z1 L ((xs.map ty).drop s) TT&&O6 L i ((xs.map ty).drop s))):=by
    unfold Hid;rw[HANS.out,hres,Bool.true_and,if_neg h2,hs0]
   have HSN:Hid (s+tn=xs.length):=by unfold Hid;rw[←HN.out];omega
   have hE:=(A3.new w1 #[.slice ta tn tk, .slice ua pn uk, .bool eb] 315).keep hg2 A5;have HEb:=A0 hE;have E0:=hE.c0;have hot2:=A0 ((hot.kept (A2 _ _ none) (by cases hv:(Value.slice ta tn tk).ownBlock<;>simp)).kept hg2 (by cases hv:(Value.slice ta tn tk).ownBlock<;>simp));clear hs0 hres hE hou hoki hop2 I1;cases sa with
   |none=>
    have hn0:n=0:=by
     exact c6p
    subst hn0;exact a0v
   |some p0=>
    by_cases hcap:sk=s
    ·have hcap':=hcap;exact a0v
    ·have hadd:∀j:Nat,(p0.add (s*2)).add (j*2)=p0.add ((s+j)*2):=fun j=>by rw[b2n,Nat.add_mul]
     have HX:Hid (∀W,w.grownBy W none→∀j (hj:s+j<xs.length),W.cell? ((p0.add (s*2)).add (j*2))=some (.int .i64 (xs[s+j]).kind)∧W.cell? ⟨((p0.add (s*2)).add (j*2)).block,((p0.add (s*2)).add (j*2)).off+1,none⟩=some (.string (xs[s+j]).name)):=fun W hW j hj=>by
      exact c6g
     clear hadd hs;obtain⟨inf,ii0,iz0,iz1,iz2⟩:=info_parts a5S;obtain⟨zt,hzt⟩:∃zt,zt=(xs.map ty).drop s:=⟨_,rfl⟩
     have hzl:zt.length=tn:=by rw[hzt,List.length_drop,List.length_map,←HSN.out];omega
     have HZL:=A0 hzl
     have HZ:Hid (∀r (hr:s+r<xs.length),zt.getD r B1=ty (xs[s+r])):=fun r hr=>by
      exact c6s
     have HZM:Hid (∀t∈zt,t.name.size≤maxLen∧(t.kind=5→t.name=⟨#[]⟩)):=fun t ht=>by
      exact c6j
     have HA2:Hid (ans=(Z1 L zt TT&&O6 L i zt)):=by unfold Hid;rw[HA.out,hzt]
     clear hzt HA hzl;go_wp2_with fail
     go_loopw [16,56] (fun tv c wr=>∃(j:Nat) (a':Option Addr) (k':Nat),c= .int .i64 j∧tv= .slice a' j k'∧j≤tn∧wr.ownsRow w2.heap.size 98 2 (.slice a' j k') j ((zt.take j).flatMap C9)∧(∀r,r<j→D4 L (zt.getD r B1) (TT.getD r B1)=true)∧w2.grownBy wr none) (fun _ c _=>tn-(intOf c).toNat)
     case atStart=>exact c6i
     case round=>
      obtain⟨j,a',k',rfl,rfl,hj,hown,hall,hgr⟩:=hrel;have HOWN:=A0 hown;have HALL:=A0 hall;have HG2:=A0 hgr;have HGR:=A0 (A1 HW2.out hgr);have E0r:=hgr.cell E0 A5;clear hown hall hgr E0;have E0:=E0r;clear E0r;by_cases hlt:j<tn
      ·have hjx:s+j<xs.length:=by rw[←HSN.out];omega
       have hX:=HX.out wr HGR.out j hjx;obtain⟨X0,X1⟩:=hX;have hTO:=HTO.out (xs[s+j]) (.inl (List.getElem_mem hjx));have HZJ:=A0 (HZ.out j hjx);obtain⟨xt,hxt⟩:∃xt,xt=ty (xs[s+j]):=⟨_,rfl⟩
       rw[←hxt]at hTO HZJ;have HTJ:=A0 hTO.2.2;have hxs:=hTO.1;clear hTO hxt;generalize xs[s+j]=x at X0 X1 HTJ;obtain⟨x1,x2⟩:=x;dsimp only at X0 X1 HTJ;obtain⟨gt,gcap,hgt,-,-⟩:=hot2.out.form (by omega);injection hgt with hgt hgt2 hgt3
       have hotr:=hot2.out.kept HG2.out (by cases hv:(Value.slice ta tn tk).ownBlock<;>simp);obtain⟨yt,hyt⟩:∃yt,yt=TT.getD j B1:=⟨_,rfl⟩
       have HYT:=A0 hyt;have hjT:j<TT.length:=by rw[←HTN.out];exact hlt
       have Y0:wr.cell? ⟨gt,j*2,none⟩=some (.int .i64 yt.kind):=by
        exact a5s
       have Y1:wr.cell? ⟨gt,j*2+1,none⟩=some (.string yt.name):=by
        exact c5k
       clear hyt hotr hgt2 hgt3;subst hgt;have hgB:w.grownBy (wr.alloc (.cells #[.int .i64 ((⟨x1,x2⟩:Ty)).kind, .string ((⟨x1,x2⟩:Ty)).name] 98)) none:=A1 HGR.out (A2 _ _ _);have hjI:(j:Int)<(tn:Int):=by omega
       by_cases hu:D4 L xt yt=true
       ·have HUJ:Hid (∀W,w.grownBy W none→Calls prog 295 #[.pointer (some ⟨b,0,none⟩), .agg #[.int .i64 xt.kind, .string xt.name], .agg #[.int .i64 yt.kind, .string yt.name]] W fun e w'=>e= .returned (.bool true)∧W.grownBy w' none):=fun W hW=>by
         have:=HU.out W xt yt hW hxs;rw[hu]at this;exact this
        have HUA:Hid (∀r,r<j+1→D4 L (zt.getD r B1) (TT.getD r B1)=true):=fun r hr=>by
         exact c7h
        clear hu;go_upto_region 12 with(go_at_call 253;refine(HTJ.out _ hgB).mono ?_;rintro e w4 ⟨rfl,hg4⟩)
        have hgr4:wr.grownBy (w4.alloc (.cells #[.int .i64 xt.kind, .string xt.name] 98)).drew none:=A1 (A1 (A1 (A2 _ _ none) hg4) (A2 _ _ _)) (B6 _ _);have hgA:=A1 HGR.out hgr4;have hq:=(A3.new w4 #[.int .i64 xt.kind, .string xt.name] 98).keep (B6 _ none) A5;obtain⟨Q0,Q1⟩:=hq.q2;have Q2:=hgr4.cell E0 A5;have Q3:=hgr4.cell Y0 A5;have Q4:=hgr4.cell Y1 A5;clear hq;refine wp_region_held_drew (S:=(fun w'=>w'.cell? ⟨w4.heap.size,0,none⟩=some (.int .i64 xt.kind)∧w'.cell? ⟨w4.heap.size,1,none⟩=some (.string xt.name)∧w'.cell? ⟨w1.heap.size,0,none⟩=some (.slice (some ⟨gt,0,none⟩) tn tk)∧w'.cell? ⟨gt,j*2,none⟩=some (.int .i64 yt.kind)∧w'.cell? ⟨gt,j*2+1,none⟩=some (.string yt.name))) (by kernel_rfl) (⟨Q0,Q1,Q2,Q3,Q4⟩) (fun hHeld=> ?_);refine A4 0 ?_;refine A4 1 ?_;refine A4 2 ?_;refine A4 3 ?_;refine A4 4 ?_;refine A4 5 ?_;refine A4 6 ?_;refine T6 7 fun K hK=> ?_;go_simp
        go_wp2_with (go_at_call 295;refine(HUJ.out _ hgA).mono ?_;rintro e w5 ⟨rfl,hg5⟩)
        refine hK.out _ _ ?_ (fun hHeld=> ?_)
        case refine_1=>exact a6u
        try clear hK K
        try simp only[Act.put,lz]
        refine A4 8 ?_;refine wpAnyH_done (by kernel_rfl) ?_ _;have hgr5:=A1 hgr4 hg5;have r0:=hg5.cell Q0 A5;have r1:=hg5.cell Q1 A5;have hw5:=(A1 HG2.out (A1 hgr4 hg5)).size;have HO5:Hid ((w5.alloc (.cells #[.int .i64 xt.kind, .string xt.name] 98)).ownsRow w2.heap.size 98 2 (.slice a' j k') j ((zt.take j).flatMap C9)):=(HOWN.out.kept hgr5 (by cases hv:(Value.slice a' j k').ownBlock<;>simp)).kept (A2 _ _ none) (by cases hv:(Value.slice a' j k').ownBlock<;>simp)
        have htk:(zt.take (j+1)).flatMap C9=(zt.take j).flatMap C9++ [.int .i64 xt.kind, .string xt.name]:=by
         exact c5q
        go_wp2_with (at_builtin;go_loud (refine a7U rfl _ _ 96 rfl w2.heap.size 98 inf _ 2 24 underlying96 ii0 iz0 iz1 iz2 rfl (by decide) a' j k' ((zt.take j).flatMap C9) rfl HO5.out (some ⟨w5.heap.size,0,none⟩) 1 1 [.int .i64 xt.kind, .string xt.name] rfl rfl (fun jj u hu=>⟨_,rfl,S6 w5 _ _ jj u hu⟩) (by simp[Value.oneCell']) (by unfold maxLen;omega) (by omega) (Nat.le_trans hw5 (A2 w5 _ none).size) ?_;intro a7 k7 w7 hown7 hg7))
        have hg57:=D5 (A1 (A1 HG2.out hgr5) (A2 _ _ _)) hg7 (fun k e=> .inl (Y4 HO5.out e).1);go_roundw
        case rel=>exact c7k
        case measure=>simp[intOf];omega
       ·have hu':D4 L xt yt=false:=by simpa using hu
        have HUJ:Hid (∀W,w.grownBy W none→Calls prog 295 #[.pointer (some ⟨b,0,none⟩), .agg #[.int .i64 xt.kind, .string xt.name], .agg #[.int .i64 yt.kind, .string yt.name]] W fun e w'=>e= .returned (.bool false)∧W.grownBy w' none):=fun W hW=>by
         have:=HU.out W xt yt hW hxs;rw[hu']at this;exact this
        have hA:Hid (ans=false):=by
         exact c6u
        clear hu hu';go_upto_region 12 with(go_at_call 253;refine(HTJ.out _ hgB).mono ?_;rintro e w4 ⟨rfl,hg4⟩)
        have hgr4:wr.grownBy (w4.alloc (.cells #[.int .i64 xt.kind, .string xt.name] 98)).drew none:=A1 (A1 (A1 (A2 _ _ none) hg4) (A2 _ _ _)) (B6 _ _);have hgA:=A1 HGR.out hgr4;have hq:=(A3.new w4 #[.int .i64 xt.kind, .string xt.name] 98).keep (B6 _ none) A5;obtain⟨Q0,Q1⟩:=hq.q2;have Q2:=hgr4.cell E0 A5;have Q3:=hgr4.cell Y0 A5;have Q4:=hgr4.cell Y1 A5;clear hq;refine wp_region_held_drew (S:=(fun w'=>w'.cell? ⟨w4.heap.size,0,none⟩=some (.int .i64 xt.kind)∧w'.cell? ⟨w4.heap.size,1,none⟩=some (.string xt.name)∧w'.cell? ⟨w1.heap.size,0,none⟩=some (.slice (some ⟨gt,0,none⟩) tn tk)∧w'.cell? ⟨gt,j*2,none⟩=some (.int .i64 yt.kind)∧w'.cell? ⟨gt,j*2+1,none⟩=some (.string yt.name))) (by kernel_rfl) (⟨Q0,Q1,Q2,Q3,Q4⟩) (fun hHeld=> ?_);refine A4 0 ?_;refine A4 1 ?_;refine A4 2 ?_;refine A4 3 ?_;refine A4 4 ?_;refine A4 5 ?_;refine A4 6 ?_;refine T6 7 fun K hK=> ?_;go_simp
        go_wp2_with (go_at_call 295;refine(HUJ.out _ hgA).mono ?_;rintro e w5 ⟨rfl,hg5⟩)
        refine hK.out _ _ ?_ (fun hHeld=> ?_)
        case refine_1=>exact a6u
        try clear hK K
        try simp only[Act.put,lz]
        refine A4 8 ?_;refine wpAnyH_done (by kernel_rfl) ?_ _;go_wp2_with fail
        all_goals exact bodyPost_ret (v:= .bool false) (by simp[results,results252,go_sem]) rfl ⟨by rw[hA.out],A1 hgA hg5⟩
      ·have hjn:j=tn:=by omega
       subst hjn
       have hA:Hid (ans=O6 L i zt):=by
        exact c6m
       have hown2:=HOWN.out;rw[List.take_of_length_le (by rw[HZL.out];exact Nat.le_refl _)]at hown2
       have HFB:Hid (Calls prog 296 #[.pointer (some ⟨b,0,none⟩), .agg #[.int .i64 i.op, .int .i64 i.a, .string i.cls, .string i.mem], .slice a' j k'] wr fun e w'=>e= .returned (.bool (O6 L i zt))∧wr.grownBy w' none):=by
        have:=HF.out wr zt a' k' HGR.out;rw[HZL.out]at this;exact this
       have I0r:=(HIb.out _ (A1 HGW.out HG2.out)).cell 0 _ rfl;have I1r:=(HIb.out _ (A1 HGW.out HG2.out)).cell 1 _ rfl;have I2r:=(HIb.out _ (A1 HGW.out HG2.out)).cell 2 _ rfl;have I3r:=(HIb.out _ (A1 HGW.out HG2.out)).cell 3 _ rfl;go_wp2_with (go_at_call 296;refine HFB.out.mono ?_;rintro e w8 ⟨rfl,hg8⟩)
       all_goals exact bodyPost_ret (v:= .bool (O6 L i zt)) (by simp[results,results252,go_sem]) rfl ⟨by rw[hA.out],A1 HGR.out hg8⟩
 ·have hbv:∃bh,j8 tn pn n m.stack eb= .tuple #[bh, .bool false]:=by
   exact a6y
  obtain⟨bh,hbh⟩:=hbv;rw[hbh]at HBH;have hres:(decide (tn≤n)&&decide (n-tn+pn≤m.stack))=false:=by simp;omega
  have hW1:w.grownBy (w1.alloc (.cells #[.slice ta tn tk, .slice ua pn uk, .bool eb] 315)) none:=A1 (A1 HG0.out hg1) (A2 _ _ _);have hA:Hid (ans=false):=by unfold Hid;rw[HANS.out,hres,Bool.false_and]
  clear hbh hroom hres;go_wp2_with (go_at_call 275;refine(HBH.out _).mono ?_;rintro e w2 ⟨rfl,hg2⟩)
  all_goals exact bodyPost_ret (v:= .bool false) (by simp[results,results252,go_sem]) rfl ⟨by rw[hA.out],A1 hW1 hg2⟩
end Kx
namespace Cf
def sq(s:List (List Bool))(a h:Nat):Bool:=(s.getD a []).getD h false
def wq(s:List Bool)(a:Nat):Bool:=s.getD a false
def a0b(s:List (List Bool))(a h:Nat):List (List Bool):=s.set a ((s.getD a []).set h true)
theorem a3R{α:Type}(l:List α)(n j:Nat)(x d:α):(l.set n x).getD j d=if n=j∧j<l.length then x else l.getD j d:=by
 simp only[List.getD_eq_getElem?_getD,List.getElem?_set];by_cases h:n=j
 ·subst h;by_cases h2:n<l.length
  ·simp[h2]
  ·simp[h2]
 ·simp[h]
theorem b1C(s:List (List Bool))(a h b:Nat):((a0b s a h).getD b []).length=(s.getD b []).length:=by
 unfold a0b;rw[a3R];split
 ·rename_i e;rw[List.length_set,e.1]
 ·rfl
theorem b1D(s:List (List Bool))(a h:Nat):(a0b s a h).length=s.length:=by unfold a0b;simp
variable {a h:Nat}
theorem a7n{s:List (List Bool)}(ha:a<s.length)(hh:h<(s.getD a []).length)(b k:Nat):sq (a0b s a h) b k=if a=b∧h=k then true else sq s b k:=by
 unfold sq a0b;rw[a3R];by_cases e:a=b
 ·subst e;rw[if_pos ⟨rfl,ha⟩,a3R];by_cases e2:h=k
  ·subst e2;rw[if_pos ⟨rfl,hh⟩,if_pos ⟨rfl,rfl⟩]
  ·rw[if_neg (by simp[e2]),if_neg (by simp[e2])]
 ·rw[if_neg (by simp[e]),if_neg (by simp[e])]
theorem a7o{s:List (List Bool)}(ha:a<s.length)(hh:h<(s.getD a []).length){b k:Nat}(hq:sq s b k=true):sq (a0b s a h) b k=true:=by
 rw[a7n ha hh];split<;>simp[hq]
def a5Z(s:List (List Bool)):Nat:=(s.map fun r=>r.countP (fun x=> !x)).sum
theorem b7g(r:List Bool)(h:Nat)(hh:h<r.length)(hf:r.getD h false=false):(r.set h true).countP (fun x=> !x)+1=r.countP (fun x=> !x):=by
 induction r generalizing h with
 |nil=>simp at hh
 |cons x r ih=>
  cases h with
  |zero=>
   have:x=false:=by simpa using hf
   subst this;simp
  |succ h=>
   have h1:=ih h (by simpa using hh) (by simpa using hf);rw[List.set_cons_succ,List.countP_cons,List.countP_cons];omega
theorem b5r{s:List (List Bool)}(ha:a<s.length)(hh:h<(s.getD a []).length)(hf:sq s a h=false):a5Z (a0b s a h)+1=a5Z s:=by
 unfold a5Z a0b;induction s generalizing a with
 |nil=>simp at ha
 |cons r s ih=>
  cases a with
  |zero=>
   have:=b7g r h (by simpa using hh) (by simpa[sq]using hf);simp only[List.getD_cons_zero,List.set_cons_zero,List.map_cons,List.sum_cons];omega
  |succ a=>
   have:=ih (a:=a) (by simpa using ha) (by simpa using hh) (by simpa[sq]using hf);simp only[List.getD_cons_succ,List.set_cons_succ,List.map_cons,List.sum_cons]at this⊢;omega
structure Wk where
 seen:List (List Bool)
 wrong:List Bool
 heights:List Int
 work:List (Nat×Nat)
structure U3(l:List Cl)(m:Me)(s:Wk):Prop where
 len1:s.seen.length=m.code.length
 row:∀a,a<m.code.length→(s.seen.getD a []).length=m.stack+1
 len2:s.wrong.length=m.code.length
 len3:s.heights.length=m.code.length
 snd:∀a h,sq s.seen a h=true→F9 l m a h
 wrs:∀a,wq s.wrong a=true→a1k l m a
 none_:∀a,s.heights.getD a (-1)= -1→∀h,sq s.seen a h=false
 some_:∀a,s.heights.getD a (-1)≠-1→∃h:Nat,s.heights.getD a (-1)=h∧sq s.seen a h=true
 two:∀a h k,h≠k→sq s.seen a h=true→sq s.seen a k=true→wq s.wrong a=true
 work:∀p∈s.work,sq s.seen p.1 p.2=true
def a4W(l:List Cl)(m:Me)(s:Wk)(a h:Nat):Prop:=
 (∀p∈a1E l m a h,sq s.seen p.1 p.2=true)∧(j6 l m a h=false→wq s.wrong a=true)∧((∃d∈m.handlers,a0C d a=true)→m.stack=0→wq s.wrong a=true)
def p8(l:List Cl)(m:Me)(s:Wk)(cur:Option (Nat×Nat)):Prop:=∀a h,sq s.seen a h=true→(a,h)∈s.work∨cur=some (a,h)∨a4W l m s a h
structure a3E(s t:Wk):Prop where
 seen:∀a h,sq s.seen a h=true→sq t.seen a h=true
 wrong:∀a,wq s.wrong a=true→wq t.wrong a=true
theorem a3E.refl(s:Wk):a3E s s:=⟨fun _ _ h=>h,fun _ h=>h⟩
variable {l:List Cl}
variable {m:Me}
variable {s t:Wk}
theorem a4W.up(hu:a3E s t)(hd:a4W l m s a h):a4W l m t a h:=
 ⟨fun p hp=>hu.seen _ _ (hd.1 p hp),fun e=>hu.wrong _ (hd.2.1 e),fun e e2=>hu.wrong _ (hd.2.2 e e2)⟩
theorem a5Y{s:List Bool}(ha:a<s.length)(b:Nat):wq (s.set a true) b=if a=b then true else wq s b:=by
 unfold wq;rw[a3R];by_cases e:a=b
 ·subst e;simp[ha]
 ·simp[e]
def V0(s:Wk)(a h:Nat):Wk:=
 if sq s.seen a h then s else
  {seen:=a0b s.seen a h,work:=s.work++ [(a,h)]
   heights:=if s.heights.getD a (-1)= -1 then s.heights.set a h else s.heights
   wrong:=if s.heights.getD a (-1)= -1 then s.wrong else s.wrong.set a true}
def a2F(s:Wk)(a:Nat):Wk:={s with wrong:=s.wrong.set a true}
def a1u(s:Wk):Nat:=2*a5Z s.seen+s.work.length
theorem a8k(hs:U3 l m s)(ha:a<m.code.length)(hh:h≤m.stack):a3E s (V0 s a h):=by
 unfold V0;split
 ·exact a3E.refl s
 ·have h1:a<s.seen.length:=by rw[hs.len1];exact ha
  have h2:h<(s.seen.getD a []).length:=by rw[hs.row a ha];omega
  refine⟨fun b k hq=>a7o h1 h2 hq,fun b hq=> ?_⟩;dsimp only;split
  ·exact hq
  ·rw[a5Y (by rw[hs.len2];exact ha)];split<;>simp[hq]
theorem b0j(hs:U3 l m s)(ha:a<m.code.length)(hh:h≤m.stack):sq (V0 s a h).seen a h=true:=by
 unfold V0;split
 ·assumption
 ·have h1:a<s.seen.length:=by rw[hs.len1];exact ha
  have h2:h<(s.seen.getD a []).length:=by rw[hs.row a ha];omega
  dsimp only;rw[a7n h1 h2];simp
theorem b0G(hs:U3 l m s)(ha:a<m.code.length)(hh:h≤m.stack):a1u (V0 s a h)≤a1u s:=by
 unfold V0;split
 ·exact Nat.le_refl _
 ·rename_i hn;have h1:a<s.seen.length:=by rw[hs.len1];exact ha
  have h2:h<(s.seen.getD a []).length:=by rw[hs.row a ha];omega
  have:=b5r h1 h2 (by simpa using hn);unfold a1u;simp only[List.length_append,List.length_cons,List.length_nil];omega
theorem b0r(hs:U3 l m s)(ha:a<m.code.length)(hh:h≤m.stack)(hr:F9 l m a h):U3 l m (V0 s a h):=by
 unfold V0;split
 ·exact hs
 ·rename_i hn;have h1:a<s.seen.length:=by rw[hs.len1];exact ha
  have h2:h<(s.seen.getD a []).length:=by rw[hs.row a ha];omega
  have hq:=a7n h1 h2;have h3:a<s.wrong.length:=by rw[hs.len2];exact ha
  have h4:a<s.heights.length:=by rw[hs.len3];exact ha
  by_cases hz:s.heights.getD a (-1)= -1
  ·rw[if_pos hz,if_pos hz];have hno:=hs.none_ a hz;refine⟨by rw[b1D];exact hs.len1,fun b hb=>by rw[b1C];exact hs.row b hb,hs.len2,by rw[List.length_set];exact hs.len3,fun b k hk=> ?_,hs.wrs,fun b hb k=> ?_,fun b hb=> ?_,fun b k j hne hk hj=> ?_,fun p hp=> ?_⟩
   ·exact c7i
   ·dsimp only at hb⊢;rw[a3R]at hb;by_cases e:a=b
    ·subst e;rw[if_pos ⟨rfl,h4⟩]at hb;omega
    ·rw[if_neg (by simp[e])]at hb;rw[hq,if_neg (by simp[e])];exact hs.none_ b hb k
   ·dsimp only at hb⊢;rw[a3R]at hb⊢;by_cases e:a=b
    ·subst e;rw[if_pos ⟨rfl,h4⟩];exact⟨h,rfl,by rw[hq];simp⟩
    ·rw[if_neg (by simp[e])]at hb⊢;obtain⟨k,hk,hk2⟩:=hs.some_ b hb;exact⟨k,hk,by rw[hq,if_neg (by simp[e])];exact hk2⟩
   ·dsimp only at hk hj⊢;rw[hq]at hk hj;by_cases e:a=b
    ·subst e
     have f1:h=k:=by
      apply Classical.byContradiction;intro n1;rw[if_neg (by simp[n1]),hno k]at hk;cases hk
     have f2:h=j:=by
      apply Classical.byContradiction;intro n1;rw[if_neg (by simp[n1]),hno j]at hj;cases hj
     exact absurd (f1.symm.trans f2) hne
    ·rw[if_neg (by simp[e])]at hk hj;exact hs.two b k j hne hk hj
   ·exact c6q
  ·rw[if_neg hz,if_neg hz];obtain⟨k0,hk0,hsk0⟩:=hs.some_ a hz;have hne0:k0≠h:=fun e=>by rw[e]at hsk0;exact hn hsk0
   have hbad:a1k l m a:= .inr (.inr ⟨k0,h,hne0,hs.snd a k0 hsk0,hr⟩);have hw:=a5Y h3;refine⟨by rw[b1D];exact hs.len1,fun b hb=>by rw[b1C];exact hs.row b hb,by rw[List.length_set];exact hs.len2,hs.len3,fun b k hk=> ?_,fun b hb=> ?_,fun b hb k=> ?_,fun b hb=> ?_,fun b k j hne hk hj=> ?_,fun p hp=> ?_⟩
   ·exact c7i
   ·dsimp only at hb;rw[hw]at hb;split at hb
    ·rename_i e;rw[←e];exact hbad
    ·exact hs.wrs b hb
   ·dsimp only at hb⊢;have e:a≠b:=fun e=>by subst e;exact hz hb
    rw[hq,if_neg (by simp[e])];exact hs.none_ b hb k
   ·dsimp only at hb⊢;obtain⟨k,hk,hk2⟩:=hs.some_ b hb;exact⟨k,hk,a7o h1 h2 hk2⟩
   ·dsimp only at hk hj⊢;rw[hw];by_cases e:a=b
    ·simp[e]
    ·rw[if_neg e];rw[hq,if_neg (by simp[e])]at hk hj;exact hs.two b k j hne hk hj
   ·exact c6q
variable {cur:Option (Nat×Nat)}
theorem b0k(hs:U3 l m s)(ha:a<m.code.length)(hh:h≤m.stack)(hg:p8 l m s cur):p8 l m (V0 s a h) cur:=by
 have hup:=a8k hs ha hh;intro b k hk;by_cases hn:sq s.seen b k=true
 ·rcases hg b k hn with h1|h1|h1
  ·refine .inl ?_;unfold V0;split
   ·exact h1
   ·exact List.mem_append_left _ h1
  ·exact .inr (.inl h1)
  ·exact .inr (.inr (h1.up hup))
 ·refine .inl ?_;unfold V0 at hk⊢;split at hk
  ·exact absurd hk hn
  ·rename_i h0;rw[if_neg h0];have h1:a<s.seen.length:=by rw[hs.len1];exact ha
   have h2:h<(s.seen.getD a []).length:=by rw[hs.row a ha];omega
   dsimp only at hk⊢;rw[a7n h1 h2]at hk;split at hk
   ·rename_i e;rw[e.1,e.2];simp
   ·exact absurd hk hn
theorem b1x(hs:U3 l m s)(ha:a<m.code.length):a3E s (a2F s a):=
 ⟨fun _ _ h=>h,fun b hb=>by unfold a2F;dsimp only;rw[a5Y (by rw[hs.len2];exact ha)];split<;>simp[hb]⟩
theorem b7w(hs:U3 l m s)(ha:a<m.code.length)(hb:a1k l m a):U3 l m (a2F s a):=by
 have hw:=a5Y (s:=s.wrong) (a:=a) (by rw[hs.len2];exact ha);refine⟨hs.len1,hs.row,by unfold a2F;rw[List.length_set];exact hs.len2,hs.len3,hs.snd,fun b hb2=> ?_,hs.none_,hs.some_,fun b h k hne h1 h2=> ?_,hs.work⟩
 ·unfold a2F at hb2;dsimp only at hb2;rw[hw]at hb2;split at hb2
  ·rename_i e;rw[←e];exact hb
  ·exact hs.wrs b hb2
 ·exact(b1x hs ha).wrong b (hs.two b h k hne h1 h2)
theorem p8.up(hg:p8 l m s cur)(hu:a3E s t)(h1:t.seen=s.seen)(h2:t.work=s.work):p8 l m t cur:=fun a h hq=>by
 rw[h1]at hq;rw[h2];rcases hg a h hq with e|e|e
 ·exact .inl e
 ·exact .inr (.inl e)
 ·exact .inr (.inr (e.up hu))
def a2b(s:Wk):Wk:={s with work:=s.work.dropLast}
theorem b7v(hs:U3 l m s):U3 l m (a2b s):=
 ⟨hs.len1,hs.row,hs.len2,hs.len3,hs.snd,hs.wrs,hs.none_,hs.some_,hs.two,fun p hp=>hs.work p (List.dropLast_subset _ hp)⟩
theorem b6n{xs:List (Nat×Nat)}{p:Nat×Nat}(hw:s.work=xs++ [p])(hg:p8 l m s none):p8 l m (a2b s) (some p):=fun a h hq=>by
 have hu:a3E s (a2b s):=⟨fun _ _ h=>h,fun _ h=>h⟩
 rcases hg a h hq with e|e|e
 ·rw[hw]at e;rcases List.mem_append.1 e with e|e
  ·refine .inl ?_;unfold a2b;rw[hw];simpa using e
  ·exact .inr (.inl (by rw[List.mem_singleton.1 e]))
 ·cases e
 ·exact .inr (.inr (e.up hu))
theorem b8U(h:s.work≠ []):a1u (a2b s)+1=a1u s:=by
 unfold a1u a2b;have:=List.length_pos_iff.2 h;simp only[List.length_dropLast];omega
theorem p8.close(hg:p8 l m s (some (a,h)))(hd:a4W l m s a h):p8 l m s none:=fun b k hq=>by
 rcases hg b k hq with e|e|e
 ·exact .inl e
 ·cases e;exact .inr (.inr hd)
 ·exact .inr (.inr e)
theorem c1S(hs:U3 l m s)(hg:p8 l m s none)(h0:sq s.seen 0 0=true)(hw:s.work=[]):
 (∀a h,sq s.seen a h=true↔F9 l m a h)∧(∀a,wq s.wrong a=true↔a1k l m a):=by
 have hd:∀a h,sq s.seen a h=true→a4W l m s a h:=fun a h hq=>by
  rcases hg a h hq with e|e|e
  ·rw[hw]at e;cases e
  ·cases e
  ·exact e
 have hr:=fun a h (hr:F9 l m a h)=>a6P (S:=fun a h=>sq s.seen a h=true) ⟨h0,fun a h hq p hp=>(hd a h hq).1 p hp⟩ hr
 refine⟨fun a h=>⟨hs.snd a h,hr a h⟩,fun a=>⟨hs.wrs a,fun hb=> ?_⟩⟩;rcases hb with⟨h,h1,h2⟩|⟨h1,⟨h,h2⟩,h3⟩|⟨h,k,hne,h1,h2⟩
 ·exact(hd a h (hr a h h1)).2.1 h2
 ·exact(hd a h (hr a h h2)).2.2 h1 h3
 ·exact hs.two a h k hne (hr a h h1) (hr a k h2)
def Y8(m:Me):Wk:={seen:=List.replicate m.code.length (List.replicate (m.stack+1) false),wrong:=List.replicate m.code.length false,heights:=List.replicate m.code.length (-1),work:=[]}
theorem a7y(m:Me)(a h:Nat):sq (Y8 m).seen a h=false:=by
 unfold sq Y8;dsimp only;simp only[List.getD_eq_getElem?_getD,List.getElem?_replicate];by_cases h1:a<m.code.length
 ·by_cases h2:h<m.stack+1<;>simp[h1,h2]
 ·simp[h1]
theorem c0F(l:List Cl)(m:Me):U3 l m (Y8 m):=by
 have hh:∀a,(Y8 m).heights.getD a (-1)= -1:=fun a=>by
  unfold Y8;simp only[List.getD_eq_getElem?_getD,List.getElem?_replicate];split<;>rfl
 refine⟨by simp[Y8],fun a ha=> ?_,by simp[Y8],by simp[Y8],fun a h hq=> ?_,fun a hq=> ?_,fun a _ h=>a7y m a h,fun a hne=>absurd (hh a) hne,fun a h k _ hq _=> ?_,fun p hp=> ?_⟩
 ·unfold Y8;simp only[List.getD_eq_getElem?_getD,List.getElem?_replicate,ha,if_true,Option.getD_some,List.length_replicate]
 ·rw[a7y]at hq;cases hq
 ·unfold wq Y8 at hq;simp only[List.getD_eq_getElem?_getD,List.getElem?_replicate]at hq;split at hq<;>cases hq
 ·rw[a7y]at hq;cases hq
 ·unfold Y8 at hp;cases hp
theorem b8V(l:List Cl)(m:Me):p8 l m (Y8 m) none:=fun a h hq=>by rw[a7y]at hq;cases hq
end Cf
namespace Kx
def O8(p:Nat×Nat):List Value:=[.int .i64 p.1, .int .i64 p.2]
def WkV(m:Me)(pa:Option Addr)(pk:Nat)(ca:Option Addr)(ck:Nat)(ha:Option Addr)(hk eg hg sg wg n:Nat)(wa:Option Addr)(wl wk:Nat):List Value:=
 [.string m.name, .slice pa m.params.length pk, .int .i64 m.ret.kind, .string m.ret.name, .int .i64 m.stack, .int .i64 m.locals, .slice ca m.code.length ck, .slice ha m.handlers.length hk, .slice (some ⟨eg,0,none⟩) n n, .slice (some ⟨hg,0,none⟩) n n, .slice (some ⟨sg,0,none⟩) n n, .slice (some ⟨wg,0,none⟩) n n, .slice wa wl wk]
structure L4(w:World)(base b eg hg sg wg:Nat)(g:Nat→Nat)(m:Me)(pa:Option Addr)(pk:Nat)(ca:Option Addr)(ck:Nat)(ha:Option Addr)(hk n st:Nat)(s:Wk)(wa:Option Addr)(wk:Nat):Prop where
 blk:A3 w b (WkV m pa pk ca ck ha hk eg hg sg wg n wa s.work.length wk).toArray 308
 hts:A3 w hg (s.heights.map fun x=>Value.int .i64 x).toArray 3
 seen:A3 w sg ((List.range n).map fun a=>Value.slice (some ⟨g a,0,none⟩) (st+1) (st+1)).toArray 264
 rows:∀a,a<n→A3 w (g a) ((s.seen.getD a []).map Value.bool).toArray 4
 wrong:A3 w wg (s.wrong.map Value.bool).toArray 4
 work:w.ownsRow base 372 2 (.slice wa s.work.length wk) s.work.length (s.work.flatMap O8)
 d1:∀a,a<n→g a≠wg
 d2:∀a c,a<n→c<n→g a=g c→a=c
 low:base≤b∧base≤hg∧base≤sg∧base≤wg∧∀a,a<n→base≤g a
structure Fr(base:Nat)(w w':World):Prop where
 os:w'.os=w.os
 tape:w'.tape=w.tape
 output:w'.output=w.output
 size:w.heap.size≤w'.heap.size
 low:∀k,k<base→w'.heap[k]? =w.heap[k]?
 blk:∀(k:Nat) (cs:Array Value) (fr:Nat×Nat),w.heap[k]? =some (Obj.cells cs 98 fr)→w'.heap[k]? =some (Obj.cells cs 98 fr)
 eff:∀(k:Nat) (cs:Array Value) (fr:Nat×Nat),w.heap[k]? =some (Obj.cells cs 315 fr)→w'.heap[k]? =some (Obj.cells cs 315 fr)
variable {b base hg n wg:Nat}
theorem Fr.trans{a b c:World}(h:Fr base a b)(k:Fr base b c):Fr base a c:=
 ⟨k.os.trans h.os,k.tape.trans h.tape,k.output.trans h.output,Nat.le_trans h.size k.size,fun j hj=>(k.low j hj).trans (h.low j hj),fun j cs fr e=>k.blk j cs fr (h.blk j cs fr e),fun j cs fr e=>k.eff j cs fr (h.eff j cs fr e)⟩
variable {w w':World}
theorem a6V{k:Nat}{o:Obj}(h:w.heap[k]? =some o):k<w.heap.size:=(Array.getElem?_eq_some_iff.1 h).1
theorem Fr.grown(hg:w.grownBy w' none)(hb:base≤w.heap.size):Fr base w w':=
 ⟨hg.os,hg.tape,hg.output,hg.size,fun k hk=>hg.block k (Nat.lt_of_lt_of_le hk hb) (by simp),fun k cs fr h=>by rw[hg.block k (a6V h) (by simp)];exact h,fun k cs fr h=>by rw[hg.block k (a6V h) (by simp)];exact h⟩
structure Fx(b hg wg:Nat)(g:Nat→Nat)(n:Nat)(wa wa':Option Addr)(w w':World):Prop where
 os:w'.os=w.os
 tape:w'.tape=w.tape
 output:w'.output=w.output
 size:w.heap.size≤w'.heap.size
 block:∀k,k<w.heap.size→k≠b→k≠hg→k≠wg→(∀a,a<n→k≠g a)→(∀p,wa=some p→k≠p.block)→w'.heap[k]? =w.heap[k]?
 own:∀p,wa'=some p→(∃q,wa=some q∧q.block=p.block)∨w.heap.size≤p.block
variable {g:Nat→Nat}
variable {wa:Option Addr}
theorem Fx.refl(w:World):Fx b hg wg g n wa wa w w:=⟨rfl,rfl,rfl,Nat.le_refl _,fun _ _ _ _ _ _ _=>rfl,fun p e=> .inl ⟨p,e,rfl⟩⟩
theorem Fx.trans{wb wc:Option Addr}{x y z:World}(h:Fx b hg wg g n wa wb x y)(h2:Fx b hg wg g n wb wc y z):Fx b hg wg g n wa wc x z:=by
 refine⟨h2.os.trans h.os,h2.tape.trans h.tape,h2.output.trans h.output,Nat.le_trans h.size h2.size,fun k hk n1 n2 n3 n4 n5=> ?_,fun p e=> ?_⟩
 ·refine(h2.block k (Nat.lt_of_lt_of_le hk h.size) n1 n2 n3 n4 (fun p e=> ?_)).trans (h.block k hk n1 n2 n3 n4 n5);rcases h.own p e with⟨q,e2,e3⟩|e2
  ·rw[←e3];exact n5 q e2
  ·omega
 ·rcases h2.own p e with⟨q,e2,e3⟩|e2
  ·rcases h.own q e2 with⟨r,e4,e5⟩|e4
   ·exact .inl ⟨r,e4,e5.trans e3⟩
   ·exact .inr (by omega)
  ·exact .inr (Nat.le_trans h.size e2)
theorem Fx.grown(h:w.grownBy w' none):Fx b hg wg g n wa wa w w':=
 ⟨h.os,h.tape,h.output,h.size,fun k hk _ _ _ _ _=>h.block k hk (by simp),fun p e=> .inl ⟨p,e,rfl⟩⟩
theorem Fx.at{r:Nat}(h:w.grownBy w' (some r))(hr:r=b∨r=hg∨r=wg∨∃a,a<n∧r=g a):Fx b hg wg g n wa wa w w':=
 ⟨h.os,h.tape,h.output,h.size,fun k hk n1 n2 n3 n4 _=>h.block k hk (by
  intro e;cases e;rcases hr with e|e|e|⟨a,h1,e⟩
  ·exact n1 e
  ·exact n2 e
  ·exact n3 e
  ·exact n4 a h1 e),fun p e=> .inl ⟨p,e,rfl⟩⟩
theorem K6{g g':Nat}{cs cs':Array Value}{t t':TypeId}(h:A3 w g cs t)(h':A3 w g' cs' t')(ht:t≠t'):g≠g':=fun e=>by
 subst e;have h1:w.heap[g]? =some (Obj.cells cs t (0,0)):=h;have h2:w.heap[g]? =some (Obj.cells cs' t' (0,0)):=h';rw[h2]at h1;cases h1;exact ht rfl
theorem a9n{α:Type}(f:α→Value)(l:List α)(k:Nat)(x:α):(l.map f).toArray.setIfInBounds k (f x)=((l.set k x).map f).toArray:=by
 rw[List.setIfInBounds_toArray,List.map_set]
section
variable{w:World}{base b eg hg sg wg:Nat}{g:Nat→Nat}{m:Me}{pa:Option Addr}{pk:Nat}{ca:Option Addr}{ck:Nat}{ha:Option Addr}{hk n st:Nat}{s:Wk}{wa:Option Addr}{wk:Nat}
theorem L4.keep{w':World}(h:L4 w base b eg hg sg wg g m pa pk ca ck ha hk n st s wa wk)(hgr:w.grownBy w' none):L4 w' base b eg hg sg wg g m pa pk ca ck ha hk n st s wa wk:=
 ⟨h.blk.keep hgr (by simp),h.hts.keep hgr (by simp),h.seen.keep hgr (by simp),fun a ha'=>(h.rows a ha').keep hgr (by simp),h.wrong.keep hgr (by simp),h.work.kept hgr (by cases hv:(Value.slice wa s.work.length wk).ownBlock<;>simp),h.d1,h.d2,h.low⟩
theorem L4.mark(h:L4 w base b eg hg sg wg g m pa pk ca ck ha hk n st s wa wk){a k:Nat}(ha':a<n)(hlen:s.seen.length=n):
 L4 (w.setCell ⟨g a,k,none⟩ (.bool true)) base b eg hg sg wg g m pa pk ca ck ha hk n st {s with seen:=a0b s.seen a k} wa wk∧Fx b hg wg g n wa wa w (w.setCell ⟨g a,k,none⟩ (.bool true)):=by
 have hr:=h.rows a ha';have hs:=A9 w ⟨g a,k,none⟩ (.bool true);have n1:some b≠some (g a):=fun e=>K6 h.blk hr (by decide) (Option.some.inj e)
 have n2:some hg≠some (g a):=fun e=>K6 h.hts hr (by decide) (Option.some.inj e)
 have n3:some sg≠some (g a):=fun e=>K6 h.seen hr (by decide) (Option.some.inj e)
 have n4:some wg≠some (g a):=fun e=>h.d1 a ha' (Option.some.inj e).symm
 refine⟨⟨h.blk.keep hs n1,h.hts.keep hs n2,h.seen.keep hs n3,fun c hc=> ?_,h.wrong.keep hs n4,h.work.kept hs (.inr (I4 h.work hr (by decide))),h.d1,h.d2,h.low⟩,Fx.at hs (.inr (.inr (.inr ⟨a,ha',rfl⟩)))⟩;dsimp only;unfold a0b;rw[a3R];by_cases e:a=c
 ·subst e;rw[if_pos ⟨rfl,by omega⟩];have:=hr.set k (.bool true);rw[a9n]at this;exact this
 ·rw[if_neg (by simp[e])];exact(h.rows c hc).keep hs (fun e2=>e (h.d2 c a hc ha' (Option.some.inj e2)).symm)
theorem L4.push{w7:World}{a7:Option Addr}{k7:Nat}(h:L4 w base b eg hg sg wg g m pa pk ca ck ha hk n st s wa wk){p:Nat×Nat}{o:Obj}(hb:base≤w.heap.size)
 (hown:w7.ownsRow base 372 2 (.slice a7 (s.work.length+1) k7) (s.work.length+1) (s.work.flatMap O8++O8 p)) (hgr:(w.alloc o).grownBy w7 (Value.slice wa s.work.length wk).ownBlock) (hat:∀p,a7=some p→(∃q,wa=some q∧q.block=p.block)∨(w.alloc o).heap.size≤p.block):
 L4 (w7.setCell ⟨b,12,none⟩ (.slice a7 (s.work.length+1) k7)) base b eg hg sg wg g m pa pk ca ck ha hk n st {s with work:=s.work++ [p]} a7 k7∧Fx b hg wg g n wa a7 w (w7.setCell ⟨b,12,none⟩ (.slice a7 (s.work.length+1) k7)):=by
 have hgA:=D5 (A2 w o _) hgr (fun k e=> .inr e.symm);have hb7:A3 w7 b _ _:=h.blk.keep hgA (fun e=>I4 h.work h.blk (by decide) e.symm);have k2:=h.hts.keep hgA (fun e=>I4 h.work h.hts (by decide) e.symm);have k3:=h.seen.keep hgA (fun e=>I4 h.work h.seen (by decide) e.symm);have k4:=fun c (hc:c<n)=>(h.rows c hc).keep hgA (fun e=>I4 h.work (h.rows c hc) (by decide) e.symm)
 have k5:=h.wrong.keep hgA (fun e=>I4 h.work h.wrong (by decide) e.symm);have hs:=A9 w7 ⟨b,12,none⟩ (.slice a7 (s.work.length+1) k7)
 have hF1:Fx b hg wg g n wa a7 w w7:=⟨hgA.os,hgA.tape,hgA.output,hgA.size,fun k hk _ _ _ _ n5=>hgA.block k hk (by
  intro e;cases wa with
  |none=>simp[Value.ownBlock]at e
  |some q=>simp only[Value.ownBlock,Option.some.injEq]at e;exact n5 q rfl e),fun p e=>by
  rcases hat p e with h1|h1
  ·exact .inl h1
  ·exact .inr (Nat.le_trans (A2 w o none).size h1)⟩
 refine⟨⟨?_,k2.keep hs (fun e=>K6 k2 hb7 (by decide) (Option.some.inj e)),k3.keep hs (fun e=>K6 k3 hb7 (by decide) (Option.some.inj e)),fun c hc=>(k4 c hc).keep hs (fun e=>K6 (k4 c hc) hb7 (by decide) (Option.some.inj e)),k5.keep hs (fun e=>K6 k5 hb7 (by decide) (Option.some.inj e)),?_,h.d1,h.d2,h.low⟩,hF1.trans (Fx.at hs (.inl rfl))⟩
 ·have:=hb7.set 12 (.slice a7 (s.work.length+1) k7);exact c7d
 ·exact c5b
theorem L4.high(h:L4 w base b eg hg sg wg g m pa pk ca ck ha hk n st s wa wk)(a:Nat)(x:Int):
 L4 (w.setCell ⟨hg,a,none⟩ (.int .i64 x)) base b eg hg sg wg g m pa pk ca ck ha hk n st {s with heights:=s.heights.set a x} wa wk∧Fx b hg wg g n wa wa w (w.setCell ⟨hg,a,none⟩ (.int .i64 x)):=by
 have hs:=A9 w ⟨hg,a,none⟩ (.int .i64 x);refine⟨⟨h.blk.keep hs (fun e=>K6 h.blk h.hts (by decide) (Option.some.inj e)),?_,h.seen.keep hs (fun e=>K6 h.seen h.hts (by decide) (Option.some.inj e)),fun c hc=>(h.rows c hc).keep hs (fun e=>K6 (h.rows c hc) h.hts (by decide) (Option.some.inj e)),h.wrong.keep hs (fun e=>K6 h.wrong h.hts (by decide) (Option.some.inj e)),h.work.kept hs (.inr (I4 h.work h.hts (by decide))),h.d1,h.d2,h.low⟩,Fx.at hs (.inr (.inl rfl))⟩;have:=h.hts.set a (.int .i64 x);rw[a9n (fun x=>Value.int .i64 x)]at this;exact this
theorem L4.bad(h:L4 w base b eg hg sg wg g m pa pk ca ck ha hk n st s wa wk)(a:Nat):
 L4 (w.setCell ⟨wg,a,none⟩ (.bool true)) base b eg hg sg wg g m pa pk ca ck ha hk n st {s with wrong:=s.wrong.set a true} wa wk∧Fx b hg wg g n wa wa w (w.setCell ⟨wg,a,none⟩ (.bool true)):=by
 have hs:=A9 w ⟨wg,a,none⟩ (.bool true);refine⟨⟨h.blk.keep hs (fun e=>K6 h.blk h.wrong (by decide) (Option.some.inj e)),h.hts.keep hs (fun e=>K6 h.hts h.wrong (by decide) (Option.some.inj e)),h.seen.keep hs (fun e=>K6 h.seen h.wrong (by decide) (Option.some.inj e)),fun c hc=>(h.rows c hc).keep hs (fun e=>h.d1 c hc (Option.some.inj e)),?_,h.work.kept hs (.inr (I4 h.work h.wrong (by decide))),h.d1,h.d2,h.low⟩,Fx.at hs (.inr (.inr (.inl rfl)))⟩;have:=h.wrong.set a (.bool true);rw[a9n]at this;exact this
theorem L4.fr{w':World}{wa':Option Addr}(h:L4 w base b eg hg sg wg g m pa pk ca ck ha hk n st s wa wk)(hf:Fx b hg wg g n wa wa' w w')(hbw:base≤w.heap.size):Fr base w w':=by
 have key:∀(k:Nat) (cs:Array Value) (fr:Nat×Nat) (t:TypeId),t≠308→t≠3→t≠4→t≠372→w.heap[k]? =some (Obj.cells cs t fr)→w'.heap[k]? =some (Obj.cells cs t fr):=fun k cs fr t t1 t2 t3 t4 hk=>by
  have ne:∀{r:Nat} {cs':Array Value} {t':TypeId},A3 w r cs' t'→t≠t'→k≠r:=fun{r cs' t'} hb ht e=>by
   subst e;have h2:w.heap[k]? =some (Obj.cells cs' t' (0,0)):=hb;rw[hk]at h2;cases h2;exact ht rfl
  rw[hf.block k (a6V hk) (ne h.blk t1) (ne h.hts t2) (ne h.wrong t3) (fun a ha'=>ne (h.rows a ha') t3) (fun p e=> ?_)]
  ·exact hk
  ·intro e2;subst e;rcases h.work.2 with⟨e3,-⟩|⟨q,cap,cur,e3,-,hq2,-⟩
   ·cases e3
   ·injection e3 with e4 _ _
    cases e4;have e5:k=q:=e2;subst e5;rw[hk]at hq2;cases hq2;exact t4 rfl
 exact⟨hf.os,hf.tape,hf.output,hf.size,fun k hk=>hf.block k (Nat.lt_of_lt_of_le hk hbw) (by have:=h.low.1;omega) (by have:=h.low.2.1;omega) (by have:=h.low.2.2.2.1;omega) (fun a ha'=>by have:=h.low.2.2.2.2 a ha';omega) (fun p e=>by
  subst e;rcases h.work.2 with⟨e3,-⟩|⟨q,cap,cur,e3,hq,-⟩
  ·cases e3
  ·injection e3 with e4 _ _
   cases e4;show k≠q;omega),fun k cs fr hk=>key k cs fr _ (by decide) (by decide) (by decide) (by decide) hk,fun k cs fr hk=>key k cs fr _ (by decide) (by decide) (by decide) (by decide) hk⟩
theorem a6Q{w:World}{base e sz n k:Nat}{a:Option Addr}{cs:List Value}(h:w.ownsRow base e sz (.slice a (n+1) k) (n+1) cs):w.ownsRow base e sz (.slice a n k) n (cs.take (n*sz)):=by
 obtain⟨hl,h2⟩:=h;rcases h2 with⟨e1,e2⟩|⟨q,cap,cur,e1,hq,hc,h5,h6,h7,h8⟩
 ·cases e2
 ·injection e1 with e1 _ e3
  subst e1 e3;refine⟨by rw[List.length_take,hl,Nat.succ_mul];omega, .inr ⟨q,k,cur,rfl,hq,hc,by omega,h6,h7,?_⟩⟩;rw[←h8,List.take_take];congr 1
  rw[Nat.succ_mul];omega
theorem L4.pop{xs:List (Nat×Nat)}{p:Nat×Nat}(h:L4 w base b eg hg sg wg g m pa pk ca ck ha hk n st s wa wk)(hw:s.work=xs++ [p]):
 L4 (w.setCell ⟨b,12,none⟩ (.slice wa xs.length wk)) base b eg hg sg wg g m pa pk ca ck ha hk n st (a2b s) wa wk∧Fx b hg wg g n wa wa w (w.setCell ⟨b,12,none⟩ (.slice wa xs.length wk)):=by
 have hs:=A9 w ⟨b,12,none⟩ (.slice wa xs.length wk);have hwp:(a2b s).work=xs:=by unfold a2b;rw[hw];simp
 refine⟨⟨?_,h.hts.keep hs (fun e=>K6 h.hts h.blk (by decide) (Option.some.inj e)),h.seen.keep hs (fun e=>K6 h.seen h.blk (by decide) (Option.some.inj e)),fun c hc=>(h.rows c hc).keep hs (fun e=>K6 (h.rows c hc) h.blk (by decide) (Option.some.inj e)),h.wrong.keep hs (fun e=>K6 h.wrong h.blk (by decide) (Option.some.inj e)),?_,h.d1,h.d2,h.low⟩,Fx.at hs (.inl rfl)⟩
 ·have:=h.blk.set 12 (.slice wa xs.length wk);rw[hwp];exact this
 ·have h1:=h.work;rw[hw]at h1;simp only[List.length_append,List.length_cons,List.length_nil,Nat.zero_add]at h1;have h2:=a6Q h1;rw[hwp]
  have h3:((xs++ [p]).flatMap O8).take (xs.length*2)=xs.flatMap O8:=by
   have hl:(xs.flatMap O8).length=xs.length*2:=by
    clear h1 h2 hw hwp hs h;induction xs with
    |nil=>rfl
    |cons x l ih=>exact b4a
   rw[List.flatMap_append,←hl,List.take_left'];rfl
  rw[h3]at h2;exact h2.kept hs (.inr (I4 h2 h.blk (by decide)))
end
theorem c1o:(prog.info? 372).map (fun i=>(i.zero,i.size,i.bytes))=some (some (.agg #[.int .i64 0, .int .i64 0]),2,16):=by kernel_rfl
def H9(w:Wd):List Value:=[.int .i64 (w.tag:Int), .int .i64 w.v]
structure E8(W W':World)(S S':List Nat):Prop where
 os:W'.os=W.os
 tape:W'.tape=W.tape
 output:W'.output=W.output
 size:W.heap.size≤W'.heap.size
 low:∀k,k<W.heap.size→k∉S→W'.heap[k]? =W.heap[k]?
 own:∀k∈S',k∈S∨W.heap.size≤k
variable {W W':World}
variable {S S':List Nat}
theorem E8.trans{W1 W2:World}{S1 S2:List Nat}(h:E8 W W1 S S1)(h1:E8 W1 W2 S1 S2):E8 W W2 S S2:=
 ⟨h1.os.trans h.os,h1.tape.trans h.tape,h1.output.trans h.output,Nat.le_trans h.size h1.size,
  fun k hk hn=>(h1.low k (Nat.lt_of_lt_of_le hk h.size) (fun hm=>(h.own k hm).elim hn (fun h=>absurd hk (Nat.not_lt.2 h)))).trans (h.low k hk hn),
  fun k hk=>(h1.own k hk).elim (fun h2=>h.own k h2) (fun h2=> .inr (Nat.le_trans h.size h2))⟩
theorem E8.grown(h:W.grownBy W' none)(S:List Nat):E8 W W' S S:=⟨h.os,h.tape,h.output,h.size,fun k hk _=>h.block k hk (by simp),fun _ h=> .inl h⟩
variable {base g k:Nat}
theorem E8.one(h:W.grownBy W' (some g))(hg:g∈S)(hs:∀k∈S',k∈S∨W.heap.size≤k):E8 W W' S S':=
 ⟨h.os,h.tape,h.output,h.size,fun k hk hn=>h.block k hk (fun e=>hn (Option.some.inj e▸hg)),hs⟩
theorem E8.row{r:Option Nat}(h:W.grownBy W' r)(hg:∀g,r=some g→g∈S)(hs:∀k∈S',k∈S∨W.heap.size≤k):E8 W W' S S':=
 ⟨h.os,h.tape,h.output,h.size,fun k hk hn=>h.block k hk (fun e=>hn (hg k e.symm)),hs⟩
variable {t:TypeId}
theorem E8.blk(h:E8 W W' S S'){cs:Array Value}(hb:A3 W k cs t)(hk:k∉S):A3 W' k cs t:=by
 have hl:=hb.lt;unfold A3 at*
 rw[h.low k hl hk];exact hb
variable {v:Value}
theorem E8.own'(h:E8 W W' S S'){e sz n:Nat}{xs:List Value}(ho:W.ownsRow base e sz v n xs)(hk:∀g,v.ownBlock=some g→g∉S):W'.ownsRow base e sz v n xs:=by
 refine⟨ho.1,?_⟩;rcases ho.2 with h1|⟨g,cap,cur,hv,hb,hg,h2⟩
 ·exact .inl h1
 ·exact .inr ⟨g,cap,cur,hv,hb,(h.low g (Array.getElem?_eq_some_iff.1 hg).1 (hk g (by rw[hv];rfl))).trans hg,h2⟩
def C2(v:Value):List Nat:=v.ownBlock.toList
theorem E2:k∈C2 v↔v.ownBlock=some k:=by unfold C2;cases v.ownBlock<;>simp[eq_comm]
structure D9 where
 fp:Nat
 pa:Option Addr
 ca:Option Addr
 ha:Option Addr
 pk:Nat
 ck:Nat
 hk:Nat
 sv:Value
 lv:Value
def D9.ids(x:D9):List Nat:=x.fp::(C2 x.sv++C2 x.lv)
def a1Y(x:D9)(f:Fm):Array Value:= #[.string f.cls, .string f.me.name, .slice x.pa f.me.params.length x.pk, .int .i64 f.me.ret.kind, .string f.me.ret.name, .int .i64 f.me.stack, .int .i64 f.me.locals, .slice x.ca f.me.code.length x.ck, .slice x.ha f.me.handlers.length x.hk, .int .i64 f.at_,x.sv,x.lv]
structure M1(W:World)(lim base:Nat)(x:D9)(f:Fm):Prop where
 blk:A3 W x.fp (a1Y x f) 212
 low:base≤x.fp
 st:W.ownsRow base 145 2 x.sv f.stack.length (f.stack.flatMap H9)
 lo:W.ownsRow base 145 2 x.lv f.locals.length (f.locals.flatMap H9)
 ne:∀k,x.sv.ownBlock=some k→x.lv.ownBlock≠some k
 nst:f.stack.length≤1000
 nat:f.at_≤70000
 code:B8 W lim 4 T3 x.ca f.me.code
 hand:B8 W lim 4 T4 x.ha f.me.handlers
theorem M1.other{lim:Nat}{x:D9}{f:Fm}(h:M1 W lim base x f)(hO:E8 W W' S S')(hd:∀k∈x.ids,k∉S)(hl:∀k∈S,lim≤k)(hlw:lim≤W.heap.size):M1 W' lim base x f:=by
 have hrd:∀{α:Type} {enc:α→List Value} {a:Option Addr} {xs:List α},B8 W lim 4 enc a xs→B8 W' lim 4 enc a xs:=fun hr j hj=>by
  obtain⟨p,h1,h2,h3⟩:=hr j hj;refine⟨p,h1,h2,fun k u hu=>(World.cell?_of_block (hO.low _ ?_ ?_)).trans (h3 k u hu)⟩
  ·rw[U9];omega
  ·rw[U9];exact fun hm=>absurd (hl _ hm) (by omega)
 exact⟨hO.blk h.blk (hd _ (by simp[D9.ids])),h.low,hO.own' h.st (fun g hg=>hd g (by simp[D9.ids,E2,hg])),hO.own' h.lo (fun g hg=>hd g (by simp[D9.ids,E2,hg])),h.ne,h.nst,h.nat,hrd h.code,hrd h.hand⟩
theorem b8r{l:List Bool}{j:Nat}(hj:j<l.length):l[j]? =some (l.getD j false):=by simp[hj]
theorem V9{w:World}{l:List Value}(h:A3 w g l.toArray t)(j:Nat)(v:Value)(hv:l[j]? =some v):w.cell? ⟨g,j,none⟩=some v:=h.cell j v (by simpa using hv)
theorem b7M(w:World)(base b eg hg sg wg:Nat)(g:Nat→Nat)(m:Me)(pa:Option Addr)(pk:Nat)(ca:Option Addr)(ck:Nat)(ha:Option Addr)(hk n st:Nat)(s:Wk)(wa:Option Addr)(wk:Nat)(h:Hid (L4 w base b eg hg sg wg g m pa pk ca ck ha hk n st s wa wk))(hn:n≤65535)(hst:st≤1000)(hsl:s.seen.length=n)(hsr:∀a,a<n→(s.seen.getD a []).length=st+1)(hhl:s.heights.length=n)(hwl:s.wrong.length=n)(hwk:s.work.length≤200000000)(a h0:Nat)(ha0:a<n)(hh0:h0≤st)(hbw:base≤w.heap.size):
 Calls prog 274 #[.pointer (some ⟨b,0,none⟩), .int .i64 a, .int .i64 h0] w fun e w'=>e= .returned (.tuple #[])∧∃wa' wk',L4 w' base b eg hg sg wg g m pa pk ca ck ha hk n st (V0 s a h0) wa' wk'∧Fx b hg wg g n wa wa' w w':=by
 have haI:(a:Int)<(n:Int):=by omega
 have hhI:(h0:Int)<((st+1:Nat):Int):=by omega
 have hhN:h0<st+1:=by omega
 have hrow:=hsr a ha0;obtain⟨ls,hls⟩:∃ls,ls=st+1:=⟨_,rfl⟩
 have hg2:w.cell? ⟨sg,a,none⟩=some (.slice (some ⟨g a,0,none⟩) ls ls):=by rw[hls];exact V9 h.out.seen a _ (by simp[ha0])
 rw[←hls]at hhI hhN
 have hx:w.cell? ⟨g a,h0,none⟩=some (.bool (sq s.seen a h0)):=V9 (h.out.rows a ha0) h0 _ (by
  unfold sq;rw[List.getElem?_map,b8r (by omega)];rfl)
 have hfx:=(h.out.rows a ha0).frozen h0;have c10:w.cell? ⟨b,10,none⟩=some (Value.slice (some ⟨sg,0,none⟩) n n):=h.out.blk.cell 10 _ rfl;have hlsz:ls≤1001:=by omega
 by_cases hq:sq s.seen a h0=true
 ·rw[hq]at hx;have HR:Hid (V0 s a h0=s):=by unfold Hid V0;rw[if_pos hq]
  rw[HR.out];clear hq hls hsr hrow;go_enter func274,ntmps274;go_wp2_with fail
  refine bodyPost_ret (results_none rfl _ _ _) rfl ?_;exact⟨rfl,_,_,h.out,Fx.refl _⟩
 ·have hq':sq s.seen a h0=false:=by simpa using hq
  rw[hq']at hx;obtain⟨S2,hS2⟩:∃S2,S2=V0 s a h0:=⟨_,rfl⟩
  have HR:Hid (S2={seen:=a0b s.seen a h0,work:=s.work++ [(a,h0)],heights:=if s.heights.getD a (-1)= -1 then s.heights.set a h0 else s.heights,wrong:=if s.heights.getD a (-1)= -1 then s.wrong else s.wrong.set a true}):=by unfold Hid;rw[hS2];unfold V0;rw[if_neg hq]
  rw[←hS2];clear hS2;obtain⟨hM1,hF1⟩:=h.out.mark (k:=h0) ha0 hsl;have HM1:=A0 hM1;have HF1:=A0 hF1;have hs1:=Nat.le_trans hbw hF1.size;clear hM1 hF1 hq hq' hls hsr hrow;obtain⟨wl,hwl0⟩:∃wl,wl=s.work.length:=⟨_,rfl⟩
  have HWL:=A0 hwl0;have c12:w.cell? ⟨b,12,none⟩=some (.slice wa wl wk):=by rw[hwl0];exact h.out.blk.cell 12 _ rfl
  rw[←hwl0]at hwk;clear hwl0;obtain⟨inf,ii0,iz0,iz1,iz2⟩:=info_parts c1o;go_enter func274,ntmps274;go_upto_region 2 with fail
  generalize w.setCell ⟨g a,h0,none⟩ (.bool true)=W1 at HM1 HF1 hs1⊢;have d12:W1.cell? ⟨b,12,none⟩=some (.slice wa wl wk):=by rw[HWL.out];exact HM1.out.blk.cell 12 _ rfl
  have HOW:Hid ((W1.alloc (.cells #[.int .i64 a, .int .i64 h0] 372)).ownsRow base 372 2 (.slice wa wl wk) wl (s.work.flatMap O8)):=by
   have h5:W1.ownsRow base 372 2 (.slice wa wl wk) wl (s.work.flatMap O8):=by rw[HWL.out];exact HM1.out.work
   exact h5.kept (A2 _ _ none) (by cases hv:(Value.slice wa wl wk).ownBlock<;>simp)
  have hfb:=(HM1.out.blk).frozen 12;go_upto_region 3 with(at_builtin;go_loud (refine a4s rfl _ _ 306 rfl base 372 inf _ 2 16 underlying306 ii0 iz0 iz1 iz2 rfl (by decide) wa wl wk (s.work.flatMap O8) rfl HOW.out (some ⟨W1.heap.size,0,none⟩) 1 1 [.int .i64 a, .int .i64 h0] rfl rfl (fun jj u hu=>⟨_,rfl,S6 W1 _ _ jj u hu⟩) (by simp[Value.oneCell']) (by unfold maxLen;omega) (by omega) (Nat.le_trans hs1 (A2 W1 _ none).size) ?_;intro a7 k7 w7 hown7 hg7 hat7;have hf7:=(HM1.out.blk.keep (D5 (A2 W1 (.cells #[.int .i64 a, .int .i64 h0] 372) _) hg7 (fun k e=> .inr e.symm)) (I4 (by rw[HWL.out];exact HM1.out.work) HM1.out.blk (by decide)).symm).frozen 12;have hc7:=(D5 (A2 W1 (.cells #[.int .i64 a, .int .i64 h0] 372) _) hg7 (fun k e=> .inr e.symm)).cell d12 (I4 (by rw[HWL.out];exact HM1.out.work) HM1.out.blk (by decide)).symm))
  have hP:=HM1.out.push (p:=(a,h0)) hs1 (by rw[←HWL.out];exact hown7) (by rw[←HWL.out];exact hg7) hat7;rw[←HWL.out]at hP;obtain⟨hM2,hF2⟩:=hP;generalize w7.setCell ⟨b,12,none⟩ (.slice a7 (wl+1) k7)=W2 at hM2 hF2⊢;have HM2:Hid (L4 W2 base b eg hg sg wg g m pa pk ca ck ha hk n st {s with seen:=a0b s.seen a h0,work:=s.work++ [(a,h0)]} a7 k7):=hM2;have HF2:=A0 (HF1.out.trans hF2);clear hown7 hg7 hat7 hf7 hc7 hM2 hF2 d12 hfb;have e9:=HM2.out.blk.c9;have e11:W2.cell? ⟨b,11,none⟩=some (Value.slice (some ⟨wg,0,none⟩) n n):=HM2.out.blk.cell 11 _ rfl;have eh:W2.cell? ⟨hg,a,none⟩=some (.int .i64 (s.heights.getD a (-1))):=V9 HM2.out.hts a _ (by simp[hhl,ha0]);have ew:W2.cell? ⟨wg,a,none⟩=some (.bool (s.wrong.getD a false)):=V9 HM2.out.wrong a _ (by simp[hwl,ha0]);have fh:=HM2.out.hts.frozen a;have fw:=HM2.out.wrong.frozen a;by_cases hz:s.heights.getD a (-1)= -1
  ·rw[hz]at eh;have hfin:=HM2.out.high a h0;have HS:Hid (S2={seen:=a0b s.seen a h0,work:=s.work++ [(a,h0)],heights:=s.heights.set a h0,wrong:=s.wrong}):=by unfold Hid;rw[HR.out,if_pos hz,if_pos hz]
   clear hz;go_wp2_with fail
   go_end0;exact⟨rfl,a7,⟨k7,by rw[HS.out];exact hfin.1⟩,HF2.out.trans hfin.2⟩
  ·have hzb:(s.heights.getD a (-1)== -1)=false:=by rw[beq_eq_false_iff_ne];exact hz
   have hfin:=HM2.out.bad a;have HS:Hid (S2={seen:=a0b s.seen a h0,work:=s.work++ [(a,h0)],heights:=s.heights,wrong:=s.wrong.set a true}):=by unfold Hid;rw[HR.out,if_neg hz,if_neg hz]
   generalize s.heights.getD a (-1)=hv at eh hz hzb;go_wp2_with fail
   go_end0;exact⟨rfl,a7,⟨k7,by rw[HS.out];exact hfin.1⟩,HF2.out.trans hfin.2⟩
end Kx
end
end Go.Proofs.YtdhophglnhcjbaaGreatDoor
