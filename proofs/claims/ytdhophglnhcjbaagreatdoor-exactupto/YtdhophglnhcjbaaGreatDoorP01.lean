/- P01: a part of the proof that the last text tells. -/
import Derived.Test.YtdhophglnhcjbaaGreatDoorP00
import Derived.Lib.Strings
import Derived.Lib.Walk
import Derived.Lib.BufferWrite
import Derived.Lib.UnsafeStr
import Derived.Deep.AppendLies
import Derived.Deep.RegionLaw
import Derived.Deep.Upon
import Derived.Maps.OwnSet
import Derived.StringKeys
import Derived.DeepKeys5
import Derived.RangeFuncNested
import Derived.RangeFuncBound
import Derived.RangeFuncCalls
import Derived.RangeFuncLeaves
import Derived.Shelf.Abstract
import Derived.Shelf.RegionOpen
import Derived.OwnWalkIn
import Derived.TacticsInMore
import Derived.LoopNIn
import Derived.LoopIn
import Derived.Maps.OwnIn
import Derived.Sort.QuietIn
set_option linter.all false
set_option maxRecDepth 100000
set_option maxHeartbeats 40000000
open Go.Proofs.Tryz
namespace Go.Proofs.YtdhophglnhcjbaaGreatDoor
section
theorem c5r{P:Prop}(h:P:=by
 have:X7 b=B1:=by unfold X7;rw[if_neg (by omega),if_neg (by omega)]
 rw[this];exact a2u _ _):P:=h
theorem c6e{P:Prop}(h:P:=by
 exact⟨by intro t ht;rw[List.mem_singleton.1 ht];exact h1,by rintro⟨t,ht,e⟩;rw[List.mem_singleton.1 ht]at e;exact absurd e h2⟩):P:=h
end
section
open Go.RowKit Cf
theorem a7s:(prog.info? 5).map (fun i=>(i.zero,i.size,i.bytes))=some (some (.int .u8 0),1,1):=by kernel_rfl
theorem a0i{w w':World}(h:Below w.heap.size w w'):w.grownBy w' none:=⟨h.os,h.tape,h.output,h.size,fun k hk _=>h.block k hk⟩
theorem b6c(s:ByteArray)(w:World)(hlim:s.size≤2048):
 Calls prog 171 #[.string s] w fun e w'=>e= .returned (.string s)∧w.grownBy w' none:=by
 by_cases h0:s.size=0
 ·have hs:s=⟨#[]⟩:=ByteArray.ext (Array.eq_empty_of_size_eq_zero h0);subst hs;go_enter func171,ntmps171;go_wp2
  go_ret;exact⟨rfl,I8 _ _⟩
 ·obtain⟨i0,hi,hz0,hz1,hz2⟩:=info_parts a7s;have hinfo:(prog.info? 5).map (·.size)=some 1:=by rw[hi];simp[hz1]
  have hco:prog.cellsOf 5=1:=by simp[Program.cellsOf,hi,hz1]
  generalize hM:madeCells (Value.int .u8 0).cells (((s.size:Nat):Int).toNat*i0.size)=M;have hMs:M.size=s.size:=by rw[←hM,size_madeCells,hz1];simp
  have hmk:∀W:World,(Instr.makeSlice 193 (.int .i64 (s.size:Int)) (.int .i64 (s.size:Int))).run prog W= .ok (.slice (some ⟨W.heap.size,0,none⟩) s.size s.size) (W.alloc (.cells M 5)):=fun W=>by
   have h:=run_make (P:=prog) W 193 5 i0 (.int .u8 0) underlying193 hi hz0 .i64 .i64 (s.size:Int) (s.size:Int) (by omega) (by omega) (by rw[hz2];omega) (by omega);rw[hM]at h;simpa using h
  have hcp:=Lib.run_copy_row_string (P:=prog) (w.alloc (.cells M 5)) 193 9 3 5 w.heap.size 0 s.size s.size s M 5 underlying193 hinfo (heap_alloc_new w _) (Nat.le_refl _) (by omega);generalize hY:(M.toList.take 0++Lib.byteCells s.data.toList++M.toList.drop (0+s.size)).toArray=Y at hcp
  have hYl:Y.toList=Lib.byteCells s.data.toList:=by
   rw[←hY,List.toList_toArray,List.take_zero,List.nil_append,List.drop_of_length_le (by rw[Array.length_toList];omega),List.append_nil]
  have hYs:Y.size=s.size:=by rw[←Array.length_toList,hYl,Lib.byteCells_length,←Lib.size_eq]
  have hgY:((w.alloc (.cells M 5)).setRow w.heap.size Y).heap[w.heap.size]? =some (.cells Y 5 (0,0)):=setRow_heap _ _ M _ 5 (0,0) (heap_alloc_new w _);have hne:s.data.toList≠ []:=fun e=>h0 (by rw[Lib.size_eq,e];rfl)
  have hUS:=Lib.run_unsafeString_row (P:=prog) ((w.alloc (.cells M 5)).setRow w.heap.size Y) 359 3 9 5 underlying359 hco w.heap.size Y.size (by unfold World.shape?;rw[hgY]) s.data.toList hne (by rw[←Lib.size_eq];omega) (by rw[←Lib.size_eq];omega)
   (fun j x hx=>Lib.cells_of_row hgY Y.size j _ (by rw[List.take_of_length_le (by rw[Array.length_toList];exact Nat.le_refl _),hYl];simp[Lib.byteCells,hx]))
  rw[←Lib.size_eq]at hUS;clear hM hY;go_enter func171,ntmps171;go_wp2
  go_ret;have hb1:Below w.heap.size w (w.alloc (.cells M 5)):=(Below.refl _ w).alloc (Nat.le_refl _) _;have hb2:Below w.heap.size (w.alloc (.cells M 5)) ((w.alloc (.cells M 5)).setRow w.heap.size Y):=⟨rfl,rfl,rfl,by simp,fun k hk=>setRow_other _ _ _ _ (by omega)⟩
  exact⟨rfl,a0i (Lib.below_freeze (hb1.trans hb2) (p:=⟨w.heap.size,0,none⟩) (Nat.le_refl _) _)⟩
theorem b8G(s:ByteArray)(w:World)(hlim:s.size≤2048):
 Calls prog 107 #[.string s] w fun e w'=>e= .returned (.string s)∧w.grownBy w' none:=by
 go_enter func107,ntmps107;go_wp2_with (go_at_call 171;refine(b6c s w hlim).mono ?_;rintro e w' ⟨rfl,hg⟩)
 go_ret;exact⟨rfl,hg⟩
theorem a7d{f:ByteArray}{k:Nat}{st st1:St}{s:ByteArray}(h:a0W f k st= .ok (s,st1)):st.at_+k≤f.size∧s=f.extract st.at_ (st.at_+k)∧st1={st with at_:=st.at_+k}:=by
 rw[a0W]at h;split at h
 ·cases h;exact⟨by assumption,rfl,rfl⟩
 ·cases h
section
variable{f:ByteArray}{st st1 st2:St}{k:Nat}{s:ByteArray}{er:Er}
theorem b6L(h1:C1 f 1 st= .ok (k,st1))(h:a0W f k st1= .error er):Z2 f st= .error er:=by
 rw[a0W]at h;split at h
 ·cases h
 ·rename_i hc;cases h;simp only[Z2,h1,hc,if_false]
theorem b0M(h1:C1 f 1 st= .ok (k,st1))(h2:a0W f k st1= .ok (s,st2))(hb:(E3 s&& !st.pool.contains s)=false):Z2 f st= .error (4,st.at_):=by
 obtain⟨h3,rfl,rfl⟩:=a7d h2;simp only[Z2,h1,h3,hb,if_true,Bool.false_eq_true,if_false]
theorem b0m(h1:C1 f 1 st= .ok (k,st1))(h2:a0W f k st1= .ok (s,st2)):st2.pool=st.pool:=by
 rw[(a7d h2).2.2,(X4 h1).1]
theorem b6K(h1:C1 f 1 st= .ok (k,st1))(h2:a0W f k st1= .ok (s,st2))(hb:(E3 s&& !st.pool.contains s)=true):Z2 f st= .ok (s,st2):=by
 obtain⟨h3,rfl,rfl⟩:=a7d h2;simp only[Z2,h1,h3,hb,if_true]
end
theorem b5I(w:World)(b:Nat)(f:ByteArray)(pv:Value)(st:St)(h:Hid (Rd w b f pv st)):
 Calls prog 147 #[.pointer (some ⟨b,0,none⟩)] w (E6 w b f pv (Z2 f st) a6k):=by
 obtain⟨-,-,-,c1,-,-,-,-,-⟩:=h.out.cells;go_enter func147,ntmps147
 go_wp2_with (first
  |(go_at_call 146
    refine E6.bind (j1 w b f pv st 1 h (by omega)) (fun er w' hr hg=>⟨rfl, .err (er:=er) (by simp only[Z2,hr]) rfl rfl hg⟩) ?_;rintro k st1 v w1 H1 rfl hR1 hg1;dsimp only)
  |(go_at_call 221
    refine E6.bind (b1B w1 b f pv st1 k hR1.out (by have:=(X4 H1.out).2;omega)) (fun er w' hr hg=>⟨rfl, .err (er:=er) (b6L H1.out hr) rfl rfl (A1 hg1 hg)⟩) ?_;rintro s st2 v w2 H2 rfl hR2 hg2;obtain⟨-,ho2,-,-,c2,-,-,-,-⟩:=hR2.out.cells;have HO2:=A0 ho2;have hss:s.size≤2048:=by have h5:=(a7d H2.out);have h6:=hR2.out.inv.fits;rw[h5.2.1];simp;omega
    clear ho2 c1;dsimp only)
  |(go_at_call 212;refine(b0S s w2 hss).mono ?_;rintro e w' ⟨rfl,rfl⟩;dsimp only;cases hb:E3 s)
  |(go_at_call 222;refine(b5e w2 (b+1) pv st2.pool s HO2 (by have:=hR2.out.inv.pool;exact this)).mono ?_;rintro e w' ⟨rfl,rfl⟩;dsimp only;cases hq:st2.pool.contains s)
  |(go_at_call 107;refine(b8G s w2 hss).mono ?_;rintro e w4 ⟨rfl,hg4⟩;dsimp only))
 ·exact⟨rfl, .err (er:=(4,st.at_)) (b0M H1.out H2.out (by rw[hb];rfl)) rfl rfl (A1 hg1 hg2)⟩
 ·go_ret;exact .ok (b6K H1.out H2.out (by rw[←b0m H1.out H2.out,hb,hq];rfl)) (K7 (A1 hg1 hg2) hg4) rfl (hR2.out.keep hg4)
 ·exact⟨rfl, .err (er:=(4,st.at_)) (b0M H1.out H2.out (by rw[←b0m H1.out H2.out,hb,hq];rfl)) rfl rfl (A1 hg1 hg2)⟩
def a4R(w:World)(b:Nat)(f:ByteArray)(r:R (List Unit))(e:Ending)(w':World):Prop:=
 w.grownBy w' (some b)∧match r with
  | .ok (_,st)=>e= .returned (.tuple #[])∧∃pv,Rd w' b f pv st
  | .error er=>e=a7x er
variable {w w' w1 w2:World}
variable {b c i n:Nat}
variable {f s:ByteArray}
variable {r:R (List Unit)}
variable {x y:Int}
variable {er:Er}
theorem a4R.err
 (hr:r= .error er) (hx:x=er.1) (hy:y=er.2) (hg:w.grownBy w' (some b)):a4R w b f r (.panicked [{v:= .iface 125 (.agg #[.int .i64 x, .int .i64 y]),recovered:=false}]) w':=by
 subst hr hx hy;exact⟨hg,rfl⟩
variable {st st1:St}
theorem c2f(h:Z2 f st= .error er):O5 f st= .error er:=by simp only[O5,h]
theorem c0V(h:Z2 f st= .ok (s,st1)):O5 f st= .ok ((),{st1 with pool:=st1.pool++ [s]}):=by simp only[O5,h]
theorem b4z(h:Z2 f st= .ok (s,st1)):st1.pool=st.pool∧st1.used=st.used:=by
 unfold Z2 at h;split at h
 ·cases h
 ·rename_i k st2 h2;split at h
  ·dsimp only at h;split at h
   ·cases h;rw[(X4 h2).1];exact⟨rfl,rfl⟩
   ·cases h
  ·cases h
theorem Rd.setPool{pv:Value}{g cap base:Nat}{row:Option Nat}(h:Rd w b f pv st)(h1:w.grownBy w1 none)(h2:w1.grownBy w2 row)(hr:row≠some b)
 (hb:b<base) (ho:w2.ownsRow base 9 1 (.slice (some ⟨g,0,none⟩) (st.pool.length+1) cap) (st.pool.length+1) (st.pool.map Value.string++ [.string s])) (hl:st.pool.length<255):
 Rd (w2.setCell ⟨b,2,none⟩ (.slice (some ⟨g,0,none⟩) (st.pool.length+1) cap)) b f (.slice (some ⟨g,0,none⟩) (st.pool.length+1) cap) {st with pool:=st.pool++ [s]}:=by
 refine⟨⟨h.inv.fits,h.inv.at_,by have:=h.inv.used;simp;omega,by simp;omega⟩,?_,?_⟩
 ·exact((h.blk.keep h1 (by simp)).keep h2 (fun e=>hr e.symm)).set 2 _
 ·have h5:w2.ownsRow (b+1) 9 1 (.slice (some ⟨g,0,none⟩) (st.pool.length+1) cap) (st.pool.length+1) (st.pool.map Value.string++ [.string s]):=P3 ho (by omega);have h6:=h5.kept (A9 w2 ⟨b,2,none⟩ (.slice (some ⟨g,0,none⟩) (st.pool.length+1) cap)) (.inr (K0 h5 (show b<b+1 by omega)));simpa using h6
theorem b4Q(w:World)(b:Nat)(f:ByteArray)(st:St)(h:Hid (Rd w b f (.slice none 0 0) st))(h0:st.pool=[]):
 Calls prog 92 #[.pointer (some ⟨b,0,none⟩)] w (a4R w b f (E5 f 1 (O5 f) st)):=by
 have hbl:=h.out.lt;have H0:=A0 h0;clear h0;go_enter func92,ntmps92;go_wp2_with (go_at_call 146;refine E6.bind (j1 w b f _ st 1 h (by omega)) (fun er w' hr hg=>⟨rfl, .err (er:=er) (by rw[E5,hr]) rfl rfl hg⟩) ?_;rintro n st1 v w1 HH rfl hR hg;dsimp only)
 have hn:=(X4 HH.out).2;go_loopw [4] (fun i wr=>∃(k:Nat) (xs:List Unit) (st2:St) (l:Value),i= .int .i64 k∧Mid (O5 f) n st1 k xs st2∧st2.pool.length=k∧Rd wr b f l st2∧wr.ownsRow w.heap.size 9 1 l st2.pool.length (st2.pool.map Value.string)∧w.grownBy wr (some b)) (fun i _=>n-(intOf i).toNat)
 case atStart=>
  have hp:st1.pool=[]:=by rw[(X4 HH.out).1];exact H0.out
  exact⟨0,[],st1,_,rfl, .start _ _ _,by rw[hp];rfl,hR.out,by rw[hp];exact World.ownsRow_nil _ _ _ _,hg⟩
 case round=>
  obtain⟨k,xs,st2,l,rfl,hmid,hlen,hR2,hown,hg2⟩:=hrel;have HM:=A0 hmid;have HR2:=A0 hR2;have HO:=A0 hown;have HL:=A0 hlen;have hne:=K0 hown hbl;obtain⟨-,-,-,-,c2,-,-,f2,-⟩:=hR2.cells;obtain⟨a0,k0,rfl⟩:=F0 hown;clear hmid hR2 hown hlen;by_cases hk:k<n
  ·obtain⟨i,hi,hz0,hz1,hz2⟩:=info_parts b9S;go_wp2_with fail
   have hRd:Hid (Rd wr.drew b f _ st2):=HR2.out.keep (B6 _ _)
   go_region_law (first
    |(go_simp
      go_at_call 147
      (refine E6.bind (b5I wr.drew b f _ st2 hRd) (fun er w' hr hg3=>⟨rfl, .err (er:=er) (by rw[E5,HH.out];exact HM.out.fail hk (c2f hr)) rfl rfl (A1 (A1 hg2 (B6 _ _)) hg3)⟩) ?_)
      (rintro s st3 v w3 H3 rfl hR3 hg3)
      have s3:=Nat.le_trans hg2.size hg3.size;(obtain⟨-,-,-,-,c2',-,-,f2',-⟩:=hR3.out.cells)
      have hb3:=hR3.out.lt;have c2a:∀o,(w3.alloc o).cell? ⟨b,2,none⟩=some (.slice a0 st2.pool.length k0):=fun o=>by rw[World.cell?_alloc_past _ _ _ hb3];exact c2'
      have f2a:=fun o=>((A2 w3 o none).frozen_far ⟨b,2,none⟩ hb3 (by simp)).trans f2'
      dsimp only)
    |(refine step_append_lies _ rfl _ _ 22 rfl w.heap.size 9 i _ 1 16 underlying22 hi hz0 hz1 hz2 rfl (by decide) _ st2.pool.length (st2.pool.map Value.string) rfl ((World.ownsRow.kept (World.ownsRow.drew HO.out) hg3 (.inr hne)).alloc _) ⟨w3.heap.size,0,none⟩ 1 1 [Value.string s] rfl rfl (S6 w3 _ _) (by simp[Value.oneCell']) (by omega) (by have:=HL.out;unfold maxLen;omega) (by have:=HL.out;omega) (by simp;omega) _ rfl ?_
      intro g cap w4 hown4 hgrow4 hat hlt;have c4:=(hgrow4.cell_far ⟨b,2,none⟩ (by simp;omega) (fun e=>hne e.symm)).trans (c2a _);have f4:=(hgrow4.frozen_far ⟨b,2,none⟩ (by simp;omega) (fun e=>hne e.symm)).trans (f2a _)))
   all_goals
    have hp3:=(b4z H3.out).1;have hpl:st2.pool.length<255:=by have:=HL.out;omega
    have hgg:=D5 (A1 (A1 (A1 hg2 (B6 _ _)) hg3) (A2 _ _ _)) hgrow4 (fun g hg=> .inl (Y4 HO.out hg).1)
    have hfin:Hid (Rd (w4.setCell ⟨b,2,none⟩ (.slice (some ⟨g,0,none⟩) (st2.pool.length+1) cap)) b f (.slice (some ⟨g,0,none⟩) (st2.pool.length+1) cap) {st3 with pool:=st3.pool++ [s]}):=by
     have:=Rd.setPool (s:=s) (g:=g) (cap:=cap) hR3.out (A2 w3 _ none) hgrow4 hne hbl (by rw[hp3];exact hown4) (by rw[hp3];exact hpl);rw[hp3]at this⊢;exact this
    have hown5:Hid ((w4.setCell ⟨b,2,none⟩ (.slice (some ⟨g,0,none⟩) (st2.pool.length+1) cap)).ownsRow w.heap.size 9 1 (.slice (some ⟨g,0,none⟩) (st2.pool.length+1) cap) (st3.pool++ [s]).length ((st3.pool++ [s]).map Value.string)):=by
     have:=hown4.kept (A9 w4 ⟨b,2,none⟩ (.slice (some ⟨g,0,none⟩) (st2.pool.length+1) cap)) (.inr (K0 hown4 hbl));rw[hp3];unfold Hid;simpa using this
    have HM4:=A0 (HM.out.step hk (c0V H3.out));have hg5:w.grownBy (w4.setCell ⟨b,2,none⟩ (.slice (some ⟨g,0,none⟩) (st2.pool.length+1) cap)) (some b):=A1 hgg (A9 w4 ⟨b,2,none⟩ _);clear hown4 hgrow4 hat;go_wp2_with fail
    go_roundw
    case rel=>exact⟨k+1,xs++ [()],{st3 with pool:=st3.pool++ [s]},_,by go_num,HM4.out,by rw[hp3];have:=HL.out;simp;omega,hfin.out,hown5.out,hg5⟩
    case measure=>simp[intOf];omega
  ·go_wp2
   go_end0;have hk':k=n:=by have:=HM.out.1;omega
   subst hk';refine⟨hg2,?_⟩;rw[E5,HH.out];simp only[HM.out.done];exact⟨trivial,_,HR2.out⟩
def y7(f:ByteArray)(st:St):R Unit:=match N2 f 87 0 st with| .ok (_,st1)=>N2 f 49 1 st1| .error er=> .error er
def c2u(_:World)(v:Value)(_:Unit):Prop:=v= .tuple #[]
theorem b2A(h:C1 f 1 st= .error er):N2 f c i st= .error er:=by simp only[N2,h]
theorem b1P(h:C1 f 1 st= .ok (n,st1))(hn:n≠c):N2 f c i st= .error (3,i):=by simp only[N2,h,hn,if_false]
theorem b1O(h:C1 f 1 st= .ok (n,st1))(hn:n=c):N2 f c i st= .ok ((),st1):=by simp only[N2,h,hn,if_true]
theorem c4g(h:¬(n:Int)=IntKind.i64.wrap ((ByteArray.mk #[87,49])[0].toNat:Int)):n≠87:=fun e=>h (by subst e;decide)
theorem c4B(h:(n:Int)=IntKind.i64.wrap ((ByteArray.mk #[87,49])[0].toNat:Int)):n=87:=by
 have e:IntKind.i64.wrap ((ByteArray.mk #[87,49])[0].toNat:Int)=87:=by decide
 omega
theorem c4h(h:¬(n:Int)=IntKind.i64.wrap ((ByteArray.mk #[87,49])[1].toNat:Int)):n≠49:=fun e=>h (by subst e;decide)
theorem c4C(h:(n:Int)=IntKind.i64.wrap ((ByteArray.mk #[87,49])[1].toNat:Int)):n=49:=by
 have e:IntKind.i64.wrap ((ByteArray.mk #[87,49])[1].toNat:Int)=49:=by decide
 omega
theorem b2z(h:N2 f 87 0 st= .error er):y7 f st= .error er:=by simp only[y7,h]
theorem a9t{r:R Unit}(h:N2 f 87 0 st= .ok ((),st1))(h2:N2 f 49 1 st1=r):y7 f st=r:=by simp only[y7,h,h2]
theorem b4R(w:World)(b:Nat)(f:ByteArray)(pv:Value)(st:St)(h:Hid (Rd w b f pv st)):
 Calls prog 91 #[.pointer (some ⟨b,0,none⟩)] w (E6 w b f pv (y7 f st) c2u):=by
 go_enter func91,ntmps91;go_wp2_with fail
 go_loopw [3] (fun i wr=>w.grownBy wr (some b)∧((i= .int .i64 0∧Rd wr b f pv st)∨(∃st1,i= .int .i64 1∧N2 f 87 0 st= .ok ((),st1)∧Rd wr b f pv st1)∨(∃st2,i= .int .i64 2∧y7 f st= .ok ((),st2)∧Rd wr b f pv st2))) (fun i _=>2-(intOf i).toNat)
 case atStart=>exact⟨I8 _ _, .inl ⟨rfl,h.out⟩⟩
 case round=>
  obtain⟨hg,⟨rfl,hR⟩|⟨st1,rfl,hm,hR⟩|⟨st2,rfl,hm,hR⟩⟩:=hrel
  ·have HR:=A0 (hR.keep (B6 _ _));clear hR;go_wp2_with fail
   go_region_law (first
    |(go_simp
      go_at_call 146
      refine E6.bind (j1 wr.drew b f pv st 1 HR (by omega)) (fun er w' hr hg3=>⟨rfl, .err (er:=er) (b2z (b2A hr)) rfl rfl (A1 (A1 hg (B6 _ _)) hg3)⟩) ?_;rintro n st3 v w3 H3 rfl hR3 hg3;dsimp only))
   all_goals
    go_wp2_with fail
    ·rename_i hq _ _;have h5:=c4g (by simpa using hq);exact⟨rfl, .err (er:=(3,0)) (b2z (b1P H3.out h5)) rfl rfl (A1 (A1 hg (B6 _ _)) hg3)⟩
    ·rename_i hq;have h5:=c4B (by simpa using hq);exact⟨⟨A1 (A1 hg (B6 _ _)) hg3, .inr (.inl ⟨st3,rfl,b1O H3.out h5,hR3.out⟩)⟩,by simp[intOf]⟩
  ·have HR:=A0 (hR.keep (B6 _ _));have HM:=A0 hm;clear hR hm;go_wp2_with fail
   go_region_law (first
    |(go_simp
      go_at_call 146
      refine E6.bind (j1 wr.drew b f pv st1 1 HR (by omega)) (fun er w' hr hg3=>⟨rfl, .err (er:=er) (a9t HM.out (b2A hr)) rfl rfl (A1 (A1 hg (B6 _ _)) hg3)⟩) ?_;rintro n st3 v w3 H3 rfl hR3 hg3;dsimp only))
   all_goals
    go_wp2_with fail
    ·rename_i hq _ _;have h5:=c4h (by simpa using hq);exact⟨rfl, .err (er:=(3,1)) (a9t HM.out (b1P H3.out h5)) rfl rfl (A1 (A1 hg (B6 _ _)) hg3)⟩
    ·rename_i hq;have h5:=c4C (by simpa using hq);exact⟨⟨A1 (A1 hg (B6 _ _)) hg3, .inr (.inr ⟨st3,rfl,a9t HM.out (b1O H3.out h5),hR3.out⟩)⟩,by simp[intOf]⟩
  ·have HM:=A0 hm;have HR:=A0 hR;clear hR hm;go_wp2_with fail
   go_end0;exact .ok HM.out hg rfl HR.out
theorem a4R.bind{P:Program}{fn:FuncId}{args:Array Value}{K:Ending→World→Prop}
 (hc:Calls P fn args w (a4R w b f r))
 (herr:∀er w',r= .error er→w.grownBy w' (some b)→K (.panicked [{v:= .iface 125 (.agg #[.int .i64 er.1, .int .i64 er.2]),recovered:=false}]) w')
 (hok:∀xs st w' pv,Hid (r= .ok (xs,st))→Hid (Rd w' b f pv st)→w.grownBy w' (some b)→K (.returned (.tuple #[])) w'):Calls P fn args w K:=
 hc.mono fun e w' he=>by
  obtain⟨hg,he⟩:=he;cases r with
  |ok p=>obtain⟨rfl,pv,hR⟩:=he;exact hok p.1 p.2 w' pv rfl hR hg
  |error er=>subst he;exact herr er w' rfl hg
theorem b6Q{u:Unit}(h:y7 f st= .ok (u,st1))(h0:st.pool=[]:=by rfl):st1.pool=[]:=by
 unfold y7 N2 at h;split at h
 ·rename_i st2 h2;split at h2
  ·cases h2
  ·rename_i h3;split at h2
   ·cases h2;split at h
    ·cases h
    ·rename_i h5;split at h
     ·cases h;rw[(X4 h5).1,(X4 h3).1];exact h0
     ·cases h
   ·cases h2
 ·cases h
def a9j(w:World)(r:Except Er Cl)(e:Ending)(w':World):Prop:=
 w.grownBy w' none∧match r with
  | .ok c=>∃v,e= .returned v∧a1c w.heap.size w' v c
  | .error er=>e=a7x er
theorem a9j.err{r:Except Er Cl}
 (hr:r= .error er) (hx:x=er.1) (hy:y=er.2) (hg:w.grownBy w' none):a9j w r (.panicked [{v:= .iface 125 (.agg #[.int .i64 x, .int .i64 y]),recovered:=false}]) w':=by
 subst hr hx hy;exact⟨hg,rfl⟩
theorem a3u(h:w.grownBy w1 none)(h1:w1.grownBy w2 (some b))(hb:w.heap.size≤b):w.grownBy w2 none:=
 D5 h h1 (fun k e=> .inl (by cases e;exact hb))
def a7J(f:ByteArray)(st:St):R Unit:=if st.used<st.pool.length then .error (5,f.size)else if st.at_<f.size then .error (6,st.at_)else .ok ((),st)
section
variable{f:ByteArray}{er:Er}{st2 st3 st4:St}{xs:List Unit}{c:Cl}{u:Unit}
theorem c0u(h:2048<f.size):G7 f= .error (1,0):=by simp only[G7,h,if_true]
theorem b8D(h0:¬2048<f.size)(h:y7 f ⟨0,0,[]⟩= .error er):G7 f= .error er:=by
 unfold y7 at h;simp only[G7,h0,if_false];split at h
 ·rename_i h1;simp only[h1,h]
 ·rename_i h1;simp only[h1];cases h;rfl
theorem a7b(h0:¬2048<f.size)(h:y7 f ⟨0,0,[]⟩= .ok (u,st2)):G7 f=
 match E5 f 1 (O5 f) st2 with
 | .error e=> .error e
 | .ok (_,st3)=>
   match cls f st3 with
   | .error e=> .error e
   | .ok (c,st4)=>
     if st4.used<st4.pool.length then .error (5,f.size)else
     if st4.at_<f.size then .error (6,st4.at_)else .ok c:=by
 unfold y7 at h;simp only[G7,h0,if_false];split at h
 ·rename_i h1;simp only[h1,h];rfl
 ·cases h
theorem c0t(h0:¬2048<f.size)(h1:y7 f ⟨0,0,[]⟩= .ok (u,st2))(h:E5 f 1 (O5 f) st2= .error er):G7 f= .error er:=by rw[a7b h0 h1,h]
theorem c1H(h0:¬2048<f.size)(h1:y7 f ⟨0,0,[]⟩= .ok (u,st2))(h2:E5 f 1 (O5 f) st2= .ok (xs,st3))(h:cls f st3= .error er):G7 f= .error er:=by rw[a7b h0 h1,h2];simp only[h]
theorem c1F(h0:¬2048<f.size)(h1:y7 f ⟨0,0,[]⟩= .ok (u,st2))(h2:E5 f 1 (O5 f) st2= .ok (xs,st3))(h3:cls f st3= .ok (c,st4))(h:a7J f st4= .error er):G7 f= .error er:=by
 rw[a7b h0 h1,h2];simp only[h3];unfold a7J at h;split at h
 ·rename_i h5;rw[if_pos h5];cases h;rfl
 ·rename_i h5;rw[if_neg h5];split at h
  ·rename_i h6;rw[if_pos h6];cases h;rfl
  ·cases h
theorem b3r(h0:¬2048<f.size)(h1:y7 f ⟨0,0,[]⟩= .ok (u,st2))(h2:E5 f 1 (O5 f) st2= .ok (xs,st3))(h3:cls f st3= .ok (c,st4)){st5:St}(h:a7J f st4= .ok (u,st5)):G7 f= .ok c:=by
 rw[a7b h0 h1,h2];simp only[h3];unfold a7J at h;split at h
 ·cases h
 ·rename_i h5;rw[if_neg h5];split at h
  ·cases h
  ·rename_i h6;rw[if_neg h6]
end
theorem b9k(w:World)(f:ByteArray)(hf:f.size≤maxLen)(hS:Hid (O4 w)):
 Calls prog 51 #[.string f] w (a9j w (G7 f)):=by
 have HF:f.size≤9223372036854775807:=hf;clear hf;by_cases h0:2048<f.size
 ·go_enter func51,ntmps51;go_wp2
  exact⟨rfl, .err (er:=(1,0)) (c0u h0) rfl rfl (A2 _ _ _)⟩
 ·have hpos:=hS.out.1;go_enter func51,ntmps51
  have hR0:Rd ((w.alloc (.cells #[.string ⟨#[]⟩, .string ⟨#[]⟩, .slice none 0 0, .slice none 0 0] 44)).alloc (.cells #[.string f, .int .i64 0, .slice none 0 0, .int .i64 0] 199)) (w.heap.size+1) f (.slice none 0 0) ⟨0,0,[]⟩:=by
   refine⟨⟨by omega,Nat.zero_le _,Nat.zero_le _,Nat.zero_le _⟩,?_,World.ownsRow_nil _ _ _ _⟩;have:=A3.new (w.alloc (.cells #[.string ⟨#[]⟩, .string ⟨#[]⟩, .slice none 0 0, .slice none 0 0] 44)) #[.string f, .int .i64 0, .slice none 0 0, .int .i64 0] 199;simpa using this
  have hA0:=(A3.new w #[.string ⟨#[]⟩, .string ⟨#[]⟩, .slice none 0 0, .slice none 0 0] 44).keep (A2 _ (.cells #[.string f, .int .i64 0, .slice none 0 0, .int .i64 0] 199) none) (by simp);have hg0:w.grownBy ((w.alloc (.cells #[.string ⟨#[]⟩, .string ⟨#[]⟩, .slice none 0 0, .slice none 0 0] 44)).alloc (.cells #[.string f, .int .i64 0, .slice none 0 0, .int .i64 0] 199)) none:=A1 (A2 _ _ _) (A2 _ _ _);have HR0:=(show Hid _ from hR0)
  clear hR0
  go_wp2_with (first
   |(go_at_call 91
     refine E6.bind (b4R _ (w.heap.size+1) f _ _ HR0) (fun er w' hr hg=>⟨rfl, .err (er:=er) (b8D h0 hr) rfl rfl (a3u hg0 hg (by omega))⟩) ?_;rintro u1 st1 v w1 H1 rfl hR1 hg1';have hg1:=a3u hg0 hg1' (by omega);have hA1:=hA0.keep hg1' (by simp);clear hg1' hA0 HR0;dsimp only)
   |(go_at_call 92
     refine a4R.bind (b4Q w1 (w.heap.size+1) f st1 hR1 (b6Q H1.out)) (fun er w' hr hg=>⟨rfl, .err (er:=er) (c0t h0 H1.out hr) rfl rfl (a3u hg1 hg (by omega))⟩) ?_;rintro xs st2 w2 pv H2 hR2 hg2';have hg2:=a3u hg1 hg2' (by omega);have hA2:=hA1.keep hg2' (by simp);have s2:=hR2.out.lt;clear hg2' hA1 hR1;dsimp only)
   |(go_at_call 93
     refine E6.bind (b8H w2 (w.heap.size+1) f pv st2 hR2 (hS.out.keep hg2 (by simp)) (by omega)) (fun er w' hr hg=>⟨rfl, .err (er:=er) (c1H h0 H1.out H2.out hr) rfl rfl (a3u hg2 hg (by omega))⟩) ?_;rintro c st3 v w3 H3 hc hR3 hg3';have hg3:=a3u hg2 hg3' (by omega);have hA3:=hA2.keep hg3' (by simp);have hC3:=A0 hc;obtain⟨a1,k1,a2,k2,rfl,-,-⟩:=hc;have s3:=hg3'.size;have hb3:=hR3.out.lt;have hT3:=A3.new w3 #[.string c.name, .string c.super, .slice a1 c.fields.length k1, .slice a2 c.methods.length k2] 44;clear hg3' hA2 hR2;dsimp only)
   |(go_at_call 94
     refine E6.bind (a7u _ (w.heap.size+1) f pv st3 (hR3.out.keep (A2 _ _ _))) (fun er w' hr hg=>⟨rfl, .err (er:=er) (c1F h0 H1.out H2.out H3.out hr) rfl rfl (a3u (A1 hg3 (A2 _ _ _)) hg (by omega))⟩) ?_;rintro u4 st4 v w4 H4 rfl hR4 hg4';have hg4:=a3u (A1 hg3 (A2 _ _ _)) hg4' (by omega);have hA4:=(hA3.keep (A2 _ _ none) (by simp)).keep hg4' (by simp);have hT4:=hT3.keep hg4' (by simp;omega);have hC4:=(hC3.out.keep (A2 _ _ none) (fun k e=>by cases e)).keep hg4' (fun k e=>by cases e;omega);obtain⟨c0,c1,c2,c3⟩:=hA4.q4;obtain⟨z0,z1,z2,z3⟩:=hA4.z4;obtain⟨d0,d1,d2,d3⟩:=hT4.q4;have HC4:=A0 hC4;clear hg4' hA3 hT3 hA4 hT4 hC4;dsimp only))
  refine bodyPost_ret (v:= .agg #[.string c.name, .string c.super, .slice a1 c.fields.length k1, .slice a2 c.methods.length k2]) (by simp[results,results51,go_sem,c0,c1,c2,c3]) rfl ?_;refine⟨D5 hg4 (a3o (g:=w.heap.size)) (fun k e=> .inl (by cases e;exact Nat.le_refl _)),?_⟩;rw[b3r h0 H1.out H2.out H3.out H4.out];exact⟨_,rfl,(HC4.out.keep (a3o (g:=w.heap.size)) (fun k e=>by cases e;omega)).base (by omega)⟩
theorem b1w{P:Program}{c:Code}{fn:Func}{c₀:Frame}{cs:List Frame}{R:Ending→FrameMode→World→Prop}{a:Act}{w:World}(u:FrameMode)
 (h:c.wp P (bodyPost P fn (fun e w'=>R e u w')) a w):c.wpS P (bodyPostS P fn c₀ cs R) a ({c₀ with mode:=u}::cs) w:=by
 refine wpS_of_wp (Code.wp_mono (fun e a' w' hq=> ?_) h);cases e with
 |normal=>obtain⟨hd,v,hr,hR⟩:=hq;exact⟨hd,u,rfl,v,hr,hR⟩
 |ret=>obtain⟨hd,v,hr,hR⟩:=hq;exact⟨hd,u,rfl,v,hr,hR⟩
 |panic E9=>obtain⟨hd,hR⟩:=hq;exact⟨hd,u,rfl,hR⟩
 |outgrown=>exact⟨u,hq⟩
 |exit id=>exact hq
 |goto l=>exact hq
theorem b6d(b1 b2:Nat)(x y ex ey:Int)(w:World)(h1:Hid (A3 w b1 #[.int .i64 x] 46))(h2:Hid (A3 w b2 #[.int .i64 y] 3))(hne:b1≠b2):
 CallsD prog 50 #[.pointer (some ⟨b1,0,none⟩), .pointer (some ⟨b2,0,none⟩)] (.panicking [{v:= .iface 125 (.agg #[.int .i64 ex, .int .i64 ey]),recovered:=false}]) w fun e u' w'=>
  e= .returned (.tuple #[])∧u'= .panicking [{v:= .iface 125 (.agg #[.int .i64 ex, .int .i64 ey]),recovered:=true}]∧
   A3 w' b1 #[.int .i64 ex] 46∧A3 w' b2 #[.int .i64 ey] 3∧∃w1,w.grownBy w1 (some b1)∧w1.grownBy w' (some b2):=by
 have c1:=h1.out.cell 0 (.int .i64 x) rfl;have c2:=h2.out.cell 0 (.int .i64 y) rfl;have f1:=h1.out.frozen 0;have f2:=h2.out.frozen 0;have l1:=h1.out.lt;have l2:=h2.out.lt;refine callsD_of_wpS func50 rfl fun c₀ cs hu=> ?_
 simp only[ntmps50,List.size_toArray,List.length_cons,List.length_nil,Nat.reduceAdd,Nat.reduceSub,Array.replicate_succ,Array.replicate_zero,List.push_toArray,List.append_toArray,List.nil_append,List.cons_append];apply wpS_seq;apply wpS_region;simp[wpOpsS,go_sem,recoverD,hu,Exit.thenS];refine b1w _ ?_;have hta:∀w,(Instr.typeAssert (.iface 125 (.agg #[.int .i64 ex, .int .i64 ey])) 20 125 true).run prog w= .ok (.tuple #[.agg #[.int .i64 ex, .int .i64 ey], .bool true]) w:=by intro w;kernel_rfl
 have heq:∀w,(binOp .eql 20 (.iface 125 (.agg #[.int .i64 ex, .int .i64 ey])) .nilIface).run prog w= .ok (.bool false) w:=by intro w;kernel_rfl
 go_wp2_with fail
 obtain⟨W,hW⟩:∃W,W=w.alloc (Obj.cells #[Value.int IntKind.i64 ex,Value.int IntKind.i64 ey] 125):=⟨_,rfl⟩
 rw[←hW];have hgW:w.grownBy W none:=by rw[hW];exact A2 _ _ _
 have hF:A3 W w.heap.size #[.int .i64 ex, .int .i64 ey] 125:=by rw[hW];exact A3.new _ _ _
 have HB1:=A0 (h1.out.keep hgW (by simp));have HB2:=A0 (h2.out.keep hgW (by simp));have d0:=hF.cell 0 (.int .i64 ex) rfl;have d1:=hF.cell 1 (.int .i64 ey) rfl;clear c1 c2 f1 f2 hF;have c1:=HB1.out.cell 0 (.int .i64 x) rfl;have c2:=HB2.out.cell 0 (.int .i64 y) rfl;have f1:=HB1.out.frozen 0;have f2:=HB2.out.frozen 0;have n1:¬b1=w.heap.size:=by omega
 have n2:¬b2=w.heap.size:=by omega
 have n3:¬b2=b1:=fun e=>hne e.symm
 clear hW hta heq hu h1 h2;go_region
 go_end0;have hgd:W.grownBy W.drew none:=B6 _ _;have k1:=((HB1.out.keep hgd (by simp)).set 0 (.int .i64 ex)).keep (A9 _ ⟨b2,0,none⟩ (.int .i64 ey)) (by simp;exact hne);have k2:=((HB2.out.keep hgd (by simp)).keep (A9 _ ⟨b1,0,none⟩ (.int .i64 ex)) (by simp;exact n3)).set 0 (.int .i64 ey);exact⟨rfl,rfl,k1,k2,_,A1 (c1u (A1 hgW hgd)) (A9 _ ⟨b1,0,none⟩ _),A9 _ ⟨b2,0,none⟩ _⟩
theorem b7k(b1 b2:Nat)(w:World):
 CallsD prog 50 #[.pointer (some ⟨b1,0,none⟩), .pointer (some ⟨b2,0,none⟩)] .returning w fun e u' w'=>e= .returned (.tuple #[])∧u'= .returning∧w'=w:=by
 refine callsD_of_wpS func50 rfl fun c₀ cs hu=> ?_
 simp only[ntmps50,List.size_toArray,List.length_cons,List.length_nil,Nat.reduceAdd,Nat.reduceSub,Array.replicate_succ,Array.replicate_zero,List.push_toArray,List.append_toArray,List.nil_append,List.cons_append];apply wpS_seq;apply wpS_region;simp[wpOpsS,go_sem,recoverD,hu,Exit.thenS];have hc:c₀={c₀ with mode:= .returning}:=by cases c₀;simp_all
 rw[hc];refine b1w _ ?_;go_wp2_with fail
 refine bodyPost_ret (results_none rfl _ _ _) rfl ?_;exact⟨rfl,rfl⟩
theorem C7{p:Prop}(h:p):Hid p:=h
theorem a8m(w:World)(o:Obj):(w.alloc o).heap.size=w.heap.size+1:=by simp
def a7w(w:World)(r:Except Er Cl)(e:Ending)(w':World):Prop:=
 w.grownBy w' none∧∃v c,e= .returned (.tuple #[v, .int .i64 c.1, .int .i64 c.2])∧match r with
  | .ok k=>a1c w.heap.size w' v k∧c=(0,0)
  | .error er=>c=er∧v= .agg #[.string ⟨#[]⟩, .string ⟨#[]⟩, .slice none 0 0, .slice none 0 0]
theorem a6M(w:World)(f:ByteArray)(hf:f.size≤maxLen)(hS:Hid (O4 w)):
 Calls prog 18 #[.string f] w (a7w w (G7 f)):=by
 have hmf:∀(fn:Fn) (first cap:Array Value) (w:World),(Instr.makeFunc fn first cap).run prog w= .ok (.func fn first cap) w:=fun _ _ _ _=>rfl
 go_enter_defers func18,ntmps18
 have hA:=(((A3.new w #[.string ⟨#[]⟩, .string ⟨#[]⟩, .slice none 0 0, .slice none 0 0] 44).keep (A2 _ (.cells #[.int .i64 0] 46) none) (by simp)).keep (A2 _ (.cells #[.int .i64 0] 3) none) (by simp))
 have hE:=((A3.new (w.alloc (.cells #[.string ⟨#[]⟩, .string ⟨#[]⟩, .slice none 0 0, .slice none 0 0] 44)) #[.int .i64 0] 46).keep (A2 _ (.cells #[.int .i64 0] 3) none) (by simp))
 have hP:=A3.new ((w.alloc (.cells #[.string ⟨#[]⟩, .string ⟨#[]⟩, .slice none 0 0, .slice none 0 0] 44)).alloc (.cells #[.int .i64 0] 46)) #[.int .i64 0] 3;have hg0:w.grownBy (((w.alloc (.cells #[.string ⟨#[]⟩, .string ⟨#[]⟩, .slice none 0 0, .slice none 0 0] 44)).alloc (.cells #[.int .i64 0] 46)).alloc (.cells #[.int .i64 0] 3)) none:=A1 (A1 (A2 _ _ _) (A2 _ _ _)) (A2 _ _ _);have hS0:=hS.out.keep hg0 (by simp);simp only[a8m]at hA hE hP;have HA:=C7 hA;have HE:=C7 hE;have HP:=C7 hP;clear hA hE hP;go_wp2_with (go_at_call 51;refine(b9k _ f hf hS0).mono ?_)
 intro e w1 he;obtain⟨hg1,he⟩:=he;have hA1:=HA.out.keep hg1 (by simp);have hE1:=HE.out.keep hg1 (by simp);have hP1:=HP.out.keep hg1 (by simp);have HGG:=A0 (A1 hg0 hg1);cases hd:G7 f with
 |error er=>
  rw[hd]at he;simp only at he;subst he;unfold a7x;dsimp only;have hl:=hP1.lt;go_wp2_with fail
  refine leaves_cons (f:=50) (args:= #[.pointer (some ⟨w.heap.size+1,0,none⟩), .pointer (some ⟨w.heap.size+1+1,0,none⟩)]) (by simp) (by simp[go_sem]) ?_;refine(b6d (w.heap.size+1) (w.heap.size+1+1) 0 0 er.1 er.2 w1 hE1 hP1 (by omega)).mono ?_;rintro e u' w2 ⟨rfl,rfl,k1,k2,w3,g1,g2⟩;have hA2:=(hA1.keep g1 (by simp)).keep g2 (by simp;omega);have c0:=hA2.cell 0 (.string ⟨#[]⟩) rfl;have c1:=hA2.cell 1 (.string ⟨#[]⟩) rfl;have c2:=hA2.cell 2 (.slice none 0 0) rfl;have c3:=hA2.cell 3 (.slice none 0 0) rfl;have d0:=k1.cell 0 (.int .i64 er.1) rfl;have d1:=k2.cell 0 (.int .i64 er.2) rfl;simp[Leaves,settle,results,results18,go_sem,c0,c1,c2,c3,d0,d1];refine⟨?_,_,er,rfl,rfl,rfl⟩;exact D5 (D5 HGG.out g1 (fun k e=>by cases e;exact .inl (by omega))) g2 (fun k e=>by cases e;exact .inl (by omega))
 |ok c=>
  rw[hd]at he;obtain⟨v,rfl,hc⟩:=he;dsimp only;have hc':=hc;obtain⟨a1,q1,a2,q2,rfl,-,-⟩:=hc;have HC:Hid (a1c _ w1 _ c):=hc';clear hc';have c0:=hA1.cell 0 (.string ⟨#[]⟩) rfl;have c1:=hA1.cell 1 (.string ⟨#[]⟩) rfl;have c2:=hA1.cell 2 (.slice none 0 0) rfl;have c3:=hA1.cell 3 (.slice none 0 0) rfl;obtain⟨z0,z1,z2,z3⟩:=hA1.z4;have d0:=hE1.cell 0 (.int .i64 0) rfl;have d1:=hP1.cell 0 (.int .i64 0) rfl;have y0:=hE1.frozen 0;have y1:=hP1.frozen 0;have hl:=hP1.lt;go_wp2_with fail
  refine leaves_cons (f:=50) (args:= #[.pointer (some ⟨w.heap.size+1,0,none⟩), .pointer (some ⟨w.heap.size+1+1,0,none⟩)]) (by simp) (by simp[go_sem]) ?_;refine(b7k (w.heap.size+1) (w.heap.size+1+1) _).mono ?_;rintro e u' w2 ⟨rfl,rfl,rfl⟩;simp[Leaves,settle,results,results18,go_sem,c0,c1,c2,c3,d0,d1]
  have hbase:a1c (w.heap.size+1+1+1) w1 (.agg #[.string c.name, .string c.super, .slice a1 c.fields.length q1, .slice a2 c.methods.length q2]) c:=by
   have:=HC.out;simp only[a8m]at this;exact this
  refine⟨?_,_,(0,0),rfl,?_⟩
  ·exact D5 (D5 (D5 HGG.out (a3o (g:=w.heap.size)) (fun k e=> .inl (by cases e;omega))) (A9 _ ⟨w.heap.size+1,0,none⟩ _) (fun k e=> .inl (by cases e;simp))) (A9 _ ⟨w.heap.size+1+1,0,none⟩ _) (fun k e=> .inl (by cases e;simp;omega))
  ·rw[hd];refine⟨a1c.base (b1:=w.heap.size+1+1+1) ?_ (by omega),rfl⟩;exact((hbase.keep (a3o (g:=w.heap.size)) (fun k e=>by cases e;omega)).keep (A9 _ ⟨w.heap.size+1,0,none⟩ _) (fun k e=>by cases e;simp)).keep (A9 _ ⟨w.heap.size+1+1,0,none⟩ _) (fun k e=>by cases e;simp)
section
variable{w w':World}{b k:Nat}{f:ByteArray}{pv:Value}{a e p:Nat}{names:List ByteArray}{t:Int}{s:Except Er St}
end
def M3{α β:Type}(r:R α)(m:α→St→R β):R β:=match r with| .ok (a,st)=>m a st| .error er=> .error er
theorem b7Z(f:ByteArray):name f=fun st=>M3 (C1 f 1 st) (fun n st1=>if n≤st1.used∧n<st1.pool.length then .ok (st1.pool.getD n ByteArray.empty,{st1 with used:=max st1.used (n+1)})else .error (5,st1.at_-1)):=by
 funext st
 unfold name M3;cases h:C1 f 1 st with
 |error er=>rfl
 |ok p=>
  obtain⟨n,st1⟩:=p;obtain⟨rfl,-⟩:=X4 h;simp
theorem b1r(f:ByteArray):kind f=fun st=>M3 (C1 f 1 st) (fun k st1=>if 4<k then .error (3,st1.at_-1)else M3 (P5 f (a0N k) st1) (fun n st2=> .ok (⟨k,n⟩,st2))):=by
 funext st
 unfold kind M3;cases h:C1 f 1 st with
 |error er=>rfl
 |ok p=>
  obtain⟨n,st1⟩:=p;obtain⟨rfl,-⟩:=X4 h;simp only[Nat.add_sub_cancel];split
  ·rfl
  ·cases P5 f (a0N n) {st with at_:=st.at_+1}<;>rfl
section
variable{f:ByteArray}{x:In}{st:St}
end
theorem b8i{α:Type}(f:ByteArray)(c:Nat)(p:St→R α):E5 f c p=fun st=>M3 (C1 f c st) (C8 p):=by
 funext st
 unfold E5 M3;cases C1 f c st<;>rfl
theorem b1l(f:ByteArray):meth f=fun st=>M3 (name f st) fun n st1=>M3 (E5 f 1 (kind f) st1) fun ps st2=>M3 (kind f st2) fun rt st3=>M3 (C1 f 1 st3) fun so st4=>M3 (C1 f 1 st4) fun lo st5=>
 M3 (E5 f 2 (S4 f) st5) fun is st6=>M3 (E5 f 1 (X2 f) st6) fun hs st7=> .ok (⟨n,ps,rt,so,lo,is,hs⟩,st7):=by
 funext st
 unfold meth M3;cases name f st with
 |error er=>rfl
 |ok q=>
  obtain⟨n,st1⟩:=q;dsimp only;cases E5 f 1 (kind f) st1 with
  |error er=>rfl
  |ok q=>
   obtain⟨ps,st2⟩:=q;dsimp only;cases kind f st2 with
   |error er=>rfl
   |ok q=>
    obtain⟨rt,st3⟩:=q;dsimp only;cases C1 f 1 st3 with
    |error er=>rfl
    |ok q=>
     obtain⟨so,st4⟩:=q;dsimp only;cases C1 f 1 st4 with
     |error er=>rfl
     |ok q=>
      obtain⟨lo,st5⟩:=q;dsimp only;cases E5 f 2 (S4 f) st5 with
      |error er=>rfl
      |ok q=>
       obtain⟨is,st6⟩:=q;dsimp only;cases E5 f 1 (X2 f) st6<;>rfl
theorem b0p(f:ByteArray):X2 f=fun st=>M3 (C1 f 2 st) fun a st1=>M3 (C1 f 2 st1) fun b st2=>M3 (C1 f 2 st2) fun c st3=>M3 (name f st3) fun d st4=> .ok (⟨a,b,c,d⟩,st4):=by
 funext st
 unfold X2 M3;cases C1 f 2 st with
 |error er=>rfl
 |ok q=>
  obtain⟨n,st1⟩:=q;dsimp only;cases C1 f 2 st1 with
  |error er=>rfl
  |ok q=>
   obtain⟨ps,st2⟩:=q;dsimp only;cases C1 f 2 st2 with
   |error er=>rfl
   |ok q=>
    obtain⟨rt,st3⟩:=q;dsimp only;cases name f st3<;>rfl
section
variable{w wr w1:World}{b G B:Nat}{f:ByteArray}{pv:Value}{c:Array Value}{s s1:Except Er St}
end
section
variable{w wr w1:World}{b G B g:Nat}{f:ByteArray}{pv:Value}{c:Array Value}{ps:List Ty}{is:List In}{hs:List Hd}{lp lc lh:Value}{s s1:Except Er St}
end
theorem b2k(f:ByteArray):cls f=fun st=>M3 (name f st) fun n st1=>M3 (name f st1) fun sp st2=>M3 (E5 f 1 (Z7 f) st2) fun fs st3=>M3 (E5 f 1 (meth f) st3) fun ms st4=> .ok (⟨n,sp,fs,ms⟩,st4):=by
 funext st
 unfold cls M3;cases name f st with
 |error er=>rfl
 |ok q=>
  obtain⟨n,st1⟩:=q;dsimp only;cases name f st1 with
  |error er=>rfl
  |ok q=>
   obtain⟨sp,st2⟩:=q;dsimp only;cases E5 f 1 (Z7 f) st2 with
   |error er=>rfl
   |ok q=>
    obtain⟨fs,st3⟩:=q;dsimp only;cases E5 f 1 (meth f) st3<;>rfl
theorem b0V(f:ByteArray):Z7 f=fun st=>M3 (name f st) fun n st1=>M3 (kind f st1) fun t st2=> .ok (⟨n,t⟩,st2):=by
 funext st
 unfold Z7 M3;cases name f st with
 |error er=>rfl
 |ok q=>
  obtain⟨n,st1⟩:=q;dsimp only;cases kind f st1<;>rfl
namespace Cf
def b3x(st:St):Prop:=∀n∈st.pool,E3 n=true
variable {α:Type}
def Z9(p:St→R α)(Q:α→Prop):Prop:=∀st x st1,b3x st→p st= .ok (x,st1)→b3x st1∧Q x
theorem Z0{β:Type}{p:St→R α}{m:α→St→R β}{P:α→Prop}{Q:β→Prop}(hp:Z9 p P)(hm:∀a,P a→Z9 (m a) Q):Z9 (fun st=>M3 (p st) m) Q:=fun st x st1 h0 h=>by
 unfold M3 at h;cases hr:p st with
 |error er=>simp only[hr]at h;cases h
 |ok q=>
  obtain⟨a,s1⟩:=q;simp only[hr]at h;obtain⟨h1,h2⟩:=hp st a s1 h0 hr;exact hm a h2 s1 x st1 h1 h
theorem a4D{Q:α→Prop}{a:α}(h:Q a):Z9 (fun st=> .ok (a,st)) Q:=fun st x st1 h0 e=>by cases e;exact⟨h0,h⟩
theorem a2w(f:ByteArray)(k:Nat):Z9 (C1 f k) (fun n=>n<256^k):=fun st x st1 h0 h=>by
 obtain⟨rfl,h2⟩:=X4 h;exact⟨h0,h2⟩
theorem b1Y{p:St→R α}{P:α→Prop}(hp:Z9 p P):∀n,Z9 (C8 p n) (fun l=>l.length=n∧∀x∈l,P x)
 |0=>fun st x st1 h0 h=>by
  simp only[C8,Except.ok.injEq,Prod.mk.injEq]at h;obtain⟨rfl,rfl⟩:=h;exact⟨h0,rfl,fun x hx=>by cases hx⟩
 |n+1=>fun st x st1 h0 h=>by
  simp only[C8]at h;cases hq:p st with
  |error er=>rw[hq]at h;cases h
  |ok q=>
   obtain⟨a,s1⟩:=q;rw[hq]at h;dsimp only at h;cases hr:C8 p n s1 with
   |error er=>rw[hr]at h;cases h
   |ok q=>
    obtain⟨l2,s2⟩:=q;rw[hr]at h;simp only[Except.ok.injEq,Prod.mk.injEq]at h;obtain⟨rfl,rfl⟩:=h;obtain⟨h1,h2⟩:=hp st a s1 h0 hq;obtain⟨h3,h4,h5⟩:=b1Y hp n s1 l2 s2 h1 hr;exact⟨h3,by simp[h4],fun x hx=>(List.mem_cons.1 hx).elim (fun e=>e▸h2) (h5 x)⟩
theorem a4F{p:St→R α}{P:α→Prop}(hp:Z9 p P)(f:ByteArray)(k:Nat):Z9 (E5 f k p) (fun l=>l.length<256^k∧∀x∈l,P x):=fun st x st1 h0 h=>by
 unfold E5 at h;cases hn:C1 f k st with
 |error er=>rw[hn]at h;cases h
 |ok q=>
  obtain⟨n,s1⟩:=q;rw[hn]at h;dsimp only at h;obtain⟨h1,h2⟩:=a2w f k st n s1 h0 hn;obtain⟨h3,h4,h5⟩:=b1Y hp n s1 x st1 h1 h;exact⟨h3,by omega,h5⟩
theorem a4E(f:ByteArray):Z9 (name f) (fun n=>E3 n=true):=fun st x st1 h0 h=>by
 unfold name at h;cases hn:C1 f 1 st with
 |error er=>rw[hn]at h;cases h
 |ok q=>
  obtain⟨n,s1⟩:=q;rw[hn]at h;dsimp only at h;split at h
  ·rename_i hc;have hk:=(X4 hn).1;cases h;subst hk;refine⟨h0,h0 _ ?_⟩;rw[List.getD_eq_getElem?_getD,List.getElem?_eq_getElem hc.2];exact List.getElem_mem hc.2
  ·cases h
theorem a8f(f:ByteArray)(b:Bool):Z9 (P5 f b) (fun n=>if b then E3 n=true else n=ByteArray.empty):=by
 cases b with
 |true=>exact a4E f
 |false=>exact a4D (a:=ByteArray.empty) rfl
variable {n:ByteArray}
theorem c1f(h:E3 n=true):n≠C5:=fun e=>by subst e;revert h;decide
theorem a8G(f:ByteArray):Z9 (kind f) a0l:=by
 rw[b1r];refine Z0 (a2w f 1) fun k _=> ?_
 intro st x st1 h0 h;by_cases h4:4<k
 ·simp only[h4,if_true]at h;cases h
 ·simp only[h4,if_false]at h;refine Z0 (a8f f (a0N k)) (fun n hn=> ?_) st x st1 h0 h;refine a4D ⟨by show k≤4;omega,?_,?_⟩
  ·show n=C5↔¬(k=2∨k=4);unfold a0N at hn;by_cases hk:k=2∨k=4
   ·have:(k==2||k==4)=true:=by simpa using hk
    rw[this]at hn;exact⟨fun e=>absurd e (c1f hn),fun e=>absurd hk e⟩
   ·have:(k==2||k==4)=false:=by simpa using hk
    rw[this]at hn;exact⟨fun _=>hk,fun _=>hn⟩
  ·show n≠C5→E3 n=true;intro he;cases hb:a0N k with
   |true=>rw[hb]at hn;exact hn
   |false=>rw[hb]at hn;exact absurd hn he
structure a4n(i:In):Prop where
 op:i.op<32
 lo: -2147483648≤i.a
 hi:i.a≤2147483647
 nn:i.op≠0→0≤i.a∧i.a<65536
 cls:i.cls=C5∨E3 i.cls=true
 mem:i.mem=C5∨E3 i.mem=true
theorem a6T{b:Bool}(h:if b then E3 n=true else n=ByteArray.empty):n=C5∨E3 n=true:=by
 cases b with
 |true=>exact .inr h
 |false=>exact .inl h
theorem b9Y(f:ByteArray):Z9 (S4 f) a4n:=fun st x st1 h0 h=>by
 unfold S4 at h;cases h1:C1 f 1 st with
 |error er=>rw[h1]at h;cases h
 |ok q=>
  obtain⟨op,s1⟩:=q;rw[h1]at h;dsimp only at h;by_cases h32:32≤op
  ·rw[if_pos h32]at h;cases h
  ·rw[if_neg h32]at h;obtain⟨g1,-⟩:=a2w f 1 st op s1 h0 h1;cases h2:C1 f (F3 op) s1 with
   |error er=>rw[h2]at h;cases h
   |ok q=>
    obtain⟨n,s2⟩:=q;rw[h2]at h;dsimp only at h;obtain⟨g2,hn⟩:=a2w f (F3 op) s1 n s2 g1 h2;cases h3:P5 f (Y5 op) s2 with
    |error er=>rw[h3]at h;cases h
    |ok q=>
     obtain⟨c,s3⟩:=q;rw[h3]at h;dsimp only at h;obtain⟨g3,hc⟩:=a8f f _ s2 c s3 g2 h3;cases h4:P5 f (Z4 op) s3 with
     |error er=>rw[h4]at h;cases h
     |ok q=>
      obtain⟨m,s4⟩:=q;rw[h4]at h;obtain⟨g4,hm⟩:=a8f f _ s3 m s4 g3 h4;cases h
      have hw:F3 op=4∧op=0∨(F3 op≤2∧op≠0):=by
       unfold F3;by_cases e0:op=0
       ·simp[e0]
       ·right;refine⟨?_,e0⟩;rw[if_neg e0];split<;>(try split)<;>omega
      rcases hw with⟨hw,he⟩|⟨hw,he⟩
      ·rw[hw]at hn;have hn:n<4294967296:=hn;refine⟨g4,by show op<32;omega,?_,?_,fun h=>absurd he h,a6T hc,a6T hm⟩
       ·show-2147483648≤P4 (F3 op) n;unfold P4;split<;>omega
       ·show P4 (F3 op) n≤2147483647;rw[hw];unfold P4;split<;>omega
      ·have h6:256^F3 op≤256^2:=Nat.pow_le_pow_right (by omega) hw;have hn:n<65536:=Nat.lt_of_lt_of_le hn h6;have hs:P4 (F3 op) n=n:=by unfold P4;rw[if_neg (by omega)]
       refine⟨g4,by show op<32;omega,?_,?_,fun _=> ?_,a6T hc,a6T hm⟩
       ·show-2147483648≤P4 (F3 op) n;rw[hs];omega
       ·show P4 (F3 op) n≤2147483647;rw[hs];omega
       ·show 0≤P4 (F3 op) n∧P4 (F3 op) n<65536;rw[hs];omega
structure b3M(h:Hd):Prop where
 from_:h.from_<65536
 to:h.to<65536
 at_:h.at_<65536
 cls:E3 h.cls=true
theorem b4X(f:ByteArray):Z9 (X2 f) b3M:=by
 rw[b0p];exact Z0 (a2w f 2) fun a ha=>Z0 (a2w f 2) fun b hb=>Z0 (a2w f 2) fun c hc=>Z0 (a4E f) fun n hn=>a4D ⟨ha,hb,hc,hn⟩
theorem b6Y(f:ByteArray):Z9 (Z7 f) (fun x=>E3 x.name=true∧a0l x.ty):=by
 rw[b0V];exact Z0 (a4E f) fun n hn=>Z0 (a8G f) fun t ht=>a4D ⟨hn,ht⟩
structure a5l(m:Me):Prop where
 name:E3 m.name=true
 params:∀p∈m.params,a0l p
 ret:a0l m.ret
 stack:m.stack<256
 locals:m.locals<256
 code:∀i∈m.code,a4n i
 handlers:∀h∈m.handlers,b3M h
 np:m.params.length<256
 nc:m.code.length<65536
 nh:m.handlers.length<256
theorem b8q(f:ByteArray):Z9 (meth f) a5l:=by
 rw[b1l]
 exact Z0 (a4E f) fun n hn=>Z0 (a4F (a8G f) f 1) fun ps hp=>Z0 (a8G f) fun t ht=>Z0 (a2w f 1) fun s hs=>Z0 (a2w f 1) fun l hl=>
  Z0 (a4F (b9Y f) f 2) fun is hi=>Z0 (a4F (b4X f) f 1) fun hs2 hh=>a4D ⟨hn,hp.2,ht,hs,hl,hi.2,hh.2,hp.1,hi.1,hh.1⟩
structure S3(c:Cl):Prop where
 name:E3 c.name=true
 super:E3 c.super=true
 fields:∀x∈c.fields,E3 x.name=true∧a0l x.ty
 methods:∀m∈c.methods,a5l m
 nf:c.fields.length<256
 nm:c.methods.length<256
theorem b9Z(f:ByteArray):Z9 (cls f) S3:=by
 rw[b2k];exact Z0 (a4E f) fun n hn=>Z0 (a4E f) fun s hs=>Z0 (a4F (b6Y f) f 1) fun fs hf=>Z0 (a4F (b8q f) f 1) fun ms hm=>a4D ⟨hn,hs,hf.2,hm.2,hf.1,hm.1⟩
theorem b8p(f:ByteArray):Z9 (O5 f) (fun _=>True):=fun st x st1 h0 h=>by
 unfold O5 at h;cases hn:Z2 f st with
 |error er=>rw[hn]at h;cases h
 |ok q=>
  obtain⟨s,s1⟩:=q;rw[hn]at h;cases h;unfold Z2 at hn;cases h1:C1 f 1 st with
  |error er=>rw[h1]at hn;cases hn
  |ok q=>
   obtain⟨k,s2⟩:=q;rw[h1]at hn;dsimp only at hn;obtain⟨rfl,-⟩:=X4 h1;split at hn
   ·split at hn
    ·rename_i hc;cases hn;refine⟨fun n hn=> ?_,trivial⟩;rcases List.mem_append.1 hn with h2|h2
     ·exact h0 n h2
     ·rw[List.mem_singleton.1 h2];simp only[Bool.and_eq_true]at hc;exact hc.1
    ·cases hn
   ·cases hn
theorem b0T(f:ByteArray)(c i:Nat):Z9 (N2 f c i) (fun _=>True):=fun st x st1 h0 h=>by
 unfold N2 at h;cases h1:C1 f 1 st with
 |error er=>rw[h1]at h;cases h
 |ok q=>
  obtain⟨k,s2⟩:=q;rw[h1]at h;dsimp only at h;obtain⟨rfl,-⟩:=X4 h1;split at h
  ·cases h;exact⟨h0,trivial⟩
  ·cases h
variable {c:Cl}
theorem b3r{f:ByteArray}(h:G7 f= .ok c):S3 c:=by
 unfold G7 at h;split at h
 ·cases h
 ·cases h1:N2 f 87 0 ⟨0,0,[]⟩with
  |error er=>rw[h1]at h;cases h
  |ok q=>
   obtain⟨u1,s1⟩:=q;rw[h1]at h;dsimp only at h;have g1:=(b0T f 87 0 _ u1 s1 (fun n hn=>by cases hn) h1).1;cases h2:N2 f 49 1 s1 with
   |error er=>rw[h2]at h;cases h
   |ok q=>
    obtain⟨u2,s2⟩:=q;rw[h2]at h;dsimp only at h;have g2:=(b0T f 49 1 _ u2 s2 g1 h2).1;cases h3:E5 f 1 (O5 f) s2 with
    |error er=>rw[h3]at h;cases h
    |ok q=>
     obtain⟨u3,s3⟩:=q;rw[h3]at h;dsimp only at h;have g3:=(a4F (b8p f) f 1 _ u3 s3 g2 h3).1;cases h4:cls f s3 with
     |error er=>rw[h4]at h;cases h
     |ok q=>
      obtain⟨c4,s4⟩:=q;rw[h4]at h;dsimp only at h;have g4:=(b9Z f _ c4 s4 g3 h4).2;split at h
      ·cases h
      ·split at h
       ·cases h
       ·cases h;exact g4
theorem a1j(h:E3 n=true):n.size≤12:=by
 unfold E3 at h;simp only[Bool.and_eq_true,decide_eq_true_eq]at h;exact h.1.2
theorem a9l{t:Ty}(h:a0l t):t.name.size≤12:=by
 by_cases e:t.name=C5
 ·rw[e];decide
 ·exact a1j (h.2.2 e)
theorem S3.okCl(h:S3 c):a1N c:=⟨h.name,h.super,h.fields,fun m hm=>⟨(h.methods m hm).name,(h.methods m hm).ret,(h.methods m hm).params,fun d hd=>((h.methods m hm).handlers d hd).cls⟩⟩
end Cf
namespace Cf
def X7(t:Ty):Ty:=if t.kind=4 then D7 t.name else if t.kind=5 then a1q else B1
theorem c3e{n:Nat}(h:n<32):n=0∨n=1∨n=2∨n=3∨n=4∨n=5∨n=6∨n=7∨n=8∨n=9∨n=10∨n=11∨n=12∨n=13∨n=14∨n=15∨n=16∨n=17∨n=18∨n=19∨n=20∨n=21∨n=22∨n=23∨n=24∨n=25∨n=26∨n=27∨n=28∨n=29∨n=30∨n=31:=by omega
end Cf
namespace Cf
def a0X(l:List Cl)(a b:List Ty):Prop:=a.length=b.length∧∀j,j<a.length→D4 l (a.getD j B1) (b.getD j B1)=true
def N9(l:List Cl)(a:List Ty):Prop:=∀t∈a,D6 l t
variable {l:List Cl}
theorem V7{a:List Ty}(h:N9 l a)(j:Nat):D6 l (a.getD j B1):=by
 by_cases hj:j<a.length
 ·have:a.getD j B1=a[j]:=by simp[hj]
  rw[this];exact h _ (List.getElem_mem hj)
 ·have:a.getD j B1=B1:=by simp[Nat.le_of_not_lt hj]
  rw[this];exact a1y
def a1n(c:ByteArray)(m:Me):List Ty:=D7 c::(m.params++List.replicate (m.locals-1-m.params.length) B1)
def a0c(l:List Cl)(i:In)(s:List Ty)(low:Nat):List Ty:=
 if i.op=2 then [s.getD i.a.toNat B1]
 else if i.op=5 then [s.getD low B1,s.getD low B1]
 else if i.op=6 then [s.getD (low+1) B1,s.getD low B1]
 else if i.op=26 then [X7 (s.getD low B1)]
 else C6 l i
def hdF(m:Me)(d:Hd)(s:List Ty):List Ty:=s.take m.locals++ [D7 d.cls]
def goF(l:List Cl)(m:Me)(i:In)(s:List Ty):List Ty:=
 (if i.op=3 then(s.take m.locals).set i.a.toNat (s.getD (s.length-G8 l m i) B1)else s.take m.locals)++((s.take (s.length-G8 l m i)).drop m.locals++a0c l i s (s.length-G8 l m i))
def a2N(l:List Cl)(m:Me)(at_:Nat):List (Nat×(List Ty→List Ty)):=
 ((m.handlers.filter fun d=>a0C d at_).map fun d=>(d.at_,hdF m d))++(G4 (A6 m at_) at_).map fun x=>(x,goF l m (A6 m at_))
structure Sol(l:List Cl)(c:ByteArray)(m:Me)(T:Nat→List Ty):Prop where
 shape:∀at_ h,F9 l m at_ h→(T at_).length=m.locals+h
 ok:∀at_ h,F9 l m at_ h→N9 l (T at_)
 entry:a0X l (a1n c m) (T 0)
 flow:∀at_ h,F9 l m at_ h→∀q∈a2N l m at_,a0X l (q.2 (T at_)) (T q.1)
structure a4S(l:List Cl)(c:ByteArray)(m:Me)(T:Nat→List Ty):Prop where
 sol:Sol l c m T
 least:∀S,Sol l c m S→∀at_ h,F9 l m at_ h→a0X l (T at_) (S at_)
structure a0w(l:List Cl)(m:Me):Prop where
 room:∀at_ h,F9 l m at_ h→j6 l m at_ h=true
 one:∀at_ h k,F9 l m at_ h→F9 l m at_ k→h=k
 hd:∀at_ h,F9 l m at_ h→∀d∈m.handlers,a0C d at_=true→m.stack≠0
variable {m:Me}
theorem b0o(hc:R0 l m)(hi:∀i∈m.code,P0 i)(h:a7l l m none):a0w l m:=by
 have hb:=fun at_ ht (hr:F9 l m at_ ht)=>h at_ (a1V hc hi hr).1
 refine⟨fun a ht hr=> ?_,fun a ht k h1 h2=> ?_,fun a ht hr d hd hcv h0=> ?_⟩
 ·cases he:j6 l m a ht with
  |true=>rfl
  |false=>exact absurd (.inl ⟨ht,hr,he⟩) (hb a ht hr)
 ·by_cases e:ht=k
  ·exact e
  ·exact absurd (.inr (.inr ⟨ht,k,e,h1,h2⟩)) (hb a ht h1)
 ·exact absurd (.inr (.inl ⟨⟨d,hd,hcv⟩,⟨ht,hr⟩,h0⟩)) (hb a ht hr)
theorem a8A(h:a0w l m){at_ ht:Nat}(hr:F9 l m at_ ht):
 (∀d∈m.handlers,a0C d at_=true→F9 l m d.at_ 1)∧∀x∈G4 (A6 m at_) at_,F9 l m x (a0O l m at_ ht):=by
 refine⟨fun d hd hcv=> ?_,fun x hx=> ?_⟩
 ·refine(a3d l m).2 at_ ht hr (d.at_,1) ?_;unfold a1E;rw[if_neg (h.hd at_ ht hr d hd hcv)];exact List.mem_append_left _ (List.mem_map.2 ⟨d,List.mem_filter.2 ⟨hd,hcv⟩,rfl⟩)
 ·refine(a3d l m).2 at_ ht hr (x,a0O l m at_ ht) ?_;unfold a1E;rw[if_pos (h.room at_ ht hr)];exact List.mem_append_right _ (List.mem_map.2 ⟨x,hx,rfl⟩)
structure o4(l:List Cl):Prop where
 fields:∀i,i<l.length→∀f∈(cl l i).fields,D6 l f.ty∧f.ty.kind≠0
 meths:∀i,i<l.length→∀m∈(cl l i).methods,D6 l m.ret∧m.ret.kind≤4∧(∀p∈m.params,D6 l p∧p.kind≠0∧p.kind≤4)∧∀d∈m.handlers,G3 l d.cls=true
variable {t:Ty}
theorem a8l(h:a0l t)(ht:a0z l t=true):D6 l t:=by
 obtain⟨h1,h2,h3⟩:=h;refine⟨by omega,?_⟩;by_cases hk:t.kind=2∨t.kind=4
 ·rw[if_pos hk];have hn:t.name≠C5:=fun e=>(h2.1 e) hk
  unfold a0z at ht;simp only[hn,decide_false,Bool.false_or]at ht;exact Option.isSome_iff_exists.1 ht
 ·rw[if_neg hk];exact h2.2 hk
theorem b2X(fs:List Cl)(hok:∀c∈fs,a1N c)(h:a5k fs= .ok ()):o4 (A7++fs):=by
 have hty:=a7j h (fun i=>tyR (A7++fs) (cl fs i)) (by simp);have hb:A7.length=9:=rfl
 have hbase:∀i,i<9→(cl (A7++fs) i).fields=[]∧(cl (A7++fs) i).methods=[]:=by
  intro i h9;rw[U8 (by omega)];rcases a3C h9 with rfl|rfl|rfl|rfl|rfl|rfl|rfl|rfl|rfl<;>exact⟨rfl,rfl⟩
 have key:∀i,i<(A7++fs).length→9≤i→∃q,q<fs.length∧i=9+q∧a1N (cl fs q)∧tyR (A7++fs) (cl fs q)=false:=by
  intro i hi h9;have hq:i-9<fs.length:=by simp at hi;omega
  exact⟨i-9,hq,by omega,by rw[R8 hq];exact hok _ (List.getElem_mem hq),hty _ hq⟩
 constructor
 ·intro i hi f hf;by_cases h9:i<9
  ·rw[(hbase i h9).1]at hf;cases hf
  ·obtain⟨q,hq,rfl,ho,ht⟩:=key i hi (by omega);rw[T2]at hf;unfold tyR at ht;simp only[Bool.or_eq_false_iff,List.any_eq_false,Bool.not_eq_true,Bool.not_eq_false',decide_eq_false_iff_not]at ht;have:=ht.1 f hf;exact⟨a8l (ho.fields f hf).2 this.1,this.2⟩
 ·intro i hi m hm;by_cases h9:i<9
  ·rw[(hbase i h9).2]at hm;cases hm
  ·obtain⟨q,hq,rfl,ho,ht⟩:=key i hi (by omega);rw[T2]at hm;unfold tyR at ht;simp only[Bool.or_eq_false_iff,List.any_eq_false,Bool.not_eq_true]at ht;have:=ht.2 m hm;unfold a7B at this;simp only[Bool.not_eq_false',Bool.and_eq_true,List.all_eq_true,decide_eq_true_eq]at this;have hom:=ho.methods m hm;exact⟨a8l hom.2.1 this.1.1,hom.2.1.1,fun p hp=>⟨a8l (hom.2.2.1 p hp) (this.1.2 p hp).1,(this.1.2 p hp).2,(hom.2.2.1 p hp).1⟩,this.2⟩
variable {i:In}
theorem B9.field_ok(h:B9 l)(hw:o4 l)(hn:(T1 l i.cls i.mem).isSome=true):D6 l (a3v l i)∧(a3v l i).kind≠0:=by
 obtain⟨p,hp⟩:=Option.isSome_iff_exists.1 hn;unfold a3v;rw[hp];obtain⟨h1,h2,_⟩:=h.field_lt hp;have:(cl l p.1).fields.getD p.2 a0G=(cl l p.1).fields[p.2]:=by simp[h2]
 simp only[this];exact hw.fields p.1 h1 _ (List.getElem_mem h2)
theorem B9.called_in(h:B9 l)(hn:(L3 l i.cls i.mem).isSome=true):∃k,k<l.length∧a0V l i∈(cl l k).methods:=by
 obtain⟨p,hp⟩:=Option.isSome_iff_exists.1 hn;obtain⟨h1,h2,_⟩:=h.meth_lt hp;refine⟨p.1,h1,?_⟩;unfold a0V;rw[hp];unfold E1;have:(cl l p.1).methods.getD p.2 I9=(cl l p.1).methods[p.2]:=by simp[h2]
 simp only[this];exact List.getElem_mem h2
theorem B9.puts_ok(h:B9 l)(hw:o4 l)(hn:R4 l m i=true):N9 l (C6 l i)∧((∃t∈C6 l i,t.kind=0)→i.op=2∨i.op=5∨i.op=6∨i.op=26):=by
 have hc:i.op=16∨i.op=22∨i.op=28→∃k,C3 l i.cls=some k:=fun he=>by
  unfold R4 at hn;rw[if_neg (by omega),if_neg (by omega),if_pos (by omega)]at hn;exact Option.isSome_iff_exists.1 hn
 have hf:i.op=17→D6 l (a3v l i)∧(a3v l i).kind≠0:=fun he=>by
  unfold R4 at hn;rw[if_neg (by omega),if_neg (by omega),if_neg (by omega),if_pos (by omega)]at hn;exact h.field_ok hw hn
 have hm:i.op=19→D6 l (a0V l i).ret:=fun he=>by
  unfold R4 at hn;rw[if_neg (by omega),if_neg (by omega),if_neg (by omega),if_neg (by omega),if_pos he]at hn;obtain⟨k,hk,hk2⟩:=h.called_in hn;exact(hw.meths k hk _ hk2).1
 unfold C6;split
 ·exact⟨by intro t ht;rw[List.mem_singleton.1 ht];exact a3h (by omega) (by omega) (by omega),by rintro⟨t,ht,e⟩;rw[List.mem_singleton.1 ht]at e;simp[O1]at e⟩
 split
 ·exact⟨by intro t ht;rw[List.mem_singleton.1 ht];exact a3h (by omega) (by omega) (by omega),by rintro⟨t,ht,e⟩;rw[List.mem_singleton.1 ht]at e;simp[a1q]at e⟩
 split
 ·exact⟨by intro t ht;rw[List.mem_singleton.1 ht];exact a1y,fun _=>by omega⟩
 split
 ·exact⟨by intro t ht;simp only[List.mem_cons,List.not_mem_nil,or_false,or_self]at ht;rw[ht];exact a1y,fun _=>by omega⟩
 split
 ·rename_i e;obtain⟨k,hk⟩:=hc (by omega);exact⟨by intro t ht;rw[List.mem_singleton.1 ht];exact⟨by simp[D7],by simp[D7,hk]⟩,by rintro⟨t,ht,e⟩;rw[List.mem_singleton.1 ht]at e;simp[D7]at e⟩
 split
 ·rename_i e;obtain⟨h1,h2⟩:=hf e;exact c6e
 split
 ·rename_i e;have h1:=hm e;unfold a1i;split
  ·exact⟨(by intro t ht;cases ht),(by rintro⟨t,ht,_⟩;cases ht)⟩
  ·rename_i h2;exact c6e
 split
 ·exact⟨by intro t ht;rw[List.mem_singleton.1 ht];exact a3h (by omega) (by omega) (by omega),by rintro⟨t,ht,e⟩;rw[List.mem_singleton.1 ht]at e;simp at e⟩
 split
 ·rename_i e;obtain⟨k,hk⟩:=hc (by omega);exact⟨by intro t ht;rw[List.mem_singleton.1 ht];exact⟨by simp,by simp[hk]⟩,by rintro⟨t,ht,e⟩;rw[List.mem_singleton.1 ht]at e;simp at e⟩
 ·exact⟨(by intro t ht;cases ht),(by rintro⟨t,ht,_⟩;cases ht)⟩
theorem b2h(h:D6 l t):D6 l (X7 t):=by
 unfold X7;split
 ·rename_i e;have:=h.2;rw[if_pos (.inr e)]at this;exact⟨by simp[D7],by simpa[D7]using this⟩
 ·split
  ·exact a3h (by omega) (by omega) (by omega)
  ·exact a1y
theorem b7f{a b:Ty}(ha:D6 l a)(hb:D6 l b)(h:D4 l a b=true):D4 l (X7 a) (X7 b)=true:=by
 rw[a0h ha hb]at h;rcases h with e|e|⟨e1,e2⟩|⟨e1,e2,_⟩|⟨e1,e⟩
 ·rw[e];exact a3g _ _
 ·rw[e];exact a2u _ _
 ·rcases e2 with e2|e2|e2
  ·exact c5r
  ·exact c5r
  ·have h1:X7 a=a1q:=by unfold X7;rw[if_neg (by omega),if_pos e1]
   have h2:X7 b=D7 b.name:=by unfold X7;rw[if_pos e2]
   rw[h1,h2];simp[D4,a1q,D7]
 ·exact c5r
 ·have:X7 b=B1:=by rw[e];simp[X7,D7]
  rw[this];exact a2u _ _
end Cf
namespace Cf
variable {l:List Cl}
variable {a b s:List Ty}
theorem b6R(h:a0X l a b)(n:Nat):a0X l (a.take n) (b.take n):=by
 refine⟨by simp[h.1],fun j hj=> ?_⟩;simp only[List.length_take]at hj;have e1:(a.take n).getD j B1=a.getD j B1:=by rw[List.getD_eq_getElem?_getD,List.getD_eq_getElem?_getD,List.getElem?_take,if_pos (by omega)]
 have e2:(b.take n).getD j B1=b.getD j B1:=by rw[List.getD_eq_getElem?_getD,List.getD_eq_getElem?_getD,List.getElem?_take,if_pos (by omega)]
 rw[e1,e2];exact h.2 j (by omega)
theorem a8H(a:List Ty)(n j:Nat):(a.drop n).getD j B1=a.getD (n+j) B1:=by
 rw[List.getD_eq_getElem?_getD,List.getD_eq_getElem?_getD,List.getElem?_drop]
theorem b0Q(h:a0X l a b)(n:Nat):a0X l (a.drop n) (b.drop n):=by
 refine⟨by simp[h.1],fun j hj=> ?_⟩;simp only[List.length_drop]at hj;rw[a8H,a8H];exact h.2 _ (by omega)
theorem a6X(h:a0X l a b)(j:Nat):D4 l (a.getD j B1) (b.getD j B1)=true:=by
 by_cases hj:j<a.length
 ·exact h.2 j hj
 ·have:b.getD j B1=B1:=by simp[Nat.le_of_not_lt (by rw[←h.1];exact hj:¬j<b.length)]
  rw[this];exact a2u _ _
theorem c0b(a:List Ty)(n j:Nat)(x:Ty):(a.set n x).getD j B1=if n=j∧j<a.length then x else a.getD j B1:=by
 rw[List.getD_eq_getElem?_getD,List.getD_eq_getElem?_getD,List.getElem?_set];by_cases h:n=j
 ·subst h;by_cases h2:n<a.length
  ·simp[h2]
  ·simp[h2]
 ·simp[h]
theorem a7X(h1:N9 l a)(h2:N9 l b):N9 l (a++b):=fun t ht=>by
 rcases List.mem_append.1 ht with ht|ht
 ·exact h1 t ht
 ·exact h2 t ht
theorem b7W(h:N9 l a)(n:Nat){x:Ty}(hx:D6 l x):N9 l (a.set n x):=fun t ht=>by
 rcases List.mem_or_eq_of_mem_set ht with ht|ht
 ·exact h t ht
 ·rw[ht];exact hx
theorem b9n(l:List Cl)(i:In)(s:List Ty)(low:Nat):(a0c l i s low).length=M6 l i:=by
 unfold a0c M6;split
 ·rename_i e;simp[C6,e]
 split
 ·rename_i e;simp[C6,e]
 split
 ·rename_i e;simp[C6,e]
 split
 ·rename_i e;simp[C6,e]
 ·rfl
variable {m:Me}
theorem B9.putR_ok(h:B9 l)(hw:o4 l){i:In}(hn:R4 l m i=true){low:Nat}(hs:N9 l s):N9 l (a0c l i s low):=by
 unfold a0c;split
 ·intro t ht;rw[List.mem_singleton.1 ht];exact V7 hs _
 split
 ·intro t ht;simp only[List.mem_cons,List.not_mem_nil,or_false,or_self]at ht;rw[ht];exact V7 hs _
 split
 ·intro t ht;simp only[List.mem_cons,List.not_mem_nil,or_false]at ht;rcases ht with ht|ht<;>rw[ht]<;>exact V7 hs _
 split
 ·intro t ht;rw[List.mem_singleton.1 ht];exact b2h (V7 hs _)
 ·exact(h.puts_ok hw hn).1
variable {at_ h:Nat}
theorem a5T{d:Hd}(hl:s.length=m.locals+h):(hdF m d s).length=m.locals+1:=by
 unfold hdF;simp;omega
theorem a5V(hl:s.length=m.locals+h)(hr:j6 l m at_ h=true):(goF l m (A6 m at_) s).length=m.locals+a0O l m at_ h:=by
 unfold j6 at hr;simp only[Bool.and_eq_true,decide_eq_true_eq]at hr;unfold goF a0O
 have h1:(if(A6 m at_).op=3 then(s.take m.locals).set (A6 m at_).a.toNat (s.getD (s.length-G8 l m (A6 m at_)) B1)else s.take m.locals).length=m.locals:=by
  split<;>simp<;>omega
 simp only[List.length_append,h1,b9n,List.length_drop,List.length_take];omega
variable {q:Nat×(List Ty→List Ty)}
theorem b7V(hh:a0w l m)(hr:F9 l m at_ h)(hl:s.length=m.locals+h)(hq:q∈a2N l m at_):
 ∃k,F9 l m q.1 k∧(q.2 s).length=m.locals+k:=by
 have ho:=a8A hh hr;unfold a2N at hq;rcases List.mem_append.1 hq with hq|hq
 ·obtain⟨d,hd,rfl⟩:=List.mem_map.1 hq;obtain⟨h1,h2⟩:=List.mem_filter.1 hd;exact⟨1,ho.1 d h1 h2,a5T hl⟩
 ·obtain⟨x,hx,rfl⟩:=List.mem_map.1 hq;exact⟨_,ho.2 x hx,a5V hl (hh.room _ _ hr)⟩
theorem B9.out_ok(h:B9 l)(hw:o4 l)(hc:R0 l m)(ha:at_<m.code.length)(hs:N9 l s)(hq:q∈a2N l m at_):N9 l (q.2 s):=by
 have hn:=hc.need at_ ha;unfold a2N at hq;rcases List.mem_append.1 hq with hq|hq
 ·obtain⟨d,hd,rfl⟩:=List.mem_map.1 hq;have h1:=(hc.hds d (List.mem_filter.1 hd).1).2.2.2
  have h2:D6 l (D7 d.cls):=by
   have:∃i,C3 l d.cls=some i:=by
    cases hf:C3 l d.cls with
    |none=>rw[h.below_none hf]at h1;cases h1
    |some i=>exact⟨i,rfl⟩
   exact⟨by simp[D7],by simpa[D7]using this⟩
  exact a7X (fun t ht=>hs t (List.mem_of_mem_take ht)) (fun t ht=>by rw[List.mem_singleton.1 ht];exact h2)
 ·obtain⟨x,hx,rfl⟩:=List.mem_map.1 hq;unfold goF;refine a7X ?_ (a7X (fun t ht=>hs t (List.mem_of_mem_take (List.mem_of_mem_drop ht))) (h.putR_ok hw hn hs));split
  ·exact b7W (fun t ht=>hs t (List.mem_of_mem_take ht)) _ (V7 hs _)
  ·exact fun t ht=>hs t (List.mem_of_mem_take ht)
variable {c:ByteArray}
theorem B9.entry_ok(h:B9 l)(hc:G3 l c=true)(hp:∀p∈m.params,D6 l p):N9 l (a1n c m):=by
 intro t ht;unfold a1n at ht;rcases List.mem_cons.1 ht with rfl|ht
 ·exact⟨by simp[D7],by simpa[D7]using Option.isSome_iff_exists.1 hc⟩
 ·rcases List.mem_append.1 ht with ht|ht
  ·exact hp t ht
  ·rw[(List.mem_replicate.1 ht).2];exact a1y
theorem a8K(hc:R0 l m):(a1n c m).length=m.locals:=by
 have:=hc.locals;unfold a1n;simp;omega
end Cf
namespace Cf
structure LOk(L:List Cl):Prop where
 wld:B9 L
 tyw:o4 L
 ovr:∀i,i<L.length→ovR L (cl L i)=false
 me:∀i,i<L.length→∀m∈(cl L i).methods,a5l m
section
variable{L:List Cl}{s s':Ms}{u:Wd}{t:Tg}{n:Nat}{c:ByteArray}{v:Int}
theorem X6:D6 L O1:=a3h (by omega) (by omega) (by omega)
theorem c2i:D6 L a1q:=a3h (by omega) (by omega) (by omega)
end
end Cf
namespace Cf
section
variable{L:List Cl}{s s':Ms}{u:Wd}{t:Tg}{n:Nat}{c:ByteArray}{v:Int}{f:Fm}{fs:List Fm}{i:In}
theorem a8b:∀{a b:List Ty},Z1 L a b=true→∀j,j<a.length→j<b.length→D4 L (a.getD j B1) (b.getD j B1)=true
 | [],_,_,j,hj,_=>absurd hj (Nat.not_lt_zero _)
 |_::_,[],_,j,_,hj=>absurd hj (Nat.not_lt_zero _)
 |a::xs,b::bs,h,j,h1,h2=>by
  unfold Z1 at h;have h:=Bool.and_eq_true_iff.1 h;cases j with
  |zero=>exact h.1
  |succ j=>exact a8b h.2 j (by simpa using h1) (by simpa using h2)
variable{a:Int}{cs ms:ByteArray}
theorem b5Y(hL:B9 L){p:Nat×Nat}(hp:T1 L c ms=some p):∃j,C3 L c=some j:=by
 cases hf:C3 L c with
 |none=>rw[hL.fieldAt_none hf]at hp;cases hp
 |some j=>exact⟨j,rfl⟩
theorem a7m{j:Nat}(hj:C3 L c=some j):D6 L (D7 c):=⟨by simp[D7],by simp only[D7,true_or,if_true];exact⟨j,hj⟩⟩
theorem b3B(h:B9 L):D6 L (D7 F2):=h.tyOk_object
theorem c2j:D6 L ⟨3,C5⟩:=a3h (by omega) (by omega) (by omega)
end
end Cf
namespace Cf
section
variable{L:List Cl}{s s':Ms}{u:Wd}{t:Tg}{n:Nat}{c:ByteArray}{v:Int}{f g:Fm}{fs gs:List Fm}{i:In}
end
end Cf
namespace Cf
section
variable{L:List Cl}{s s':Ms}{u:Wd}{t:Nat}{n:Nat}{c:ByteArray}{v:Int}{f g:Fm}{fs gs:List Fm}{i:In}
end
end Cf
namespace Cf
def rk(l:List Cl)(t:Ty):Nat:=if t.kind=5 then l.length+1 else M5 l t
variable {l:List Cl}
theorem B9.rk_le(h:B9 l)(t:Ty):rk l t≤l.length+1:=by
 unfold rk;split
 ·omega
 ·have:=h.rank_le t;omega
theorem B9.rk_lt(h:B9 l){a b:Ty}(ha:D6 l a)(hb:D6 l b)(hu:D4 l a b=true)(hne:a≠b):rk l b<rk l a:=by
 have h9:9≤l.length:=by obtain⟨fs,rfl⟩:=h.base;simp[show A7.length=9 from rfl]
 rw[a0h ha hb]at hu;rcases hu with e|rfl|⟨e1,e2⟩|⟨e1,e2,e3⟩|⟨e1,rfl⟩
 ·exact absurd e hne
 ·have h0:rk l B1=0:=by simp[rk,M5,B1]
  have ha0:a.kind≠0:=fun e=>hne (a4B ha e (by omega) (by omega))
  rw[h0];unfold rk;split
  ·omega
  ·unfold M5;rw[if_neg ha0];split
   ·rename_i e2;have:=ha.2;rw[if_pos (.inl e2)]at this;obtain⟨i,hi⟩:=this;rw[h.up_some hi];simp
   ·split<;>omega
 ·have h1:rk l a=l.length+1:=by unfold rk;rw[if_pos e1]
  have h2:rk l b=M5 l b:=by unfold rk;rw[if_neg (by omega)]
  have:=h.rank_le b;omega
 ·have h1:rk l a=(up l a.name).length:=by unfold rk M5;rw[if_neg (by omega),if_neg (by omega),if_pos e1]
  have h2:rk l b=(up l b.name).length:=by unfold rk M5;rw[if_neg (by omega),if_neg (by omega),if_pos e2]
  rcases h.below_len e3 with e|e
  ·exact absurd (by cases a;cases b;simp_all) hne
  ·omega
 ·have h1:rk l a=2:=by unfold rk M5;rw[if_neg (by omega),if_neg (by omega),if_neg (by omega),if_pos e1]
  have h2:rk l (D7 F2)=1:=by simp[rk,M5,D7,h.up_object]
  omega
variable {a:List Ty}
theorem b1Z{j:Nat}(hj:j<a.length):a.getD j B1∈a:=by
 have:a.getD j B1=a[j]:=by simp[hj]
 rw[this];exact List.getElem_mem hj
theorem b9z{t:Ty}(h:t∈a):∃j,j<a.length∧a.getD j B1=t:=by
 obtain⟨j,hj,rfl⟩:=List.getElem_of_mem h;exact⟨j,hj,by simp[hj]⟩
end Cf
namespace Cf
theorem a9c(a b:List Ty)(j:Nat):(a++b).getD j B1=if j<a.length then a.getD j B1 else b.getD (j-a.length) B1:=by
 rw[List.getD_eq_getElem?_getD,List.getElem?_append];split<;>rw[List.getD_eq_getElem?_getD]
theorem a6Y(a:List Ty)(n j:Nat):(a.take n).getD j B1=if j<n then a.getD j B1 else B1:=by
 rw[List.getD_eq_getElem?_getD,List.getElem?_take];split
 ·rw[List.getD_eq_getElem?_getD]
 ·rfl
def E4(l:List Cl)(m:Me)(a h:Nat):Nat:=m.locals+h-G8 l m (A6 m a)
variable {m:Me}
variable {s:List Ty}
variable {a h ht:Nat}
theorem a9w{d:Hd}(hs:s.length=m.locals+h)(j:Nat)(hj:j≤m.locals):(hdF m d s).getD j B1=if j<m.locals then s.getD j B1 else D7 d.cls:=by
 unfold hdF;rw[a9c,a6Y];have:(s.take m.locals).length=m.locals:=by simp;omega
 rw[this];by_cases h1:j<m.locals
 ·simp[h1]
 ·obtain rfl:j=m.locals:=by omega
  simp
variable {l:List Cl}
theorem a9x(hs:s.length=m.locals+h)(ht:G8 l m (A6 m a)≤h)(j:Nat):
 (goF l m (A6 m a) s).getD j B1=if j<m.locals then(if(A6 m a).op=3∧(A6 m a).a.toNat=j then s.getD (E4 l m a h) B1 else s.getD j B1)else if j<E4 l m a h then s.getD j B1 else(a0c l (A6 m a) s (E4 l m a h)).getD (j-E4 l m a h) B1:=by
 unfold goF E4;rw[hs];generalize hlow:m.locals+h-G8 l m (A6 m a)=low;have hlo:m.locals≤low:=by omega
 have h1:(if(A6 m a).op=3 then(s.take m.locals).set (A6 m a).a.toNat (s.getD low B1)else s.take m.locals).length=m.locals:=by
  split<;>simp<;>omega
 have h2:((s.take low).drop m.locals).length=low-m.locals:=by simp;omega
 rw[a9c,h1];by_cases g1:j<m.locals
 ·rw[if_pos g1,if_pos g1];by_cases e3:(A6 m a).op=3
  ·rw[if_pos e3,c0b,a6Y,if_pos g1];have:(s.take m.locals).length=m.locals:=by simp;omega
   rw[this];by_cases e:(A6 m a).a.toNat=j
   ·simp[e,g1,e3]
   ·simp[e]
  ·rw[if_neg e3,if_neg (by simp[e3]),a6Y,if_pos g1]
 ·rw[if_neg g1,if_neg g1,a9c,h2];by_cases g2:j<low
  ·rw[if_pos g2,if_pos (by omega),a8H,a6Y,if_pos (by omega)];congr 1;omega
  ·rw[if_neg g2,if_neg (by omega)];congr 1;omega
def R7(l:List Cl)(m:Me)(a low j:Nat)(t:Ty):List (Nat×Nat×Ty):=
 (if j<m.locals then(m.handlers.filter fun d=>a0C d a).map fun d=>(d.at_,j,t)else [])++
 (G4 (A6 m a) a).flatMap fun x=>
   if(A6 m a).op=3∧j=(A6 m a).a.toNat then []
   else if(A6 m a).op=2∧j=(A6 m a).a.toNat then [(x,j,t),(x,low,t)]
   else if j<low then [(x,j,t)]
   else if(A6 m a).op=3 then [(x,(A6 m a).a.toNat,t)]
   else if(A6 m a).op=5 then [(x,low,t),(x,low+1,t)]
   else if(A6 m a).op=6 then [(x,2*low+1-j,t)]
   else if(A6 m a).op=26∧j=low then [(x,low,X7 t)]
   else []
def P6(l:List Cl)(m:Me)(a low:Nat):List (Nat×Nat×Ty):=
 ((m.handlers.filter fun d=>a0C d a).map fun d=>(d.at_,m.locals,D7 d.cls))++
 (List.range (C6 l (A6 m a)).length).flatMap fun k=>if((C6 l (A6 m a)).getD k B1).kind=0 then []else(G4 (A6 m a) a).map fun x=>(x,low+k,(C6 l (A6 m a)).getD k B1)
abbrev S7:=List (List (Option Ty))
def tq(ts:S7)(a j:Nat):Option (Option Ty):=(ts.getD a [])[j]?
structure a1M(l:List Cl)(c:ByteArray)(m:Me)(ts:S7):Prop where
 len:ts.length=m.code.length
 shape:∀a h,F9 l m a h→(ts.getD a []).length=m.locals+h
 unre:∀a,(∀h,¬F9 l m a h)→ts.getD a []=[]
 snd:∀a j t,tq ts a j=some (some t)→D6 l t∧∀S,Sol l c m S→D4 l t ((S a).getD j B1)=true
def U6(l:List Cl)(ts:S7)(p:Nat×Nat×Ty):Prop:=∃u,tq ts p.1 p.2.1=some (some u)∧D4 l p.2.2 u=true
structure a0D(l:List Cl)(c:ByteArray)(m:Me)(p:Nat×Nat×Ty):Prop where
 shape:∃h,F9 l m p.1 h∧p.2.1<m.locals+h
 ok:D6 l p.2.2
 least:∀S,Sol l c m S→D4 l p.2.2 ((S p.1).getD p.2.1 B1)=true
variable {i:In}
theorem a5x(hn:R4 l m i=true)(ho:P0 i)(h:i.op=2∨i.op=3):i.a.toNat<m.locals:=by
 unfold R4 at hn;rw[if_pos h]at hn;have:=of_decide_eq_true hn;have:=ho.2 (by omega);omega
theorem b0Z(h:a<m.code.length):A6 m a∈m.code:=by unfold A6;simp[h]
theorem b1H(s:List Ty)(low:Nat)(h:i.op=2):a0c l i s low=[s.getD i.a.toNat B1]:=by unfold a0c;rw[if_pos h]
theorem a8R(s:List Ty)(low:Nat)(h:i.op=5):a0c l i s low=[s.getD low B1,s.getD low B1]:=by unfold a0c;rw[if_neg (by omega),if_pos h]
theorem a8x(s:List Ty)(low:Nat)(h:i.op=6):a0c l i s low=[s.getD (low+1) B1,s.getD low B1]:=by unfold a0c;rw[if_neg (by omega),if_neg (by omega),if_pos h]
theorem b1i(s:List Ty)(low:Nat)(h:i.op=26):a0c l i s low=[X7 (s.getD low B1)]:=by unfold a0c;rw[if_neg (by omega),if_neg (by omega),if_neg (by omega),if_pos h]
theorem b1I(s:List Ty)(low:Nat)(h:¬(i.op=2∨i.op=5∨i.op=6∨i.op=26)):a0c l i s low=C6 l i:=by unfold a0c;rw[if_neg (by omega),if_neg (by omega),if_neg (by omega),if_neg (by omega)]
variable {c:ByteArray}
theorem B9.fixed_comes(h:B9 l)(hw:o4 l)(hc:R0 l m)(hi:∀i∈m.code,P0 i)(hh:a0w l m)(hr:F9 l m a ht):∀p∈P6 l m a (E4 l m a ht),a0D l c m p:=by
 intro p hp;have ho:=a8A hh hr;have hroom:=hh.room a ht hr;unfold j6 at hroom;simp only[Bool.and_eq_true,decide_eq_true_eq]at hroom;have hin:=a1V hc hi hr;unfold P6 at hp;rcases List.mem_append.1 hp with hp|hp
 ·obtain⟨d,hd,rfl⟩:=List.mem_map.1 hp;obtain⟨h1,h2⟩:=List.mem_filter.1 hd;have hb:=(hc.hds d h1).2.2.2
  have hk:∃i,C3 l d.cls=some i:=by
   cases hf:C3 l d.cls with
   |none=>rw[h.below_none hf]at hb;cases hb
   |some i=>exact⟨i,rfl⟩
  refine⟨⟨1,ho.1 d h1 h2,by simp only;omega⟩,⟨by simp[D7],by simpa[D7]using hk⟩,fun S hS=> ?_⟩;have hf:=hS.flow a ht hr (d.at_,hdF m d) (List.mem_append_left _ (List.mem_map.2 ⟨d,hd,rfl⟩));have:=hf.2 m.locals (by rw[a5T (hS.shape a ht hr)];omega);rw[a9w (hS.shape a ht hr) _ (Nat.le_refl _),if_neg (by omega)]at this;exact this
 ·obtain⟨k,hk,hp⟩:=List.mem_flatMap.1 hp;have hk:=List.mem_range.1 hk;split at hp
  ·cases hp
  ·rename_i h0;obtain⟨x,hx,rfl⟩:=List.mem_map.1 hp;have hpl:(C6 l (A6 m a)).length=M6 l (A6 m a):=rfl;have hm:=b1Z hk;refine⟨⟨_,ho.2 x hx,by simp only[E4,a0O];omega⟩,(h.puts_ok hw (hc.need a hin.1)).1 _ hm,fun S hS=> ?_⟩;have hf:=hS.flow a ht hr (x,goF l m (A6 m a)) (List.mem_append_right _ (List.mem_map.2 ⟨x,hx,rfl⟩));have hlen:=a5V (hS.shape a ht hr) (hh.room a ht hr);have:=hf.2 (E4 l m a ht+k) (by rw[hlen];simp only[E4,a0O];omega);rw[a9x (hS.shape a ht hr) hroom.1,if_neg (by simp only[E4];omega),if_neg (by omega),Nat.add_sub_cancel_left]at this
   have hnop:¬((A6 m a).op=2∨(A6 m a).op=5∨(A6 m a).op=6∨(A6 m a).op=26):=fun e=>by
    apply h0
    have:∀t∈C6 l (A6 m a),t=B1:=by
     rcases e with e|e|e|e<;>simp[C6,e]
    rw[this _ hm];rfl
   rw[b1I _ _ hnop]at this;exact this
theorem B9.flow_comes(h:B9 l)(hw:o4 l)(hc:R0 l m)(hi:∀i∈m.code,P0 i)(hh:a0w l m)(hr:F9 l m a ht){j:Nat}(hj:j<m.locals+ht){t:Ty}(htk:D6 l t)
 (hle:∀S,Sol l c m S→D4 l t ((S a).getD j B1)=true):∀p∈R7 l m a (E4 l m a ht) j t,a0D l c m p:=by
 intro p hp;have ho:=a8A hh hr;have hroom:=hh.room a ht hr;unfold j6 at hroom;simp only[Bool.and_eq_true,decide_eq_true_eq]at hroom;have hin:=a1V hc hi hr;have hok:=hi _ (b0Z hin.1);have hnd:=hc.need a hin.1;unfold R7 at hp;rcases List.mem_append.1 hp with hp|hp
 ·split at hp
  ·rename_i hjl;obtain⟨d,hd,rfl⟩:=List.mem_map.1 hp;obtain⟨h1,h2⟩:=List.mem_filter.1 hd;refine⟨⟨1,ho.1 d h1 h2,by simp only;omega⟩,htk,fun S hS=> ?_⟩;have hf:=hS.flow a ht hr (d.at_,hdF m d) (List.mem_append_left _ (List.mem_map.2 ⟨d,hd,rfl⟩));have h3:=hf.2 j (by rw[a5T (hS.shape a ht hr)];omega);rw[a9w (hS.shape a ht hr) _ (by omega),if_pos hjl]at h3;exact h.under_trans htk (V7 (hS.ok a ht hr) j) (V7 (hS.ok d.at_ 1 (ho.1 d h1 h2)) j) (hle S hS) h3
  ·cases hp
 ·obtain⟨x,hx,hp⟩:=List.mem_flatMap.1 hp;have hrx:=ho.2 x hx
  have key:∀(j2:Nat) (v:Ty),j2<m.locals+a0O l m a ht→D6 l v→(∀S,Sol l c m S→D4 l v ((goF l m (A6 m a) (S a)).getD j2 B1)=true)→a0D l c m (x,j2,v):=fun j2 v h1 h2 h3=>by
   refine⟨⟨_,hrx,h1⟩,h2,fun S hS=> ?_⟩;have hf:=hS.flow a ht hr (x,goF l m (A6 m a)) (List.mem_append_right _ (List.mem_map.2 ⟨x,hx,rfl⟩));have hlen:=a5V (hS.shape a ht hr) (hh.room a ht hr);have hT:=V7 (h.out_ok hw hc hin.1 (hS.ok a ht hr) (q:=(x,goF l m (A6 m a))) (List.mem_append_right _ (List.mem_map.2 ⟨x,hx,rfl⟩))) j2;exact h.under_trans h2 hT (V7 (hS.ok x _ hrx) j2) (h3 S hS) (hf.2 j2 (by rw[hlen];exact h1))
  have hlow:E4 l m a ht=m.locals+ht-G8 l m (A6 m a):=rfl;have hbeh:a0O l m a ht=ht-G8 l m (A6 m a)+M6 l (A6 m a):=rfl;have hget:=fun S (hS:Sol l c m S) (j2:Nat)=>a9x (l:=l) (a:=a) (hS.shape a ht hr) hroom.1 j2
  have hputn:M6 l (A6 m a)=(C6 l (A6 m a)).length:=rfl;split at hp
  ·cases hp
  ·rename_i n3;split at hp
   ·rename_i e2;have hal:=a5x hnd hok (.inl e2.1);have hp1:M6 l (A6 m a)=1:=by rw[hputn];simp[C6,e2.1]
    simp only[List.mem_cons,List.not_mem_nil,or_false]at hp;rcases hp with rfl|rfl
    ·exact key j t (by omega) htk (fun S hS=>by rw[hget S hS,if_pos (by omega),if_neg (by omega)];exact hle S hS)
    ·exact key _ t (by omega) htk (fun S hS=>by rw[hget S hS,if_neg (by omega),if_neg (by omega),b1H _ _ e2.1,Nat.sub_self,←e2.2];exact hle S hS)
   ·rename_i n2;split at hp
    ·rename_i hlt;rw[List.mem_singleton.1 hp];refine key j t (by omega) htk (fun S hS=> ?_);rw[hget S hS];split
     ·rw[if_neg (fun e=>n3 ⟨e.1,e.2.symm⟩)];exact hle S hS
     ·first|exact hle S hS|(rw[if_pos hlt];exact hle S hS)
    ·rename_i hge;have htake:0<G8 l m (A6 m a):=by omega
     split at hp
     ·rename_i e3;have hal:=a5x hnd hok (.inr e3);have ht1:G8 l m (A6 m a)=1:=by simp[G8,F6,e3]
      have hj0:j=E4 l m a ht:=by omega
      rw[List.mem_singleton.1 hp];exact key _ t (by omega) htk (fun S hS=>by rw[hget S hS,if_pos hal,if_pos ⟨e3,rfl⟩,←hj0];exact hle S hS)
     ·split at hp
      ·rename_i e5;have ht1:G8 l m (A6 m a)=1:=by simp[G8,F6,e5]
       have hp2:M6 l (A6 m a)=2:=by rw[hputn];simp[C6,e5]
       have hj0:j=E4 l m a ht:=by omega
       simp only[List.mem_cons,List.not_mem_nil,or_false]at hp;rcases hp with rfl|rfl
       ·exact key _ t (by omega) htk (fun S hS=>by rw[hget S hS,if_neg (by omega),if_neg (by omega),a8R _ _ e5,Nat.sub_self,←hj0];exact hle S hS)
       ·exact key _ t (by omega) htk (fun S hS=>by rw[hget S hS,if_neg (by omega),if_neg (by omega),a8R _ _ e5,Nat.add_sub_cancel_left,←hj0];exact hle S hS)
      ·split at hp
       ·rename_i e6;have ht1:G8 l m (A6 m a)=2:=by simp[G8,F6,e6]
        have hp2:M6 l (A6 m a)=2:=by rw[hputn];simp[C6,e6]
        rw[List.mem_singleton.1 hp];have hj0:j=E4 l m a ht∨j=E4 l m a ht+1:=by omega
        rcases hj0 with hj0|hj0
        ·have e:2*E4 l m a ht+1-j=E4 l m a ht+1:=by omega
         rw[e];exact key _ t (by omega) htk (fun S hS=>by rw[hget S hS,if_neg (by omega),if_neg (by omega),a8x _ _ e6,Nat.add_sub_cancel_left,←hj0];exact hle S hS)
        ·have e:2*E4 l m a ht+1-j=E4 l m a ht:=by omega
         rw[e];exact key _ t (by omega) htk (fun S hS=>by rw[hget S hS,if_neg (by omega),if_neg (by omega),a8x _ _ e6,Nat.sub_self,←hj0];exact hle S hS)
       ·split at hp
        ·rename_i e26;have hp2:M6 l (A6 m a)=1:=by rw[hputn];simp[C6,e26.1]
         rw[List.mem_singleton.1 hp];exact key _ _ (by omega) (b2h htk) (fun S hS=>by rw[hget S hS,if_neg (by omega),if_neg (by omega),b1i _ _ e26.1,Nat.sub_self,←e26.2];exact b7f htk (V7 (hS.ok a ht hr) j) (hle S hS))
        ·cases hp
end Cf
namespace Cf
def U5(ts:S7)(a j:Nat)(t:Ty):S7:=ts.set a ((ts.getD a []).set j (some t))
variable {ts:S7}
variable {a j:Nat}
variable {o:Option Ty}
theorem a2c(h:tq ts a j=some o):a<ts.length∧j<(ts.getD a []).length:=by
 unfold tq at h;have h1:=(List.getElem?_eq_some_iff.1 h).1;refine⟨?_,h1⟩;by_cases ha:a<ts.length
 ·exact ha
 ·have:ts.getD a []=[]:=by simp[Nat.le_of_not_lt ha]
  rw[this]at h1;simp at h1
theorem a4G(ts:S7)(a j b:Nat)(t:Ty)(h:a<ts.length):(U5 ts a j t).getD b []=if a=b then(ts.getD a []).set j (some t)else ts.getD b []:=by
 unfold U5;rw[List.getD_eq_getElem?_getD,List.getElem?_set];by_cases e:a=b
 ·rw[if_pos e,if_pos e,if_pos h];rfl
 ·rw[if_neg e,if_neg e,List.getD_eq_getElem?_getD]
theorem a5N(h:tq ts a j=some o)(t:Ty)(b k:Nat):tq (U5 ts a j t) b k=if a=b∧j=k then some (some t)else tq ts b k:=by
 obtain⟨h1,h2⟩:=a2c h;unfold tq;rw[a4G _ _ _ _ _ h1];by_cases e:a=b
 ·subst e;rw[if_pos rfl,List.getElem?_set];by_cases e2:j=k
  ·rw[if_pos e2,if_pos h2,if_pos ⟨rfl,e2⟩]
  ·rw[if_neg e2,if_neg (fun c=>e2 c.2)]
 ·rw[if_neg e,if_neg (fun c=>e c.1)]
def X3(l:List Cl)(o:Option Ty)(t:Ty):Ty:=match o with|none=>t|some x=>a1F l x t
def a1A(l:List Cl)(ts ts':S7):Prop:=∀(a j:Nat) (t:Ty),tq ts a j=some (some t)→∃u,tq ts' a j=some (some u)∧D4 l t u=true
variable {l:List Cl}
variable {c:ByteArray}
variable {m:Me}
variable {p:Nat×Nat×Ty}
theorem B9.raise_ok(h:B9 l)(hp:a1M l c m ts)(hv:a0D l c m p)(ho:tq ts p.1 p.2.1=some o):
 a1M l c m (U5 ts p.1 p.2.1 (X3 l o p.2.2))∧a1A l ts (U5 ts p.1 p.2.1 (X3 l o p.2.2))∧U6 l (U5 ts p.1 p.2.1 (X3 l o p.2.2)) p∧(o=some (X3 l o p.2.2)→U5 ts p.1 p.2.1 (X3 l o p.2.2)=ts):=by
 obtain⟨h1,h2⟩:=a2c ho
 have key:D6 l (X3 l o p.2.2)∧D4 l p.2.2 (X3 l o p.2.2)=true∧(∀S,Sol l c m S→D4 l (X3 l o p.2.2) ((S p.1).getD p.2.1 B1)=true)∧∀x,o=some x→D4 l x (X3 l o p.2.2)=true:=by
  cases o with
  |none=>exact⟨hv.ok,a3g _ _,hv.least,fun x e=>by cases e⟩
  |some x=>
   obtain⟨x1,x2⟩:=hp.snd _ _ _ ho;have lub:=h.joinP_lub x1 hv.ok;obtain⟨k,hk,_⟩:=hv.shape;exact⟨lub.ok,lub.right,fun S hS=>lub.least _ (V7 (hS.ok _ _ hk) _) (x2 S hS) (hv.least S hS),fun y e=>by cases e;exact lub.left⟩
 obtain⟨k1,k2,k3,k4⟩:=key;refine⟨⟨by unfold U5;simpa using hp.len,fun a ht hr=> ?_,fun a hno=> ?_,fun a j t ht=> ?_⟩,fun a j t ht=> ?_,⟨_,by rw[a5N ho,if_pos ⟨rfl,rfl⟩],k2⟩,fun e=> ?_⟩
 ·rw[a4G _ _ _ _ _ h1];split
  ·rename_i e;subst e;rw[List.length_set];exact hp.shape _ ht hr
  ·exact hp.shape a ht hr
 ·rw[a4G _ _ _ _ _ h1];split
  ·rename_i e;subst e;rw[hp.unre _ hno]at h2;simp at h2
  ·exact hp.unre a hno
 ·rw[a5N ho]at ht;split at ht
  ·rename_i e;obtain⟨rfl,rfl⟩:=e;injection ht with ht;injection ht with ht;subst ht
   exact⟨k1,k3⟩
  ·exact hp.snd a j t ht
 ·rw[a5N ho];by_cases e:p.1=a∧p.2.1=j
  ·obtain⟨rfl,rfl⟩:=e;rw[ho]at ht;injection ht with ht
   exact⟨_,if_pos ⟨rfl,rfl⟩,k4 t ht⟩
  ·exact⟨t,by rw[if_neg e];exact ht,a3g _ _⟩
 ·unfold U5;refine List.ext_getElem? fun b=> ?_
  rw[List.getElem?_set];by_cases eb:p.1=b
  ·subst eb;rw[if_pos rfl,if_pos h1]
   have:(ts.getD p.1 []).set p.2.1 (some (X3 l o p.2.2))=ts.getD p.1 []:=by
    refine List.ext_getElem? fun k=> ?_
    rw[List.getElem?_set];by_cases ek:p.2.1=k
    ·subst ek;rw[if_pos rfl,if_pos h2,←e];exact ho.symm
    ·rw[if_neg ek]
   rw[this];simp[h1]
  ·rw[if_neg eb]
theorem B9.satS_rises(h:B9 l){ts':S7}(h1:a1M l c m ts)(h2:a1M l c m ts')(hr:a1A l ts ts')(hp:D6 l p.2.2)(hs:U6 l ts p):U6 l ts' p:=by
 obtain⟨u,hu,hle⟩:=hs;obtain⟨v,hv,hle2⟩:=hr _ _ _ hu;exact⟨v,hv,h.under_trans hp (h1.snd _ _ _ hu).1 (h2.snd _ _ _ hv).1 hle hle2⟩
def rkO(l:List Cl)(o:Option Ty):Nat:=match o with|none=>l.length+2|some t=>rk l t
def a4i(l:List Cl)(ts:S7):Nat:=(ts.map fun r=>(r.map (rkO l)).sum).sum
theorem a9m{α:Type}(f:α→Nat):∀(r:List α) (j:Nat) (x o:α),r[j]? =some o→((r.set j x).map f).sum+f o=(r.map f).sum+f x
 | [],j,_,_,h=>by simp at h
 |y::r,0,x,o,h=>by
  simp at h;subst h;simp only[List.set_cons_zero,List.map_cons,List.sum_cons];omega
 |y::r,j+1,x,o,h=>by
  have:=a9m f r j x o (by simpa using h);simp only[List.set_cons_succ,List.map_cons,List.sum_cons];omega
theorem b9q(l:List Cl)(h:tq ts a j=some o)(t:Ty):a4i l (U5 ts a j t)+rkO l o=a4i l ts+rk l t:=by
 obtain⟨h1,h2⟩:=a2c h;unfold a4i U5;have hget:ts[a]? =some (ts.getD a []):=by simp[h1]
 have e1:=a9m (fun r:List (Option Ty)=>(r.map (rkO l)).sum) ts a ((ts.getD a []).set j (some t)) (ts.getD a []) hget;have e2:=a9m (rkO l) (ts.getD a []) j (some t) o h;have e3:rkO l (some t)=rk l t:=rfl;have e4:rkO l (some t)=rk l t:=rfl;omega
variable {t:Ty}
theorem B9.raise_rk(h:B9 l)(ho:∀x,o=some x→D6 l x)(ht:D6 l t)(hne:o≠some (X3 l o t)):rk l (X3 l o t)<rkO l o:=by
 cases o with
 |none=>have:=h.rk_le t;simp only[X3,rkO];omega
 |some x=>
  have lub:=h.joinP_lub (ho x rfl) ht;exact h.rk_lt (ho x rfl) lub.ok lub.left (fun e=>hne (congrArg some e))
def N1(ts:S7)(a:Nat):List Ty:=(ts.getD a []).map fun o=>o.getD B1
theorem a0K(h:tq ts a j=some (some t)):(N1 ts a).getD j B1=t:=by
 unfold N1 tq at*
 rw[List.getD_eq_getElem?_getD,List.getElem?_map,h];rfl
theorem a3j{low x:Nat}(hx:x∈G4 (A6 m a) a)
 (hp:p∈(if(A6 m a).op=3∧j=(A6 m a).a.toNat then []
 else if(A6 m a).op=2∧j=(A6 m a).a.toNat then [(x,j,t),(x,low,t)]
 else if j<low then [(x,j,t)]
 else if(A6 m a).op=3 then [(x,(A6 m a).a.toNat,t)]
 else if(A6 m a).op=5 then [(x,low,t),(x,low+1,t)]
 else if(A6 m a).op=6 then [(x,2*low+1-j,t)]
 else if(A6 m a).op=26∧j=low then [(x,low,X7 t)]
 else [])):p∈R7 l m a low j t:=by
 unfold R7;exact List.mem_append_right _ (List.mem_flatMap.2 ⟨x,hx,hp⟩)
theorem B9.cover(h:B9 l)(hw:o4 l)(hc:R0 l m)(hi:∀i∈m.code,P0 i)(hh:a0w l m)(hp:a1M l c m ts){ht:Nat}(hr:F9 l m a ht)
 (hfix:∀p∈P6 l m a (E4 l m a ht),U6 l ts p) (hflow:∀j t,tq ts a j=some (some t)→∀p∈R7 l m a (E4 l m a ht) j t,U6 l ts p) (htold:∀j,j<m.locals+ht→∃t,tq ts a j=some (some t)):
 ∀q∈a2N l m a,∀j,j<(q.2 (N1 ts a)).length→U6 l ts (q.1,j,(q.2 (N1 ts a)).getD j B1):=by
 intro q hq j hj;have hlen:(N1 ts a).length=m.locals+ht:=by unfold N1;rw[List.length_map];exact hp.shape a ht hr
 have hroom:=hh.room a ht hr;have hroom2:=hroom;unfold j6 at hroom;simp only[Bool.and_eq_true,decide_eq_true_eq]at hroom;have hin:=a1V hc hi hr;have hok:=hi _ (b0Z hin.1);have hnd:=hc.need a hin.1;have hlow:E4 l m a ht=m.locals+ht-G8 l m (A6 m a):=rfl;have hbeh:a0O l m a ht=ht-G8 l m (A6 m a)+M6 l (A6 m a):=rfl;have hputn:M6 l (A6 m a)=(C6 l (A6 m a)).length:=rfl;unfold a2N at hq;rcases List.mem_append.1 hq with hq|hq
 ·obtain⟨d,hd,rfl⟩:=List.mem_map.1 hq;rw[a5T hlen]at hj;rw[a9w hlen _ (by omega)];split
  ·rename_i hjl;obtain⟨t,ht2⟩:=htold j (by omega);rw[a0K ht2];refine hflow j t ht2 _ ?_;unfold R7;rw[if_pos hjl];exact List.mem_append_left _ (List.mem_map.2 ⟨d,hd,rfl⟩)
  ·have:j=m.locals:=by omega
   subst this;refine hfix _ ?_;unfold P6;exact List.mem_append_left _ (List.mem_map.2 ⟨d,hd,rfl⟩)
 ·obtain⟨x,hx,rfl⟩:=List.mem_map.1 hq;rw[a5V hlen hroom2]at hj;rw[a9x hlen hroom.1];by_cases hjl:j<m.locals
  ·rw[if_pos hjl];by_cases e3:(A6 m a).op=3∧(A6 m a).a.toNat=j
   ·rw[if_pos e3];have ht1:G8 l m (A6 m a)=1:=by simp[G8,F6,e3.1]
    obtain⟨t,ht2⟩:=htold (E4 l m a ht) (by omega);rw[a0K ht2];refine hflow _ t ht2 _ (a3j hx ?_);rw[if_neg (by omega),if_neg (by omega),if_neg (by omega),if_pos e3.1,e3.2];simp
   ·rw[if_neg e3];obtain⟨t,ht2⟩:=htold j (by omega);rw[a0K ht2];refine hflow _ t ht2 _ (a3j hx ?_);rw[if_neg (fun e=>e3 ⟨e.1,e.2.symm⟩)];split
    ·simp
    ·rw[if_pos (by omega)];simp
  ·rw[if_neg hjl];by_cases hjw:j<E4 l m a ht
   ·rw[if_pos hjw];obtain⟨t,ht2⟩:=htold j (by omega);rw[a0K ht2];refine hflow _ t ht2 _ (a3j hx ?_)
    have hnl:∀o,(o=2∨o=3)→¬((A6 m a).op=o∧j=(A6 m a).a.toNat):=fun o ho e=>by
     have:=a5x hnd hok (by rcases ho with rfl|rfl<;>simp[e.1]);omega
    rw[if_neg (hnl 3 (.inr rfl)),if_neg (hnl 2 (.inl rfl)),if_pos hjw];simp
   ·rw[if_neg hjw];obtain⟨k,rfl⟩:∃k,j=E4 l m a ht+k:=⟨j-E4 l m a ht,by omega⟩
    rw[Nat.add_sub_cancel_left];have hk:k<M6 l (A6 m a):=by omega
    by_cases e2:(A6 m a).op=2
    ·have hp1:M6 l (A6 m a)=1:=by rw[hputn];simp[C6,e2]
     have hal:=a5x hnd hok (.inl e2);obtain rfl:k=0:=by omega
     rw[b1H _ _ e2];obtain⟨t,ht2⟩:=htold (A6 m a).a.toNat (by omega);show U6 l ts (x,E4 l m a ht+0,(N1 ts a).getD (A6 m a).a.toNat B1);rw[a0K ht2];refine hflow _ t ht2 _ (a3j hx ?_);rw[if_neg (by omega),if_pos ⟨e2,rfl⟩];simp
    ·by_cases e5:(A6 m a).op=5
     ·have hp1:M6 l (A6 m a)=2:=by rw[hputn];simp[C6,e5]
      have ht1:G8 l m (A6 m a)=1:=by simp[G8,F6,e5]
      obtain⟨t,ht2⟩:=htold (E4 l m a ht) (by omega);rw[a8R _ _ e5,a0K ht2]
      have hv:([t,t]:List Ty).getD k B1=t:=by
       have:k=0∨k=1:=by omega
       rcases this with rfl|rfl<;>rfl
      rw[hv];refine hflow _ t ht2 _ (a3j hx ?_);rw[if_neg (by omega),if_neg (by omega),if_neg (by omega),if_neg (by omega),if_pos e5];have:k=0∨k=1:=by omega
      rcases this with rfl|rfl<;>simp
     ·by_cases e6:(A6 m a).op=6
      ·have hp1:M6 l (A6 m a)=2:=by rw[hputn];simp[C6,e6]
       have ht1:G8 l m (A6 m a)=2:=by simp[G8,F6,e6]
       rw[a8x _ _ e6];have:k=0∨k=1:=by omega
       rcases this with rfl|rfl
       ·obtain⟨t,ht2⟩:=htold (E4 l m a ht+1) (by omega);show U6 l ts (x,E4 l m a ht+0,(N1 ts a).getD (E4 l m a ht+1) B1);rw[a0K ht2];refine hflow _ t ht2 _ (a3j hx ?_);rw[if_neg (by omega),if_neg (by omega),if_neg (by omega),if_neg (by omega),if_neg e5,if_pos e6];have:2*E4 l m a ht+1-(E4 l m a ht+1)=E4 l m a ht:=by omega
        rw[this];simp
       ·obtain⟨t,ht2⟩:=htold (E4 l m a ht) (by omega);show U6 l ts (x,E4 l m a ht+1,(N1 ts a).getD (E4 l m a ht) B1);rw[a0K ht2];refine hflow _ t ht2 _ (a3j hx ?_);rw[if_neg (by omega),if_neg (by omega),if_neg (by omega),if_neg (by omega),if_neg e5,if_pos e6];have:2*E4 l m a ht+1-E4 l m a ht=E4 l m a ht+1:=by omega
        rw[this];simp
      ·by_cases e26:(A6 m a).op=26
       ·have hp1:M6 l (A6 m a)=1:=by rw[hputn];simp[C6,e26]
        have ht1:G8 l m (A6 m a)=2:=by simp[G8,F6,e26]
        obtain rfl:k=0:=by omega
        obtain⟨t,ht2⟩:=htold (E4 l m a ht) (by omega);rw[b1i _ _ e26,a0K ht2];refine hflow _ t ht2 _ (a3j hx ?_);rw[if_neg (by omega),if_neg (by omega),if_neg (by omega),if_neg (by omega),if_neg e5,if_neg e6,if_pos ⟨e26,rfl⟩];simp
       ·rw[b1I _ _ (by omega)];refine hfix _ ?_;unfold P6;refine List.mem_append_right _ (List.mem_flatMap.2 ⟨k,List.mem_range.2 (by omega),?_⟩)
        have hne:((C6 l (A6 m a)).getD k B1).kind≠0:=fun e=>by
         have:=(h.puts_ok hw hnd).2 ⟨_,b1Z (by omega),e⟩;omega
        rw[if_neg hne];exact List.mem_map.2 ⟨x,hx,rfl⟩
theorem B9.typing_ofS(h:B9 l)(hw:o4 l)(hc:R0 l m)(hi:∀i∈m.code,P0 i)(hh:a0w l m)(hp:a1M l c m ts)
 (hent:∀j,j<m.locals→U6 l ts (0,j,(a1n c m).getD j B1)) (hfix:∀a ht,F9 l m a ht→∀p∈P6 l m a (E4 l m a ht),U6 l ts p)
 (hflow:∀a ht,F9 l m a ht→∀j t,tq ts a j=some (some t)→∀p∈R7 l m a (E4 l m a ht) j t,U6 l ts p):
 a4S l c m (N1 ts)∧∀a ht,F9 l m a ht→∀j,j<m.locals+ht→∃t,tq ts a j=some (some t):=by
 have hlen:∀a ht,F9 l m a ht→(N1 ts a).length=m.locals+ht:=fun a ht hr=>by unfold N1;rw[List.length_map];exact hp.shape a ht hr
 have told:∀a ht,F9 l m a ht→∀j,j<m.locals+ht→∃t,tq ts a j=some (some t):=by
  intro a ht hr;refine a6P (S:=fun a ht=>F9 l m a ht∧∀j,j<m.locals+ht→∃t,tq ts a j=some (some t)) ⟨⟨(a3d l m).1,fun j hj=> ?_⟩,?_⟩ hr|>.2
  ·obtain⟨u,hu,_⟩:=hent j (by omega);exact⟨u,hu⟩
  ·rintro a ht ⟨hra,htold⟩ p hpm;have hrp:=(a3d l m).2 a ht hra p hpm;refine⟨hrp,fun j hj=> ?_⟩
   have hq:∃q∈a2N l m a,q.1=p.1∧(q.2 (N1 ts a)).length=m.locals+p.2:=by
    unfold a1E at hpm;rcases List.mem_append.1 hpm with hpm|hpm
    ·split at hpm
     ·cases hpm
     ·obtain⟨d,hd,rfl⟩:=List.mem_map.1 hpm;exact⟨(d.at_,hdF m d),List.mem_append_left _ (List.mem_map.2 ⟨d,hd,rfl⟩),rfl,a5T (hlen a ht hra)⟩
    ·split at hpm
     ·rename_i hroom;obtain⟨x,hx,rfl⟩:=List.mem_map.1 hpm;exact⟨(x,goF l m (A6 m a)),List.mem_append_right _ (List.mem_map.2 ⟨x,hx,rfl⟩),rfl,a5V (hlen a ht hra) hroom⟩
     ·cases hpm
   obtain⟨q,hq,e1,e2⟩:=hq;obtain⟨u,hu,_⟩:=h.cover hw hc hi hh hp hra (hfix a ht hra) (hflow a ht hra) htold q hq j (by omega);rw[e1]at hu;exact⟨u,hu⟩
 have okT:∀a ht,F9 l m a ht→N9 l (N1 ts a):=fun a ht hr t ht2=>by
  obtain⟨j,hj,rfl⟩:=b9z ht2;obtain⟨u,hu⟩:=told a ht hr j (by rw[hlen a ht hr]at hj;exact hj);rw[a0K hu];exact(hp.snd a j u hu).1
 refine⟨⟨⟨hlen,okT,⟨?_,fun j hj=> ?_⟩,fun a ht hr q hq=> ?_⟩,fun S hS a ht hr=>⟨?_,fun j hj=> ?_⟩⟩,told⟩
 ·rw[a8K hc,hlen 0 0 (a3d l m).1];rfl
 ·rw[a8K hc]at hj;obtain⟨u,hu,hle⟩:=hent j hj;rw[a0K hu];exact hle
 ·obtain⟨k,hk,hkl⟩:=b7V hh hr (hlen a ht hr) hq;refine⟨by rw[hkl,hlen _ _ hk],fun j hj=> ?_⟩;obtain⟨u,hu,hle⟩:=h.cover hw hc hi hh hp hr (hfix a ht hr) (hflow a ht hr) (told a ht hr) q hq j hj;rw[a0K hu];exact hle
 ·rw[hlen a ht hr,hS.shape a ht hr]
 ·obtain⟨u,hu⟩:=told a ht hr j (by rw[hlen a ht hr]at hj;exact hj);rw[a0K hu];exact(hp.snd a j u hu).2 S hS
end Cf
namespace Cf
structure Ps where
 ts:S7
 ris:List (Nat×Nat)
def a3y(o:Option Ty)(t:Ty):Bool:=match o with|none=>false|some x=>L7 x t
theorem a5B(o:Option Ty)(t:Ty):a3y o t=true↔o=some t:=by
 cases o with
 |none=>simp[a3y]
 |some x=>simp[a3y,a2v]
def N0(l:List Cl)(s:Ps)(p:Nat×Nat×Ty):Ps:=
 match tq s.ts p.1 p.2.1 with
 |none=>s
 |some o=>if a3y o (X3 l o p.2.2)=true then s else{ts:=U5 s.ts p.1 p.2.1 (X3 l o p.2.2),ris:=s.ris++ [(p.1,p.2.1)]}
def S9(l:List Cl)(s:Ps):Nat:=2*a4i l s.ts+s.ris.length
def a0k(l:List Cl)(m:Me)(s:Ps)(cur:Option (Nat×Nat×Ty)):Prop:=
 ∀a ht,F9 l m a ht→∀j t,tq s.ts a j=some (some t)→(a,j)∈s.ris∨cur=some (a,j,t)∨∀p∈R7 l m a (E4 l m a ht) j t,U6 l s.ts p
def c4e(s:Ps):Prop:=∀p∈s.ris,∃t,tq s.ts p.1 p.2=some (some t)
structure M7(l:List Cl)(c:ByteArray)(m:Me)(s:Ps):Prop where
 snd:a1M l c m s.ts
 told:c4e s
structure a1L(l:List Cl)(s s':Ps):Prop where
 up:a1A l s.ts s'.ts
 mu:S9 l s'≤S9 l s
 same:∀a j,tq s'.ts a j=tq s.ts a j∨(a,j)∈s'.ris
 ris:∀p∈s.ris,p∈s'.ris
 len:∀a,(s'.ts.getD a []).length=(s.ts.getD a []).length
theorem b0v(l:List Cl)(ts:S7):a1A l ts ts:=fun _ _ t h=>⟨t,h,a3g _ _⟩
theorem a1L.refl(l:List Cl)(s:Ps):a1L l s s:=⟨b0v l _,Nat.le_refl _,fun _ _=> .inl rfl,fun _ h=>h,fun _=>rfl⟩
variable {l:List Cl}
variable {c:ByteArray}
variable {m:Me}
theorem B9.risesS_trans(h:B9 l){x y z:S7}(hx:a1M l c m x)(hy:a1M l c m y)(hz:a1M l c m z)(h1:a1A l x y)(h2:a1A l y z):a1A l x z:=fun a j t ht=>by
 obtain⟨u,hu,e1⟩:=h1 a j t ht;obtain⟨v,hv,e2⟩:=h2 a j u hu;exact⟨v,hv,h.under_trans (hx.snd _ _ _ ht).1 (hy.snd _ _ _ hu).1 (hz.snd _ _ _ hv).1 e1 e2⟩
theorem B9.psUp_trans(h:B9 l){x y z:Ps}(hx:M7 l c m x)(hy:M7 l c m y)(hz:M7 l c m z)(h1:a1L l x y)(h2:a1L l y z):a1L l x z:=
 ⟨h.risesS_trans hx.snd hy.snd hz.snd h1.up h2.up,Nat.le_trans h2.mu h1.mu,fun a j=>by
  rcases h2.same a j with e|e
  ·rcases h1.same a j with e2|e2
   ·exact .inl (e.trans e2)
   ·exact .inr (h2.ris _ e2)
  ·exact .inr e,fun p hp=>h2.ris p (h1.ris p hp),fun a=>(h2.len a).trans (h1.len a)⟩
variable {p:Nat×Nat×Ty}
theorem b0X{ts:S7}(hp:a1M l c m ts)(hv:a0D l c m p):∃o,tq ts p.1 p.2.1=some o:=by
 obtain⟨h,hr,hj⟩:=hv.shape;have:=hp.shape _ h hr;unfold tq;exact⟨_,List.getElem?_eq_getElem (by omega)⟩
variable {s:Ps}
theorem B9.psRaise_ok(h:B9 l)(hs:M7 l c m s)(hv:a0D l c m p):
 M7 l c m (N0 l s p)∧a1L l s (N0 l s p)∧U6 l (N0 l s p).ts p:=by
 obtain⟨o,ho⟩:=b0X hs.snd hv;obtain⟨r1,r2,r3,r4⟩:=h.raise_ok hs.snd hv ho;unfold N0;rw[ho];dsimp only;by_cases e:o=some (X3 l o p.2.2)
 ·rw[if_pos ((a5B _ _).2 e)];rw[r4 e]at r3;exact⟨hs,a1L.refl l s,r3⟩
 ·rw[if_neg (fun e2=>e ((a5B _ _).1 e2))];refine⟨⟨r1,fun q hq=> ?_⟩,⟨r2,?_,fun a j=> ?_,fun q hq=>List.mem_append_left _ hq,fun a=> ?_⟩,r3⟩
  ·rcases List.mem_append.1 hq with hq|hq
   ·obtain⟨t,ht⟩:=hs.told q hq;obtain⟨u,hu,-⟩:=r2 _ _ _ ht;exact⟨u,hu⟩
   ·rw[List.mem_singleton.1 hq];exact⟨_,by rw[a5N ho,if_pos ⟨rfl,rfl⟩]⟩
  ·unfold S9;have h1:=b9q l ho (X3 l o p.2.2);have h2:=h.raise_rk (o:=o) (t:=p.2.2) (fun x e=>by subst e;exact(hs.snd.snd _ _ _ ho).1) hv.ok e;simp only[List.length_append,List.length_cons,List.length_nil];omega
  ·rw[a5N ho];by_cases e2:p.1=a∧p.2.1=j
   ·exact .inr (List.mem_append_right _ (by rw[←e2.1,←e2.2];simp))
   ·rw[if_neg e2];exact .inl rfl
  ·rw[a4G _ _ _ _ _ (a2c ho).1];split
   ·rename_i e3;subst e3;simp
   ·rfl
theorem B9.psGone_up(h:B9 l)(hw:o4 l)(hc:R0 l m)(hi:∀i∈m.code,P0 i)(hh:a0w l m){s':Ps}(hs:M7 l c m s)(hs':M7 l c m s')(hu:a1L l s s'){cur:Option (Nat×Nat×Ty)}(hg:a0k l m s cur):a0k l m s' cur:=by
 intro a ht hr j t ht2;rcases hu.same a j with e|e
 ·rw[e]at ht2;rcases hg a ht hr j t ht2 with h1|h1|h1
  ·exact .inl (hu.ris _ h1)
  ·exact .inr (.inl h1)
  ·refine .inr (.inr fun p hp=>h.satS_rises hs.snd hs'.snd hu.up ?_ (h1 p hp))
   have hj:j<m.locals+ht:=by
    have:=(a2c ht2).2;rw[hs.snd.shape a ht hr]at this;exact this
   exact(h.flow_comes hw hc hi hh hr hj (hs.snd.snd _ _ _ ht2).1 (hs.snd.snd _ _ _ ht2).2 p hp).ok
 ·exact .inl e
theorem B9.psRaises_ok(h:B9 l):∀(ps:List (Nat×Nat×Ty)) {s:Ps},M7 l c m s→(∀p∈ps,a0D l c m p)→
 M7 l c m (ps.foldl (N0 l) s)∧a1L l s (ps.foldl (N0 l) s)∧∀p∈ps,U6 l (ps.foldl (N0 l) s).ts p
 | [],s,hs,_=>⟨hs,a1L.refl l s,fun _ hp=>by cases hp⟩
 |p::ps,s,hs,hv=>by
  obtain⟨h1,h2,h3⟩:=h.psRaise_ok hs (hv p List.mem_cons_self);obtain⟨k1,k2,k3⟩:=h.psRaises_ok ps h1 (fun q hq=>hv q (List.mem_cons_of_mem _ hq));refine⟨k1,h.psUp_trans hs h1 k1 h2 k2,fun q hq=> ?_⟩;rcases List.mem_cons.1 hq with e|e
  ·rw[e];exact h.satS_rises h1.snd k1.snd k2.up (hv p List.mem_cons_self).ok h3
  ·exact k3 q e
def x9(s:Ps):Ps:={s with ris:=s.ris.dropLast}
theorem b1J(hs:M7 l c m s):M7 l c m (x9 s):=⟨hs.snd,fun p hp=>hs.told p (List.dropLast_subset _ hp)⟩
theorem a8T(l:List Cl)(h:s.ris≠ []):S9 l (x9 s)<S9 l s:=by
 unfold S9 x9;have:=List.length_pos_iff.2 h;simp only[List.length_dropLast];omega
variable {a:Nat}
theorem B9.psFlow(h:B9 l)(hw:o4 l)(hc:R0 l m)(hi:∀i∈m.code,P0 i)(hh:a0w l m)(hs:M7 l c m s)(hg:a0k l m s none){xs:List (Nat×Nat)}{j:Nat}(hw2:s.ris=xs++ [(a,j)]){ht:Nat}(hr:F9 l m a ht){t:Ty}(htq:tq s.ts a j=some (some t)):
 M7 l c m ((R7 l m a (E4 l m a ht) j t).foldl (N0 l) (x9 s))∧a1L l (x9 s) ((R7 l m a (E4 l m a ht) j t).foldl (N0 l) (x9 s))∧a0k l m ((R7 l m a (E4 l m a ht) j t).foldl (N0 l) (x9 s)) none∧S9 l ((R7 l m a (E4 l m a ht) j t).foldl (N0 l) (x9 s))<S9 l s:=by
 have hj:j<m.locals+ht:=by
  have:=(a2c htq).2;rw[hs.snd.shape a ht hr]at this;exact this
 have hp:=b1J hs;have hcm:=h.flow_comes hw hc hi hh hr hj (hs.snd.snd _ _ _ htq).1 (hs.snd.snd _ _ _ htq).2;obtain⟨k1,k2,k3⟩:=h.psRaises_ok (R7 l m a (E4 l m a ht) j t) hp hcm
 have hg0:a0k l m (x9 s) (some (a,j,t)):=by
  intro b hb hrb k u hu;rcases hg b hb hrb k u hu with e|e|e
  ·rw[hw2]at e;rcases List.mem_append.1 e with e|e
   ·refine .inl ?_;unfold x9;rw[hw2];simpa using e
   ·have e:=List.mem_singleton.1 e;injection e with e1 e2
    subst e1 e2;have hu2:tq s.ts b k=some (some u):=hu;rw[htq]at hu2;injection hu2 with hu2;injection hu2 with hu2
    exact .inr (.inl (by rw[hu2]))
  ·cases e
  ·exact .inr (.inr e)
 have hg1:=h.psGone_up hw hc hi hh hp k1 k2 hg0;refine⟨k1,k2,fun b hb hrb k u hu=> ?_,Nat.lt_of_le_of_lt k2.mu (a8T l (by rw[hw2];simp))⟩;rcases hg1 b hb hrb k u hu with e|e|e
 ·exact .inl e
 ·injection e with e;injection e with e1 e;injection e with e2 e3
  subst e1 e2 e3;refine .inr (.inr fun p hp2=>k3 p ?_);have hhh:=hh.one _ _ _ hrb hr;subst hhh;exact hp2
 ·exact .inr (.inr e)
def K4(m:Me)(ht:Nat→Option Nat):Ps:={ts:=(List.range m.code.length).map fun a=>match ht a with|none=> []|some h=>List.replicate (m.locals+h) none,ris:=[]}
theorem a3V(m:Me)(ht:Nat→Option Nat)(ha:a<m.code.length):(K4 m ht).ts.getD a []=match ht a with|none=> []|some h=>List.replicate (m.locals+h) none:=by
 unfold K4;simp[ha]
theorem b3b(m:Me)(ht:Nat→Option Nat)(a j:Nat)(t:Ty):tq (K4 m ht).ts a j≠some (some t):=by
 intro e;unfold tq at e;by_cases ha:a<m.code.length
 ·rw[a3V m ht ha]at e;cases hh:ht a with
  |none=>rw[hh]at e;simp at e
  |some h=>
   rw[hh]at e;simp[List.getElem?_replicate]at e
 ·have:(K4 m ht).ts.getD a []=[]:=by unfold K4;simp[Nat.le_of_not_lt ha]
  rw[this]at e;simp at e
variable {ht:Nat→Option Nat}
theorem c2g(hc:R0 l m)(hi:∀i∈m.code,P0 i)(hht:∀a h,a<m.code.length→(ht a=some h↔F9 l m a h)):M7 l c m (K4 m ht):=by
 refine⟨⟨by simp[K4],fun a h hr=> ?_,fun a hn=> ?_,fun a j t e=>absurd e (b3b m ht a j t)⟩,fun p hp=>by cases hp⟩
 ·have hin:=a1V hc hi hr;rw[a3V m ht hin.1,(hht a h hin.1).2 hr];simp
 ·by_cases ha:a<m.code.length
  ·rw[a3V m ht ha];cases e:ht a with
   |none=>rfl
   |some h=>exact absurd ((hht a h ha).1 e) (hn h)
  ·unfold K4;simp[Nat.le_of_not_lt ha]
theorem b9p(l:List Cl)(m:Me)(ht:Nat→Option Nat):a0k l m (K4 m ht) none:=fun a _ _ j t e=>absurd e (b3b m ht a j t)
theorem c2h(l:List Cl)(m:Me)(hb:∀a h,ht a=some h→h≤m.stack):S9 l (K4 m ht)≤2*(m.code.length*((m.locals+m.stack)*(l.length+2))):=by
 have key:∀rs:S7,(∀r∈rs,(r.map (rkO l)).sum≤(m.locals+m.stack)*(l.length+2))→a4i l rs≤rs.length*((m.locals+m.stack)*(l.length+2)):=by
  intro rs;induction rs with
  |nil=>intro _;simp[a4i]
  |cons r rs ih=>
   intro h;have h1:=h r List.mem_cons_self;have h2:=ih fun x hx=>h x (List.mem_cons_of_mem _ hx)
   unfold a4i at h2⊢;rw[List.map_cons,List.sum_cons,List.length_cons,Nat.succ_mul];omega
 have h2:=key (K4 m ht).ts (fun r hr=>by
  unfold K4 at hr;obtain⟨a,ha,rfl⟩:=List.mem_map.1 hr;cases e:ht a with
  |none=>simp
  |some h=>
   dsimp only;rw[List.map_replicate,List.sum_replicate_nat];exact Nat.mul_le_mul (by have:=hb a h e;omega) (Nat.le_refl _))
 have h3:(K4 m ht).ts.length=m.code.length:=by simp[K4]
 rw[h3]at h2;unfold S9;have:(K4 m ht).ris.length=0:=rfl;omega
theorem B9.psGone_all(h:B9 l)(hw:o4 l)(hc:R0 l m)(hi:∀i∈m.code,P0 i)(hh:a0w l m)(hs:M7 l c m s)(hg:a0k l m s none)(ps:List (Nat×Nat×Ty))(hv:∀p∈ps,a0D l c m p):a0k l m (ps.foldl (N0 l) s) none:=by
 obtain⟨k1,k2,-⟩:=h.psRaises_ok ps hs hv;exact h.psGone_up hw hc hi hh hs k1 k2 hg
def P2(c:ByteArray)(m:Me):List (Nat×Nat×Ty):=(List.range m.locals).map fun j=>(0,j,(a1n c m).getD j B1)
theorem B9.ent_comes(h:B9 l)(hc:R0 l m)(hcl:G3 l c=true)(hp:∀p∈m.params,D6 l p):∀p∈P2 c m,a0D l c m p:=by
 intro p hp2;obtain⟨j,hj,rfl⟩:=List.mem_map.1 hp2;have hj:=List.mem_range.1 hj;refine⟨⟨0,(a3d l m).1,by simpa using hj⟩,V7 (h.entry_ok hcl hp) j,fun S hS=> ?_⟩;exact hS.entry.2 j (by rw[a8K hc];exact hj)
theorem B9.ps_end(h:B9 l)(hw:o4 l)(hc:R0 l m)(hi:∀i∈m.code,P0 i)(hh:a0w l m)(hs:M7 l c m s)(hg:a0k l m s none)(hr0:s.ris=[])
 (hent:∀p∈P2 c m,U6 l s.ts p) (hfix:∀a ht,F9 l m a ht→∀p∈P6 l m a (E4 l m a ht),U6 l s.ts p):
 a4S l c m (N1 s.ts)∧∀a ht,F9 l m a ht→∀j,j<m.locals+ht→∃t,tq s.ts a j=some (some t):=by
 refine h.typing_ofS hw hc hi hh hs.snd (fun j hj=>hent _ (List.mem_map.2 ⟨j,List.mem_range.2 hj,rfl⟩)) hfix fun a ht hr j t ht2 p hp=> ?_
 rcases hg a ht hr j t ht2 with e|e|e
 ·rw[hr0]at e;cases e
 ·cases e
 ·exact e p hp
def V2(l:List Cl)(c:ByteArray)(m:Me)(e at_:Nat):Prop:=
 match l7 l m with
 |some a=>e=13∧at_=a
 |none=>∃f,a7l l m f∧match f with
  |some a=>e=14∧at_=a
  |none=>∃T,a4S l c m T∧((∃h,e=15∧at_<m.code.length∧F9 l m at_ h∧U1 l m (A6 m at_) ((T at_).drop m.locals) ((T at_).take m.locals)=false∧∀b k,b<at_→F9 l m b k→U1 l m (A6 m b) ((T b).drop m.locals) ((T b).take m.locals)=true)∨
   (e=0∧at_=0∧∀b k,F9 l m b k→U1 l m (A6 m b) ((T b).drop m.locals) ((T b).take m.locals)=true))
end Cf
namespace Cf
section
variable{L:List Cl}{s s':Ms}{u:Wd}{t:Nat}{n:Nat}{c:ByteArray}{v:Int}{f g:Fm}{fs gs:List Fm}{i:In}{m:Me}
theorem b9c(hL:LOk L)(hm:D6 L m.ret)(hi:i.op<32)(hn:R4 L m i=true):N9 L (F6 L m i):=by
 have hO:=b3B hL.wld;have hI:D6 L ⟨3,C5⟩:=c2j
 have hT:D6 L (D7 U0):=by
  obtain⟨fs,e⟩:=hL.wld.base;exact a7m (j:=1) (by rw[e];exact a5G (by decide+kernel))
 have h1:∀x:Ty,D6 L x→N9 L [x]:=fun x hx y hy=>by rw[List.mem_singleton.1 hy];exact hx
 have hcons:∀(x:Ty) (l:List Ty),D6 L x→N9 L l→N9 L (x::l):=fun x l hx hl y hy=>by
  rcases List.mem_cons.1 hy with rfl|hy
  ·exact hx
  ·exact hl y hy
 have hfld:i.op=17∨i.op=18→D6 L (D7 i.cls)∧D6 L (a3v L i):=fun ho=>by
  unfold R4 at hn;rw[if_neg (by omega),if_neg (by omega),if_neg (by omega),if_pos ho]at hn;obtain⟨p,hp⟩:=Option.isSome_iff_exists.1 hn;obtain⟨j,hj⟩:=b5Y hL.wld hp;exact⟨a7m hj,(hL.wld.field_ok hL.tyw hn).1⟩
 have hcall:i.op=19→D6 L (D7 i.cls)∧N9 L (a0V L i).params:=fun e=>by
  unfold R4 at hn;rw[if_neg (by omega),if_neg (by omega),if_neg (by omega),if_neg (by omega),if_pos e]at hn;obtain⟨k,hk,hmem⟩:=hL.wld.called_in hn;obtain⟨p0,hp0⟩:=Option.isSome_iff_exists.1 hn
  obtain⟨j,hj⟩:∃j,C3 L i.cls=some j:=by
   cases hf:C3 L i.cls with
   |none=>rw[hL.wld.methAt_none hf]at hp0;cases hp0
   |some j=>exact⟨j,rfl⟩
  exact⟨a7m hj,fun x hx=>((hL.tyw.meths k hk _ hmem).2.2.1 x hx).1⟩
 have hret:N9 L (a1i m.ret):=by
  unfold a1i;split
  ·intro x hx;cases hx
  ·exact h1 _ hm
 have h0:N9 L []:=fun x hx=>by cases hx
 clear hn;obtain⟨op,a,cs,ms⟩:=i;simp only at hi hfld hcall;rcases c3e hi with rfl|rfl|rfl|rfl|rfl|rfl|rfl|rfl|rfl|rfl|rfl|rfl|rfl|rfl|rfl|rfl|rfl|rfl|rfl|rfl|rfl|rfl|rfl|rfl|rfl|rfl|rfl|rfl|rfl|rfl|rfl|rfl
 ·exact h0
 ·exact h0
 ·exact h0
 ·exact h1 _ a1y
 ·exact h1 _ a1y
 ·exact h1 _ a1y
 ·exact hcons _ _ a1y (h1 _ a1y)
 ·exact hcons _ _ X6 (h1 _ X6)
 ·exact hcons _ _ X6 (h1 _ X6)
 ·exact hcons _ _ X6 (h1 _ X6)
 ·exact hcons _ _ X6 (h1 _ X6)
 ·exact hcons _ _ X6 (h1 _ X6)
 ·exact h0
 ·exact h1 _ X6
 ·exact hcons _ _ X6 (h1 _ X6)
 ·exact hcons _ _ hO (h1 _ hO)
 ·exact h0
 ·exact h1 _ (hfld (.inl rfl)).1
 ·exact hcons _ _ (hfld (.inr rfl)).1 (h1 _ (hfld (.inr rfl)).2)
 ·exact hcons _ _ (hcall rfl).1 (hcall rfl).2
 ·exact hret
 ·exact h1 _ X6
 ·exact h1 _ X6
 ·exact h1 _ hO
 ·exact hcons _ _ hI (h1 _ X6)
 ·exact hcons _ _ hI (hcons _ _ X6 (h1 _ X6))
 ·exact hcons _ _ hO (h1 _ X6)
 ·exact hcons _ _ hO (hcons _ _ X6 (h1 _ hO))
 ·exact h1 _ hO
 ·exact h1 _ hO
 ·exact h1 _ hT
 ·exact h1 _ X6
theorem a4w:∀{a b:List Ty},(∀j,j<a.length→j<b.length→D4 L (a.getD j B1) (b.getD j B1)=true)→Z1 L a b=true
 | [],_,_=>by unfold Z1;rfl
 |_::_,[],_=>by unfold Z1;rfl
 |a::xs,b::bs,h=>by
  unfold Z1;refine Bool.and_eq_true_iff.2 ⟨h 0 (Nat.zero_lt_succ _) (Nat.zero_lt_succ _),a4w fun j h1 h2=> ?_⟩;have:=h (j+1) (by simpa using h1) (by simpa using h2);simpa using this
theorem a6G{a b:Ty}(ha:D6 L a)(hb:D6 L b)(h:D4 L a b=true)(h0:a.kind=0):b.kind=0:=by
 rw[a0h ha hb]at h;rcases h with e|e|⟨e,-⟩|⟨e,-⟩|⟨e,-⟩
 ·rw[←e];exact h0
 ·rw[e];rfl
 all_goals omega
theorem b6e(hW:B9 L){A B:List Ty}(oA:N9 L A)(oB:N9 L B)(hA:a0X L A B)(h23:i.op=23→D4 L (B.getD 0 B1) (D7 F2)=true)(h:O6 L i B=true):O6 L i A=true:=by
 have a0:=V7 oA 0;have b0:=V7 oB 0;have u0:=a6X hA 0;have a2:=V7 oA 2;have b2:=V7 oB 2;have u2:=a6X hA 2;unfold O6 at h⊢;generalize A.getD 0 B1=x0 at*
 generalize B.getD 0 B1=y0 at*
 generalize A.getD 2 B1=x2 at*
 generalize B.getD 2 B1=y2 at*
 have hel:∀e,a2L y0=some e→(x0=y0∨x0.kind=5):=fun e he=>by
  rw[a0h a0 b0]at u0
  have hk:y0.kind=4∨y0.kind=5:=by
   unfold a2L at he;split at he
   ·exact .inl (by assumption)
   ·split at he
    ·exact .inr (by assumption)
    ·cases he
  rcases u0 with h1|h1|⟨h1,-⟩|⟨-,h1,-⟩|⟨-,h1⟩
  ·exact .inl h1
  ·have:y0.kind=0:=by rw[h1];rfl
   omega
  ·exact .inr h1
  ·omega
  ·have:y0.kind=2:=by rw[h1];rfl
   omega
 by_cases e3:i.op=3
 ·rw[if_pos e3]at h⊢;have h:=of_decide_eq_true h;exact decide_eq_true fun e0=>h (a6G a0 b0 u0 e0)
 rw[if_neg e3]at h⊢;by_cases e23:i.op=23
 ·rw[if_pos e23]at h⊢;have h:=of_decide_eq_true h;refine decide_eq_true fun e0=>h ?_
  have:=h23 e23;rw[a0h b0 (b3B hW)]at this;rw[a0h a0 b0]at u0;rcases u0 with h1|h1|⟨h1,-⟩|⟨-,h1,-⟩|⟨h1,-⟩
  ·rw[←h1];exact e0
  ·rw[h1]at this;simp[B1,D7]at this
  ·omega
  ·exact h1
  ·omega
 rw[if_neg e23]at h⊢;by_cases e26:i.op=26
 ·rw[if_pos e26]at h⊢;obtain⟨e,he⟩:=Option.isSome_iff_exists.1 h;rcases hel e he with rfl|h5
  ·exact h
  ·unfold a2L;rw[if_neg (by omega),if_pos h5];rfl
 rw[if_neg e26]at h⊢;by_cases e27:i.op=27
 ·rw[if_pos e27]at h⊢;cases he:a2L y0 with
  |none=>rw[he]at h;cases h
  |some e=>
   rw[he]at h;rcases hel e he with rfl|h5
   ·rw[he];simp only[Bool.or_eq_true,decide_eq_true_eq]at h⊢;rcases h with h|h
    ·exact .inl h
    ·refine .inr (hW.under_trans a2 b2 ?_ u2 h);unfold a2L at he;split at he
     ·rename_i h4;cases he;have:=b0.2;rw[if_pos (.inr h4)]at this;obtain⟨j,hj⟩:=this;exact a7m hj
     ·split at he
      ·cases he;exact c2i
      ·cases he
   ·have:a2L x0=some a1q:=by unfold a2L;rw[if_neg (by omega),if_pos h5]
    rw[this];rfl
 rw[if_neg e27]
theorem b8v(hW:B9 L){A B ls ms:List Ty}(oA:N9 L A)(oB:N9 L B)(ol:N9 L ls)(om:N9 L ms)(hA:a0X L A B)(hl:a0X L ls ms)(ht:N9 L (F6 L m i))(h:U1 L m i B ms=true):U1 L m i A ls=true:=by
 unfold U1 at h⊢;rw[hA.1];simp only[Bool.and_eq_true]at h⊢;refine⟨h.1,?_⟩;have hr:=h.1;have h:=h.2;split
 ·rename_i e2;rw[if_pos e2]at h;have h:=of_decide_eq_true h;refine decide_eq_true fun e0=>h ?_
  exact a6G (V7 ol _) (V7 om _) (a6X hl _) e0
 ·rename_i e2;rw[if_neg e2]at h;simp only[Bool.and_eq_true]at h⊢;have hT:a0X L (a2d L m i A) (a2d L m i B):=by unfold a2d;rw[hA.1];exact b0Q hA _
  have oTA:N9 L (a2d L m i A):=fun x hx=>oA x (List.mem_of_mem_drop hx)
  have oTB:N9 L (a2d L m i B):=fun x hx=>oB x (List.mem_of_mem_drop hx)
  refine⟨a4w fun j h1 h2=>hW.under_trans (V7 oTA _) (V7 oTB _) (V7 ht _) (a6X hT _) (a8b h.1 j (by rw[←hT.1];exact h1) h2),b6e hW oTA oTB hT (fun e=> ?_) h.2⟩
  have e1:F6 L m i=[D7 F2]:=by
   unfold F6;rw[if_neg (by omega),if_neg (by omega),if_neg (by omega),if_neg (by omega),if_neg (by omega),if_neg (by omega),if_neg (by omega),if_neg (by omega),if_neg (by omega),if_pos (.inl e)]
  have hn:G8 L m i=1:=by unfold G8;rw[e1];rfl
  unfold a7z at hr;simp only[Bool.and_eq_true,decide_eq_true_eq,hn]at hr;have:=a8b h.1 0 (by unfold a2d;rw[List.length_drop,hn];omega) (by rw[e1];exact Nat.zero_lt_one);rw[e1]at this;exact this
end
end Cf
namespace Cf
section
variable{L:List Cl}{s s':Ms}{u:Wd}{t:Nat}{n k:Nat}{c:ByteArray}{v:Int}{f g:Fm}{fs gs:List Fm}{i:In}{m:Me}{T:Nat→List Ty}
structure c4K(L:List Cl)(c:ByteArray)(m:Me)(T:Nat→List Ty):Prop where
 code:R0 L m
 hts:a0w L m
 typ:a4S L c m T
 fits:∀b k,F9 L m b k→U1 L m (A6 m b) ((T b).drop m.locals) ((T b).take m.locals)=true
def a3r(L:List Cl):Prop:=∀i,i<L.length→∀m∈(cl L i).methods,∃T,c4K L (cl L i).name m T
end
end Cf
namespace Cf
section
variable{L:List Cl}{s s':Ms}{u:Wd}{t:Nat}{n k:Nat}{c cls mem:ByteArray}{v:Int}{f g:Fm}{fs gs:List Fm}{i:In}{m:Me}{p:Nat×Nat}{args:List Int}{room:Nat}
end
end Cf
namespace Kx
variable {P:Program}
variable {w:World}
variable {o:Oper}
variable {a:Act}
variable {K:Act→World→Prop}
variable {Q:Exit→Act→World→Prop}
theorem b0a(s x:Operand)(t:TypeId)
 (ho:o.op= .call {callee:= .builtin .append,args:= #[s,x],argTypes:= #[t,t]})
 (base:Nat) (e:TypeId) (i:TypeInfo) (z:Value) (size bytes:Nat) (ht:P.underlying t=some (.slice e)) (hi:P.info? e=some i) (hz:i.zero=some z)
 (hsize:i.size=size) (hby:i.bytes=bytes) (hzs:z.cells.size=size) (hsz:0<size)
 (v0:Option Addr) (n k0:Nat) (xs:List Value) (hs:a.eval s= .slice v0 n k0) (hown:w.ownsRow base e size (.slice v0 n k0) n xs)
 (oa:Option Addr) (m c:Nat) (news:List Value) (hx:a.eval x= .slice oa m c) (hl:news.length=m*size) (hnews:∀j u,news[j]? =some u→∃ad,oa=some ad∧w.cell? (ad.add j)=some u) (h1:∀u∈news,u.oneCell'=true)
 (h63:n+m≤maxLen) (hbytes:(n+m)*bytes≤140737488355328) (hbase:base≤w.heap.size)
 (h:∀a' cap w',w'.ownsRow base e size (.slice a' (n+m) cap) (n+m) (xs++news)→w.grownBy w' (Value.slice v0 n k0).ownBlock→(∀p,a'=some p→(∃q,v0=some q∧q.block=p.block)∨w.heap.size≤p.block)→K (a.put o.dst (.slice a' (n+m) cap)) w'):o.wp P a w K Q:=by
 by_cases hm:m=0
 ·subst hm
  have hnil:news=[]:=by
   apply List.eq_nil_of_length_eq_zero;omega
  subst hnil
  have hle:n≤k0:=by
   rcases hown.2 with⟨h2,h3⟩|⟨g,cap,cur,hv,_,_,hc,_⟩
   ·injection h2 with _ _ h4;omega
   ·injection hv with _ h5 h4;omega
  have hsrc:Src P i.size t (.slice oa 0 c) 0 [] w:=by
   cases oa with
   |none=>exact Src.ofNil w ht c
   |some ad=>exact Src.ofSlice w ht ad 0 c [] (by simp) (fun j u hu=>by cases hu) (fun u hu=>by cases hu)
  have hr:=run_append_nothing (P:=P) w t t o.type e i ht hi v0 n k0 hle (.slice oa 0 c) hsrc;unfold Oper.wp execOp;simp only[ho,resolve,invoke,builtin,Sem.run_bind,Sem.run_pure,Result.andThen_ok,List.map_toArray,List.map_cons,List.map_nil,hs,hx,hr];exact h v0 k0 w (by simpa using hown) (I8 _ _) (fun p e=> .inl ⟨p,e,rfl⟩)
 ·obtain⟨ad,rfl⟩:∃ad,oa=some ad:=by
   have:0<news.length:=by rw[hl];exact Nat.mul_pos (by omega) hsz
   obtain⟨ad,h2,_⟩:=hnews 0 news[0] (by simp[this]);exact⟨ad,h2⟩
  exact wp_append_lies w s x t ho base e i z size bytes ht hi hz hsize hby hzs hsz _ n xs hs hown ad m c news hx hl (fun j u hu=>by
   obtain⟨ad',h2,h3⟩:=hnews j u hu;cases h2;exact h3) h1 (by omega) h63 hbytes hbase w.heap.size rfl (fun g cap w' g1 g2 g3 _=>h _ cap w' g1 g2 (fun p e=>by
   cases e;rcases g3 with g3|g3
   ·cases v0 with
    |none=>simp[Value.ownBlock]at g3
    |some q=>exact .inl ⟨q,rfl,by simpa[Value.ownBlock]using g3⟩
   ·exact .inr (by show w.heap.size≤g;omega)))
theorem b4w(s x:Operand)(t:TypeId)
 (ho:o.op= .call {callee:= .builtin .append,args:= #[s,x],argTypes:= #[t,t]})
 (base:Nat) (e:TypeId) (i:TypeInfo) (z:Value) (size bytes:Nat) (ht:P.underlying t=some (.slice e)) (hi:P.info? e=some i) (hz:i.zero=some z)
 (hsize:i.size=size) (hby:i.bytes=bytes) (hzs:z.cells.size=size) (hsz:0<size)
 (v0:Option Addr) (n k0:Nat) (xs:List Value) (hs:a.eval s= .slice v0 n k0) (hown:w.ownsRow base e size (.slice v0 n k0) n xs)
 (oa:Option Addr) (m c:Nat) (news:List Value) (hx:a.eval x= .slice oa m c) (hl:news.length=m*size) (hnews:∀j u,news[j]? =some u→∃ad,oa=some ad∧w.cell? (ad.add j)=some u) (h1:∀u∈news,u.oneCell'=true)
 (h63:n+m≤maxLen) (hbytes:(n+m)*bytes≤140737488355328) (hbase:base≤w.heap.size)
 (h:∀a' cap w',w'.ownsRow base e size (.slice a' (n+m) cap) (n+m) (xs++news)→w.grownBy w' (Value.slice v0 n k0).ownBlock→K (a.put o.dst (.slice a' (n+m) cap)) w'):o.wp P a w K Q:=
 b0a s x t ho base e i z size bytes ht hi hz hsize hby hzs hsz v0 n k0 xs hs hown oa m c news hx hl hnews h1 h63 hbytes hbase fun a1 cap w1 h2 h3 _=>h a1 cap w1 h2 h3
variable {ops:Array Oper}
variable {rest:List Oper}
theorem a7U(hgd:o.guard=none)(s x:Operand)(t:TypeId)
 (ho:o.op= .call {callee:= .builtin .append,args:= #[s,x],argTypes:= #[t,t]})
 (base:Nat) (e:TypeId) (i:TypeInfo) (z:Value) (size bytes:Nat) (ht:P.underlying t=some (.slice e)) (hi:P.info? e=some i) (hz:i.zero=some z)
 (hsize:i.size=size) (hby:i.bytes=bytes) (hzs:z.cells.size=size) (hsz:0<size)
 (v0:Option Addr) (n k0:Nat) (xs:List Value) (hs:a.eval s= .slice v0 n k0) (hown:w.ownsRow base e size (.slice v0 n k0) n xs)
 (oa:Option Addr) (m c:Nat) (news:List Value) (hx:a.eval x= .slice oa m c) (hl:news.length=m*size) (hnews:∀j u,news[j]? =some u→∃ad,oa=some ad∧w.cell? (ad.add j)=some u) (h1:∀u∈news,u.oneCell'=true)
 (h63:n+m≤maxLen) (hbytes:(n+m)*bytes≤140737488355328) (hbase:base≤w.heap.size)
 (h:∀a' cap w',w'.ownsRow base e size (.slice a' (n+m) cap) (n+m) (xs++news)→w.grownBy w' (Value.slice v0 n k0).ownBlock→wpList P ops Q rest (a.put o.dst (.slice a' (n+m) cap)) w'):
 wpList P ops Q (o::rest) a w:=
 wpList_plain hgd fun _ hK=>b4w s x t ho base e i z size bytes ht hi hz hsize hby hzs hsz v0 n k0 xs hs hown oa m c news hx hl hnews h1 h63 hbytes hbase fun g cap w' h2 h3=>hK _ _ (h g cap w' h2 h3)
theorem a4s(hgd:o.guard=none)(s x:Operand)(t:TypeId)
 (ho:o.op= .call {callee:= .builtin .append,args:= #[s,x],argTypes:= #[t,t]})
 (base:Nat) (e:TypeId) (i:TypeInfo) (z:Value) (size bytes:Nat) (ht:P.underlying t=some (.slice e)) (hi:P.info? e=some i) (hz:i.zero=some z)
 (hsize:i.size=size) (hby:i.bytes=bytes) (hzs:z.cells.size=size) (hsz:0<size)
 (v0:Option Addr) (n k0:Nat) (xs:List Value) (hs:a.eval s= .slice v0 n k0) (hown:w.ownsRow base e size (.slice v0 n k0) n xs)
 (oa:Option Addr) (m c:Nat) (news:List Value) (hx:a.eval x= .slice oa m c) (hl:news.length=m*size) (hnews:∀j u,news[j]? =some u→∃ad,oa=some ad∧w.cell? (ad.add j)=some u) (h1:∀u∈news,u.oneCell'=true)
 (h63:n+m≤maxLen) (hbytes:(n+m)*bytes≤140737488355328) (hbase:base≤w.heap.size)
 (h:∀a' cap w',w'.ownsRow base e size (.slice a' (n+m) cap) (n+m) (xs++news)→w.grownBy w' (Value.slice v0 n k0).ownBlock→(∀p,a'=some p→(∃q,v0=some q∧q.block=p.block)∨w.heap.size≤p.block)→wpList P ops Q rest (a.put o.dst (.slice a' (n+m) cap)) w'):
 wpList P ops Q (o::rest) a w:=
 wpList_plain hgd fun _ hK=>b0a s x t ho base e i z size bytes ht hi hz hsize hby hzs hsz v0 n k0 xs hs hown oa m c news hx hl hnews h1 h63 hbytes hbase fun g cap w' h2 h3 h4=>hK _ _ (h g cap w' h2 h3 h4)
abbrev DK:=DataW Unit
abbrev Ky:=List UInt8
def O7(s:ByteArray):Ky:=s.data.toList
theorem b8k{s t:ByteArray}(h:O7 s=O7 t):s=t:=ByteArray.ext (Array.toList_inj.1 h)
def L9(c n:ByteArray):Ky:=keyBytes [.string c.data.toList, .string n.data.toList]
theorem b2Y{a b:Ky}(h:a≠b):Lit.string a≠Lit.string b:=fun e=>h (by injection e)
def G0(D:DK)(p:Ky×Nat):DK:=if Maps.has D (.string p.1)then D else D.put (.string p.1) (.lit (.int .i64 p.2))
def O2(l:List (Ky×Nat)):DK:=l.foldl G0 (.map [])
def K5(l:List (Ky×Nat))(k:Ky):Option Nat:=(l.find? fun p=>decide (p.1=k)).map (·.2)
structure a4T(l:List (Ky×Nat))(D:DK):Prop where
 tidy:Maps.Tidy D
 has:∀k,Maps.has D (.string k)=(K5 l k).isSome
 at_:∀k,D.atKey (.string k) (.lit (.int .i64 0))= .lit (.int .i64 ((K5 l k).getD 0))
theorem a3c(l m:List (Ky×Nat))(k:Ky):K5 (l++m) k=(K5 l k).or (K5 m k):=by
 unfold K5;rw[List.find?_append];cases l.find? (fun p=>decide (p.1=k))<;>simp
theorem a5y(p:Ky×Nat)(k:Ky):K5 [p] k=if p.1=k then some p.2 else none:=by
 unfold K5;by_cases h:p.1=k<;>simp[h]
theorem a4T.step{l:List (Ky×Nat)}{D:DK}(h:a4T l D)(p:Ky×Nat):a4T (l++ [p]) (G0 D p):=by
 have hk:WideAt.IsKeyLit (.string p.1):=trivial;unfold G0;by_cases hh:Maps.has D (.string p.1)=true
 ·rw[if_pos hh];have hs:(K5 l p.1).isSome=true:=by rw[←h.has];exact hh
  have e:∀k,K5 (l++ [p]) k=K5 l k:=by
   intro k;rw[a3c,a5y];by_cases e:p.1=k
   ·rw[←e];cases hq:K5 l p.1 with
    |none=>rw[hq]at hs;cases hs
    |some a=>rfl
   ·rw[if_neg e];cases K5 l k<;>rfl
  exact⟨h.tidy,fun k=>by rw[e,h.has],fun k=>by rw[e,h.at_]⟩
 ·rw[if_neg hh]
  have hn:K5 l p.1=none:=by
   cases hq:K5 l p.1 with
   |none=>rfl
   |some a=>exact absurd (by rw[h.has,hq];rfl) hh
  refine⟨h.tidy.put hk _,fun k=> ?_,fun k=> ?_⟩
  ·rw[a3c,a5y];by_cases e:k=p.1
   ·subst e;rw[Maps.has_put_same h.tidy.isMap hk,hn];simp
   ·rw[Maps.has_put_other (b2Y e),h.has,if_neg (fun e'=>e e'.symm)];cases K5 l k<;>rfl
  ·rw[a3c,a5y];by_cases e:k=p.1
   ·subst e;rw[Maps.atKey_put_same h.tidy.isMap hk,hn];simp
   ·rw[Maps.atKey_put_other (b2Y e),h.at_,if_neg (fun e'=>e e'.symm)];cases K5 l k<;>rfl
theorem b0D:∀(m l:List (Ky×Nat)) (D:DK),a4T l D→a4T (l++m) (m.foldl G0 D)
 | [],l,D,h=>by simpa using h
 |p::m,l,D,h=>by
  have:=b0D m (l++ [p]) (G0 D p) (h.step p);simpa using this
theorem a4P(l:List (Ky×Nat)):a4T l (O2 l):=
 b0D l [] (.map []) ⟨Maps.tidy_empty,fun k=>rfl,fun k=>rfl⟩
theorem b8E(l:List (Ky×Nat))(p:Ky×Nat):O2 (l++ [p])=G0 (O2 l) p:=by
 unfold O2;rw[List.foldl_append];rfl
def Y6(L:List Cl):List (Ky×Nat):=(List.range L.length).map fun i=>(O7 (cl L i).name,i)
theorem b0L(L:List Cl)(c:Cl):Y6 (L++ [c])=Y6 L++ [(O7 c.name,L.length)]:=by
 unfold Y6;rw[List.length_append,List.length_singleton,List.range_succ,List.map_append];congr 1
 ·refine List.map_congr_left (fun i hi=> ?_);rw[U8 (List.mem_range.1 hi)]
 ·simp only[List.map_cons,List.map_nil];rw[show cl (L++ [c]) L.length=c from by have:=a6z (l:=L) (m:=[c]) (i:=0);simpa[cl]using this]
theorem b7a(L:List Cl)(c:Cl)(n:ByteArray):C3 (L++ [c]) n=(C3 L n).or (if c.name=n then some L.length else none):=by
 unfold C3;rw[List.findIdx?_append];congr 1
 by_cases h:c.name=n<;>simp[List.findIdx?_cons,h]
theorem b2t(n:ByteArray):∀(m L:List Cl),K5 (Y6 L) (O7 n)=C3 L n→K5 (Y6 (L++m)) (O7 n)=C3 (L++m) n
 | [],L,h=>by simpa using h
 |c::m,L,h=>by
  have:=b2t n m (L++ [c]) (by
   rw[b0L,a3c,a5y,b7a,h];by_cases e:c.name=n
   ·rw[if_pos e,if_pos (by rw[e])]
   ·rw[if_neg (fun e'=>e (b8k e')),if_neg e])
  simpa using this
theorem a8C(L:List Cl)(n:ByteArray):K5 (Y6 L) (O7 n)=C3 L n:=b2t n L [] rfl
def G6(c:Cl)(ns:List ByteArray):List (Ky×Nat):=(List.range ns.length).map fun i=>(L9 c.name (ns.getD i C5),i)
def N3(f:Cl→List ByteArray)(L:List Cl):List (Ky×Nat):=L.flatMap fun c=>G6 c (f c)
theorem b1m(f:Cl→List ByteArray)(L:List Cl)(c:Cl):N3 f (L++ [c])=N3 f L++G6 c (f c):=by
 unfold N3;simp[List.flatMap_append]
def K2(c:Cl):List ByteArray:=c.fields.map (·.name)
def G2(c:Cl):List ByteArray:=c.methods.map (·.name)
theorem c4p:laidOutB prog=true:=by kernel_rfl
theorem Nat.lt_of_ble_eq_true'{a b:Nat}(h:Nat.ble (a+1) b=true):a<b:=Nat.le_of_ble_eq_true h
theorem c4o:WideMaps.KeyLaw prog 255:=deep_law_gate c4p (Nat.le_of_ble_eq_true (by kernel_rfl)) (Nat.lt_of_ble_eq_true' (by kernel_rfl)) (by kernel_rfl) (by kernel_rfl)
theorem a5b:Maps.Keyed prog 255:=Maps.Keyed.of_law c4o
theorem a5a:Maps.Keyed prog 9:=Maps.Keyed.of_law (WideMaps.string_law underlying9)
theorem b9O:prog.keyType 255=true:=by kernel_rfl
theorem b3t:prog.cellsOf 255=2:=by kernel_rfl
theorem c2P:prog.cellsOf 9=1:=by kernel_rfl
theorem c1Y:prog.types.size=(prog.types.size-1)+1:=by kernel_rfl
theorem c2Y:∃d,prog.types.size+1=d+1+1:=⟨prog.types.size-1,congrArg (·+1) c1Y⟩
theorem a3Q(c n:ByteArray)(hc:c.size≤maxLen)(hn:n.size≤maxLen):keyOf prog 255 (.agg #[.string c, .string n])=some (.string (L9 c n)):=by
 obtain⟨d,hd⟩:=c2Y;unfold keyOf;rw[underlying255,b9O];simp only[Value.formed,underlying255,b3t,hd];simp[Program.keyLits,underlying255,underlying9,b3t,c2P,Value.cells,hc,hn,L9]
theorem b1W{c n c' n':ByteArray}(hc:c.size≤maxLen)(hn:n.size≤maxLen)(hc':c'.size≤maxLen)(hn':n'.size≤maxLen)(h:L9 c n=L9 c' n'):c=c'∧n=n':=by
 have h1:=a3Q c n hc hn;have h2:=a3Q c' n' hc' hn';rw[←h]at h2;have:=a5b.inj h1 h2;simp only[Value.agg.injEq,Array.mk.injEq,List.cons.injEq,Value.string.injEq,and_true]at this;exact this
theorem a0y(w:World):(zeroValue 3).run prog w= .ok (.int .i64 0) w:=by kernel_rfl
theorem b7P(w:World)(mb m n:Nat)(D:DK)(s:ByteArray)(hs:Hid (s.size≤maxLen))(hn:n<4611686018427387904)(hm:m<maxLen)(hM:Hid (w.ownsMap (H:=Unit) prog 9 (plainElem prog 3) mb m D)):
 Calls prog 242 #[.map (some mb), .string s, .int .i64 n] w fun e w'=>e= .returned (.tuple #[])∧w'.ownsMap (H:=Unit) prog 9 (plainElem prog 3) mb (m+1) (G0 D (O7 s,n))∧w.grownBy w' (some mb):=by
 have hwf:(Lit.int .i64 (n:Int)).wf=true:=WalkArith.wf_i64 (by omega);cases hh:Maps.has D (.string (O7 s))with
 |true=>
  have HP:Hid (G0 D (O7 s,n)=D):=by unfold Hid G0;rw[if_pos hh]
  have HH:=A0 hh;clear hh hwf;go_enter func242,ntmps242;go_wp2_with (at_lookup;go_loud (refine wpList_lookup_own_ok_int _ rfl _ _ 148 rfl 9 3 .i64 a5a underlying148 underlying3 (a0y _) mb m D rfl hM.out _ (.string (O7 s)) rfl (WideMaps.keyOf_string_mk underlying9 hs.out) ?_);intro x hx hwx;rw[HH.out])
  go_end0;exact⟨rfl,by rw[HP.out];exact hM.out.mono (Nat.le_succ _),I8 _ _⟩
 |false=>
  have HP:Hid (G0 D (O7 s,n)=D.put (.string (O7 s)) (.lit (.int .i64 n))):=by unfold Hid G0;rw[if_neg (by rw[hh];simp)]
  have HH:=A0 hh;have HW:=A0 hwf;clear hh hwf;go_enter func242,ntmps242
  go_wp2_with (first
   |(at_lookup;go_loud (refine wpList_lookup_own_ok_int _ rfl _ _ 148 rfl 9 3 .i64 a5a underlying148 underlying3 (a0y _) mb m D rfl hM.out _ (.string (O7 s)) rfl (WideMaps.keyOf_string_mk underlying9 hs.out) ?_);intro x hx hwx;rw[HH.out])
   |(at_mapUpdate;go_loud (refine wpList_mapUpdate_own _ rfl _ _ _ 148 rfl 9 3 a5a underlying148 _ mb m D rfl hM.out hm _ _ _ rfl rfl (WideMaps.keyOf_string_mk underlying9 hs.out) _ [] (plainElem_int underlying3 HW.out) ?_);intro w1 hown1 hgrow1))
  go_end0;exact⟨rfl,by rw[HP.out];exact hown1,hgrow1⟩
theorem b1j(w:World)(mb m n:Nat)(D:DK)(c s:ByteArray)(hc:Hid (c.size≤maxLen))(hs:Hid (s.size≤maxLen))(hn:n<4611686018427387904)(hm:m<maxLen)(hM:Hid (w.ownsMap (H:=Unit) prog 255 (plainElem prog 3) mb m D)):
 Calls prog 243 #[.map (some mb), .agg #[.string c, .string s], .int .i64 n] w fun e w'=>e= .returned (.tuple #[])∧w'.ownsMap (H:=Unit) prog 255 (plainElem prog 3) mb (m+1) (G0 D (L9 c s,n))∧w.grownBy w' (some mb):=by
 have hwf:(Lit.int .i64 (n:Int)).wf=true:=WalkArith.wf_i64 (by omega);cases hh:Maps.has D (.string (L9 c s))with
 |true=>
  have HP:Hid (G0 D (L9 c s,n)=D):=by unfold Hid G0;rw[if_pos hh]
  have HH:=A0 hh;clear hh hwf;go_enter func243,ntmps243;go_wp2_with (at_lookup;go_loud (refine wpList_lookup_own_ok_int _ rfl _ _ 149 rfl 255 3 .i64 a5b underlying149 underlying3 (a0y _) mb m D rfl (hM.out.alloc _) _ (.string (L9 c s)) rfl (a3Q c s hc.out hs.out) ?_);intro x hx hwx;rw[HH.out])
  go_end0;exact⟨rfl,by rw[HP.out];exact(hM.out.alloc _).mono (Nat.le_succ _),A2 _ _ _⟩
 |false=>
  have HP:Hid (G0 D (L9 c s,n)=D.put (.string (L9 c s)) (.lit (.int .i64 n))):=by unfold Hid G0;rw[if_neg (by rw[hh];simp)]
  have HH:=A0 hh;have HW:=A0 hwf;clear hh hwf;go_enter func243,ntmps243
  go_wp2_with (first
   |(at_lookup;go_loud (refine wpList_lookup_own_ok_int _ rfl _ _ 149 rfl 255 3 .i64 a5b underlying149 underlying3 (a0y _) mb m D rfl (hM.out.alloc _) _ (.string (L9 c s)) rfl (a3Q c s hc.out hs.out) ?_);intro x hx hwx;rw[HH.out])
   |(at_mapUpdate;go_loud (refine wpList_mapUpdate_own _ rfl _ _ _ 149 rfl 255 3 a5b underlying149 _ mb m D rfl (hM.out.alloc _) hm _ _ _ rfl rfl (a3Q c s hc.out hs.out) _ [] (plainElem_int underlying3 HW.out) ?_);intro w1 hown1 hgrow1))
  go_end0;exact⟨rfl,by rw[HP.out];exact hown1,A1 (A2 _ _ _) hgrow1⟩
open Go.RowKit Go.Shelf Cf
structure Qs where
 fa:Option Addr
 fk:Nat
 ma:Option Addr
 mc:Nat
def P9(c:Cl)(q:Qs):List Value:=[.string c.name, .string c.super, .slice q.fa c.fields.length q.fk, .slice q.ma c.methods.length q.mc]
structure G9(w:World)(lim b:Nat)(L:List Cl)(p:Addr)(cap m1 m2 m3:Nat)(q:Nat→Qs):Prop where
 b_lt:b<lim
 p_lt:p.block<lim
 m1_lt:m1<lim
 m2_lt:m2<lim
 m3_lt:m3<lim
 c0:w.cell? ⟨b,0,none⟩=some (.slice (some p) L.length cap)
 c1:w.cell? ⟨b,1,none⟩=some (.map (some m1))
 c2:w.cell? ⟨b,2,none⟩=some (.map (some m2))
 c3:w.cell? ⟨b,3,none⟩=some (.map (some m3))
 row:∀i,i<L.length→∀r u,(P9 (cl L i) (q i))[r]? =some u→w.cell? (p.add (i*4+r))=some u
 n1:w.ownsMap (H:=Unit) prog 9 (plainElem prog 3) m1 L.length (O2 (Y6 L))
 n2:w.ownsMap (H:=Unit) prog 255 (plainElem prog 3) m2 (N3 K2 L).length (O2 (N3 K2 L))
 n3:w.ownsMap (H:=Unit) prog 255 (plainElem prog 3) m3 (N3 G2 L).length (O2 (N3 G2 L))
 names:∀i,i<L.length→(cl L i).name.size≤maxLen∧(cl L i).super.size≤maxLen
 small:L.length≤65536
variable {w w':World}
variable {b cap lim m1 m2 m3:Nat}
variable {L:List Cl}
variable {p:Addr}
variable {q:Nat→Qs}
theorem G9.below{B:Nat}(h:G9 w lim b L p cap m1 m2 m3 q)(hb:Below B w w')(hl:lim≤B):G9 w' lim b L p cap m1 m2 m3 q:=by
 have hc:∀(a:Addr) (v:Value),a.block<lim→w.cell? a=some v→w'.cell? a=some v:=fun a v ha hv=>by rw[hb.cell (by omega)];exact hv
 have hm:∀(k m n:Nat) (D:DK),m<lim→w.ownsMap (H:=Unit) prog k (plainElem prog 3) m n D→w'.ownsMap (H:=Unit) prog k (plainElem prog 3) m n D:=by
  rintro k m n D hlt ⟨es,clock,h1,h2⟩;exact⟨es,clock,(hb.block m (by omega)).trans h1,h2⟩
 have hab:∀(p:Addr) (k:Nat),(p.add k).block=p.block:=fun p k=>by unfold Addr.add;split<;>rfl
 exact⟨h.b_lt,h.p_lt,h.m1_lt,h.m2_lt,h.m3_lt,hc _ _ h.b_lt h.c0,hc _ _ h.b_lt h.c1,hc _ _ h.b_lt h.c2,hc _ _ h.b_lt h.c3,
  fun i hi r u hu=>hc _ _ (by rw[hab];exact h.p_lt) (h.row i hi r u hu),hm _ _ _ _ h.m1_lt h.n1,hm _ _ _ _ h.m2_lt h.n2,hm _ _ _ _ h.m3_lt h.n3,h.names,h.small⟩
theorem G9.keep(h:G9 w lim b L p cap m1 m2 m3 q)(hg:w.grownBy w' none)(hl:lim≤w.heap.size):G9 w' lim b L p cap m1 m2 m3 q:=
 h.below ((Below.refl lim w).grown hg hl (fun k e=>by cases e)) (Nat.le_refl _)
theorem G9.drewN(h:G9 w lim b L p cap m1 m2 m3 q)(k:Nat):G9 (w.drewN k) lim b L p cap m1 m2 m3 q:=
 ⟨h.b_lt,h.p_lt,h.m1_lt,h.m2_lt,h.m3_lt,h.c0,h.c1,h.c2,h.c3,h.row,h.n1,h.n2,h.n3,h.names,h.small⟩
theorem G9.has(n:ByteArray)(_h:G9 w lim b L p cap m1 m2 m3 q):Maps.has (O2 (Y6 L)) (.string (O7 n))=G3 L n:=by
 rw[(a4P (Y6 L)).has,a8C];rfl
theorem b0K(L:List Cl)(n:ByteArray):(O2 (Y6 L)).atKey (.string (O7 n)) (.lit (.int .i64 0))= .lit (.int .i64 ((C3 L n).getD 0)):=by
 rw[(a4P (Y6 L)).at_,a8C]
theorem a5U(w:World)(lim b:Nat)(L:List Cl)(p:Addr)(cap m1 m2 m3:Nat)(q:Nat→Qs)(h:Hid (G9 w lim b L p cap m1 m2 m3 q))(s:ByteArray)(hs:Hid (s.size≤maxLen)):
 Calls prog 244 #[.pointer (some ⟨b,0,none⟩), .string s] w fun e w'=>e= .returned (.bool (G3 L s))∧w'=w:=by
 have c1:=h.out.c1;have HM:=A0 h.out.n1;obtain⟨D,hD⟩:∃D,D=O2 (Y6 L):=⟨_,rfl⟩
 obtain⟨v,hv⟩:∃v,v=G3 L s:=⟨_,rfl⟩
 have HH:Hid (Maps.has D (.string (O7 s))=v):=by rw[hv,hD];exact h.out.has s
 rw[←hD]at HM;rw[←hv];clear hD hv;go_enter func244,ntmps244;go_wp2_with (at_lookup;go_loud (refine wpList_lookup_own_ok_int _ rfl _ _ 148 rfl 9 3 .i64 a5a underlying148 underlying3 (a0y _) m1 _ D rfl HM.out _ (.string (O7 s)) rfl (WideMaps.keyOf_string_mk underlying9 hs.out) ?_);intro x hx hwx;rw[HH.out])
 go_ret;exact⟨rfl,rfl⟩
theorem a7i{m n:Nat}(h:w.ownsMap (H:=Unit) prog 9 (plainElem prog 3) m n (O2 (Y6 L)))(s:ByteArray)(hs:s.size≤maxLen):
 (Instr.lookup 148 (.map (some m)) (.string s) true).run prog w= .ok (.tuple #[.int .i64 ((C3 L s).getD 0:Nat), .bool (G3 L s)]) w:=by
 obtain⟨v,ps,h1,h2⟩:=h.look_ok a5a underlying148 (a0y w) (zd:= .lit (.int .i64 0)) (zp:=[]) (plainElem_int underlying3 (by decide)) (WideMaps.keyOf_string_mk underlying9 hs);obtain⟨c,rfl,hc,-⟩:=plainElem_int_inv underlying3 h2;have hh:Maps.has (O2 (Y6 L)) (.string s.data.toList)=G3 L s:=by rw[(a4P (Y6 L)).has];exact congrArg Option.isSome (a8C L s)
 have ha:(O2 (Y6 L)).atKey (.string s.data.toList) (.lit (.int .i64 0))= .lit (.int .i64 ((C3 L s).getD 0:Nat)):=b0K L s;rw[ha,Prod.mk.injEq]at hc;obtain⟨hc,-⟩:=hc;simp only[DataW.lit.injEq,Lit.int.injEq,true_and]at hc;subst hc;rw[hh]at h1;exact h1
def KpU(n₀ b1:Nat)(W W':World):Prop:=Below n₀ W W'∧W'.heap[b1]? =W.heap[b1]?
def UpL(L:List Cl):Prop:=∀n,up L n=match C3 L n with|none=> []|some i=>i::up L (cl L i).super
def a2o(L:List Cl)(q:Nat→Qs)(i:Nat):Value:= .agg (P9 (cl L i) (q i)).toArray
def a6h(L:List Cl):Value→Value→Nat
 |v, .bool true=>(up L (cl L (intOf v).toNat).super).length+1
 |_,_=>0
theorem b1V(hU:UpL L)(n:ByteArray):a6h L (.int .i64 ((C3 L n).getD 0)) (.bool (G3 L n))=(up L n).length:=by
 have h:=hU n;unfold G3;cases hf:C3 L n with
 |none=>rw[hf]at h;rw[h];rfl
 |some i=>rw[hf]at h;rw[h];simp[a6h,intOf]
theorem C0(p:Addr)(a b:Nat):(⟨(p.add a).block,(p.add a).off+(b+1),none⟩:Addr)=p.add (a+(b+1)):=by
 unfold Addr.add;by_cases h:a=0
 ·subst h;simp
 ·simp[h];omega
attribute [local go_sem] Oper.semAt_some
theorem c1U(F:Fence)(n:Nat)(hF:F.fn 254)(hro:F.round=none)(hn:1≤n)(l n₀ b1 b2 lim b:Nat)(L:List Cl)(p:Addr)(cap m1 m2 m3:Nat)(q:Nat→Qs)(nm:ByteArray)(hnm:nm.size≤maxLen)(hU:Hid (UpL L))
 (J Jx:List Nat→World→Prop)
 (hJa:∀pre A B,J pre A→A.grownBy B none→J pre B) (hJb:∀pre A B,Jx pre A→A.grownBy B none→Jx pre B)
 (hY:∀pre x W,x<L.length→J pre W→pre.length<(up L nm).length→YieldAt F (n-1) prog l #[a2o L q x] W fun e W'=>
   (e= .returned (.bool true)∧J (pre++ [x]) W'∧KpU n₀ b1 W W')∨(e= .returned (.bool false)∧Jx (pre++ [x]) W'))
 (W:World) (hb1:W.cell? ⟨b1,0,none⟩=some (.pointer (some ⟨b,0,none⟩))) (hb2:W.cell? ⟨b2,0,none⟩=some (.string nm)) (hK:Hid (G9 W lim b L p cap m1 m2 m3 q)) (hlim:lim≤n₀) (h0:J [] W):
 CallsIn F n prog 254 #[.func (.yield l) #[] #[], .pointer (some ⟨b1,0,none⟩), .pointer (some ⟨b2,0,none⟩)] W fun e W'=>(∃v,e= .returned v)∧
  ((∃ys,ys=up L nm∧J ys W')∨(∃pre,pre<+:up L nm∧Jx pre W')):=by
 have c1:=hK.out.c1;obtain⟨v5,hv5⟩:∃v,v=G3 L nm:=⟨_,rfl⟩
 obtain⟨v4,hv4⟩:∃v,v=(C3 L nm).getD 0:=⟨_,rfl⟩
 have hrun:=fun k:Nat=>a7i (w:=W.drewN k) hK.out.n1 nm hnm
 rw[←hv5,←hv4]at hrun;have HV5:=A0 hv5;have HV4:=A0 hv4;clear hv5 hv4;obtain⟨Ffn,Fd,Fa,Fr⟩:=F;obtain rfl:Fr=none:=hro;refine callsIn_of_wp func254 rfl hF ?_ rfl;simp only[ntmps254,List.size_toArray,List.length_cons,List.length_nil,Nat.reduceAdd,Nat.reduceSub,Array.replicate_succ,Array.replicate_zero,List.push_toArray,List.append_toArray,List.nil_append,List.cons_append];gi_wp2
 gi_quiet (fail)
 gi_wp2
 have hJ0:=hJa [] W _ h0 (K3 W nq none);have HK0:=A0 (hK.out.drewN nq);have hb1':(W.drewN nq).cell? ⟨b1,0,none⟩=some (.pointer (some ⟨b,0,none⟩)):=hb1;clear hb1 hb2 h0 hK c1 hrun
 gi_loopw [4,5] (fun u4 u5 wr=>∃(pre:List Nat) (nm':ByteArray),J pre wr∧up L nm=pre++up L nm'∧nm'.size≤maxLen∧u4= .int .i64 ((C3 L nm').getD 0:Nat)∧u5= .bool (G3 L nm')∧G9 wr lim b L p cap m1 m2 m3 q∧wr.cell? ⟨b1,0,none⟩=some (.pointer (some ⟨b,0,none⟩)))
  (fun u4 u5 _=>a6h L u4 u5)
 case atStart=>exact⟨[],nm,hJ0,rfl,hnm,by rw[HV4.out],by rw[HV5.out],HK0.out,hb1'⟩
 case round=>
  clear hJ0 HK0 hb1' HV4 HV5;obtain⟨pre,nm',hJp,hup,hns,rfl,rfl,hkl,hb1⟩:=hrel;have HK:=A0 hkl;have HUP:=A0 hup;have hus:=hU.out nm';have hle:=b1V hU.out nm';clear hkl hup;cases hf:C3 L nm' with
  |none=>
   have hv5:G3 L nm'=false:=by unfold G3;rw[hf];rfl
   rw[hf]at hus;have HS:Hid (up L nm'=[]):=hus;rw[hv5];clear hus hle;gi_wp2
   refine⟨fun _ h=>(by cases h),?_⟩;gi_wp2
   go_end0;exact⟨⟨_,rfl⟩, .inl ⟨pre,by rw[HUP.out,HS.out,List.append_nil],hJp⟩⟩
  |some i=>
   have hv5:G3 L nm'=true:=by unfold G3;rw[hf];rfl
   have hi:=(M9 hf).1;rw[hf]at hus hle;have HS:Hid (up L nm'=i::up L (cl L i).super):=hus;have HLE:=A0 hle;have hlt:pre.length<(up L nm).length:=by rw[HUP.out,HS.out];simp
   obtain⟨fn,tmps,assign,body,hy,hR⟩:=hY pre i wr hi hJp hlt;have hns2:=(HK.out.names i hi).2;have hpc:=HK.out.row i hi;have f0:wr.cell? (p.add (i*4))=some (.string (cl L i).name):=hpc 0 _ rfl;have f1:wr.cell? ⟨(p.add (i*4)).block,(p.add (i*4)).off+1,none⟩=some (.string (cl L i).super):=by rw[C0 p (i*4) 0];exact hpc 1 _ rfl
   have f2:wr.cell? ⟨(p.add (i*4)).block,(p.add (i*4)).off+2,none⟩=some (.slice (q i).fa (cl L i).fields.length (q i).fk):=by rw[C0 p (i*4) 1];exact hpc 2 _ rfl
   have f3:wr.cell? ⟨(p.add (i*4)).block,(p.add (i*4)).off+3,none⟩=some (.slice (q i).ma (cl L i).methods.length (q i).mc):=by rw[C0 p (i*4) 2];exact hpc 3 _ rfl
   have c0:=HK.out.c0;rw[hv5];simp only[Option.getD_some];clear hpc hus hle;have hy':(Instr.yield l #[.agg #[.string (cl L i).name, .string (cl L i).super, .slice (q i).fa (cl L i).fields.length (q i).fk, .slice (q i).ma (cl L i).methods.length (q i).mc]]).run prog wr= .ok (.round l fn tmps assign body) wr:=hy;clear hy;gi_wp2
   refine hR.mono ?_;rintro e W3 (⟨rfl,hJ3,hk3,hk4⟩|⟨rfl,hJx3⟩)
   ·have HK3:=A0 (HK.out.below hk3 hlim);have hb3:W3.cell? ⟨b1,0,none⟩=some (.pointer (some ⟨b,0,none⟩)):=by rw[World.cell?_of_block (w:=wr) hk4];exact hb1
    have c03:=HK3.out.c0;have c13:=HK3.out.c1;have f13:W3.cell? ⟨(p.add (i*4)).block,(p.add (i*4)).off+1,none⟩=some (.string (cl L i).super):=by rw[C0 p (i*4) 0];exact HK3.out.row i hi 1 _ rfl
    obtain⟨sp,hsp⟩:∃sp,sp=(cl L i).super:=⟨_,rfl⟩
    rw[←hsp]at f13 hns2;obtain⟨v52,hv52⟩:∃v,v=G3 L sp:=⟨_,rfl⟩
    obtain⟨v42,hv42⟩:∃v,v=(C3 L sp).getD 0:=⟨_,rfl⟩
    have hrun:=fun k:Nat=>a7i (w:=W3.drewN k) HK3.out.n1 sp hns2
    rw[←hv52,←hv42]at hrun;have HV5:=A0 hv52;have HV4:=A0 hv42;have HSP:=A0 hsp;clear hv52 hv42 hsp f0 f1 f2 f3 c0 hk3 hk4 hb1;gi_wp2
    gi_quiet (fail)
    go_roundw
    case rel=>
     exact⟨.int .i64 v42, .bool v52,_,_,_,_,_,_,_,_,_,_,_,_,_,_,_,_,_,_,_,_,_,_,_,_,_,_,_,_,⟨pre++ [i],sp,hJa _ _ _ hJ3 (K3 _ _ _),by rw[HUP.out,HS.out,HSP.out];simp,hns2,by rw[HV4.out],by rw[HV5.out],HK3.out.drewN _,hb3⟩,rfl⟩
    case measure=>
     show a6h L (.int .i64 v42) (.bool v52)<a6h L (.int .i64 i) (.bool true);rw[HV4.out,HV5.out,b1V hU.out sp];have:=HLE.out;rw[hv5]at this;simp only[Option.getD_some]at this;rw[this,HS.out,HSP.out];simp
   ·gi_wp2
    go_end0;exact⟨⟨_,rfl⟩, .inr ⟨pre++ [i],⟨up L (cl L i).super,by rw[HUP.out,HS.out];simp⟩,hJx3⟩⟩
end Kx
end
end Go.Proofs.YtdhophglnhcjbaaGreatDoor
