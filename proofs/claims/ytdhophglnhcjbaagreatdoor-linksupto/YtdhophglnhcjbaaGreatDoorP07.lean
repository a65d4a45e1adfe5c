/- P07: a part of the proof that the last text tells. -/
import Derived.Test.YtdhophglnhcjbaaGreatDoorP06
import Derived.Lib.Strings
import Derived.Lib.Walk
import Derived.Lib.BufferWrite
import Derived.Lib.UnsafeStr
import Derived.Deep.AppendLies
import Derived.Deep.RegionLaw
set_option linter.all false
namespace Go.Proofs.YtdhophglnhcjbaaGreatDoor
open Go.RowKit Cf
theorem b8r:(Tryz.prog.info? 5).map (fun i=>(i.zero,i.size,i.bytes))=some (some (.int .u8 0),1,1):=by kernel_rfl
theorem t6{w w':World}(h:Below w.heap.size w w'):w.grownBy w' none:=⟨h.os,h.tape,h.output,h.size,fun k hk _=>h.block k hk⟩
set_option maxHeartbeats 1000000 in
set_option maxRecDepth 100000 in
theorem b3S(s:ByteArray)(w:World)(hlim:s.size≤2048):
 Calls Tryz.prog 171 #[.string s] w fun e w'=>e= .returned (.string s)∧w.grownBy w' none:=by
 by_cases h0:s.size=0
 ·have hs:s=⟨#[]⟩:=ByteArray.ext (Array.eq_empty_of_size_eq_zero h0);subst hs;go_enter Tryz.func171,Tryz.ntmps171;go_wp2
  go_ret;exact⟨rfl,G1 _ _⟩
 ·obtain⟨i0,hi,hz0,hz1,hz2⟩:=info_parts b8r;have hinfo:(Tryz.prog.info? 5).map (·.size)=some 1:=by rw[hi];simp[hz1]
  have hco:Tryz.prog.cellsOf 5=1:=by simp[Program.cellsOf,hi,hz1]
  generalize hM:madeCells (Value.int .u8 0).cells (((s.size:Nat):Int).toNat*i0.size)=M;have hMs:M.size=s.size:=by rw[←hM,size_madeCells,hz1];simp
  have hmk:∀W:World,(Instr.makeSlice 193 (.int .i64 (s.size:Int)) (.int .i64 (s.size:Int))).run Tryz.prog W= .ok (.slice (some ⟨W.heap.size,0,none⟩) s.size s.size) (W.alloc (.cells M 5)):=fun W=>by
   have h:=run_make (P:=Tryz.prog) W 193 5 i0 (.int .u8 0) Tryz.underlying193 hi hz0 .i64 .i64 (s.size:Int) (s.size:Int) (by omega) (by omega) (by rw[hz2];omega) (by omega);rw[hM]at h;simpa using h
  have hcp:=Lib.run_copy_row_string (P:=Tryz.prog) (w.alloc (.cells M 5)) 193 9 3 5 w.heap.size 0 s.size s.size s M 5 Tryz.underlying193 hinfo (heap_alloc_new w _) (Nat.le_refl _) (by omega);generalize hY:(M.toList.take 0++Lib.byteCells s.data.toList++M.toList.drop (0+s.size)).toArray=Y at hcp
  have hYl:Y.toList=Lib.byteCells s.data.toList:=by
   rw[←hY,List.toList_toArray,List.take_zero,List.nil_append,List.drop_of_length_le (by rw[Array.length_toList];omega),List.append_nil]
  have hYs:Y.size=s.size:=by rw[←Array.length_toList,hYl,Lib.byteCells_length,←Lib.size_eq]
  have hgY:((w.alloc (.cells M 5)).setRow w.heap.size Y).heap[w.heap.size]? =some (.cells Y 5 (0,0)):=setRow_heap _ _ M _ 5 (0,0) (heap_alloc_new w _);have hne:s.data.toList≠ []:=fun e=>h0 (by rw[Lib.size_eq,e];rfl)
  have hUS:=Lib.run_unsafeString_row (P:=Tryz.prog) ((w.alloc (.cells M 5)).setRow w.heap.size Y) 359 3 9 5 Tryz.underlying359 hco w.heap.size Y.size (by unfold World.shape?;rw[hgY]) s.data.toList hne (by rw[←Lib.size_eq];omega) (by rw[←Lib.size_eq];omega)
   (fun j x hx=>Lib.cells_of_row hgY Y.size j _ (by rw[List.take_of_length_le (by rw[Array.length_toList];exact Nat.le_refl _),hYl];simp[Lib.byteCells,hx]))
  rw[←Lib.size_eq]at hUS;clear hM hY;go_enter Tryz.func171,Tryz.ntmps171;go_wp2
  go_ret;have hb1:Below w.heap.size w (w.alloc (.cells M 5)):=(Below.refl _ w).alloc (Nat.le_refl _) _;have hb2:Below w.heap.size (w.alloc (.cells M 5)) ((w.alloc (.cells M 5)).setRow w.heap.size Y):=⟨rfl,rfl,rfl,by simp,fun k hk=>setRow_other _ _ _ _ (by omega)⟩
  exact⟨rfl,t6 (Lib.below_freeze (hb1.trans hb2) (p:=⟨w.heap.size,0,none⟩) (Nat.le_refl _) _)⟩
set_option maxHeartbeats 400000 in
theorem b6p(s:ByteArray)(w:World)(hlim:s.size≤2048):
 Calls Tryz.prog 107 #[.string s] w fun e w'=>e= .returned (.string s)∧w.grownBy w' none:=by
 go_enter Tryz.func107,Tryz.ntmps107;go_wp2_with (go_at_call 171;refine(b3S s w hlim).mono ?_;rintro e w' ⟨rfl,hg⟩)
 go_ret;exact⟨rfl,hg⟩
theorem a5A{f:ByteArray}{k:Nat}{st st1:St}{s:ByteArray}(h:a0l f k st= .ok (s,st1)):st.at_+k≤f.size∧s=f.extract st.at_ (st.at_+k)∧st1={st with at_:=st.at_+k}:=by
 rw[a0l]at h;split at h
 ·cases h;exact⟨by assumption,rfl,rfl⟩
 ·cases h
section
variable{f:ByteArray}{st st1 st2:St}{k:Nat}{s:ByteArray}{er:Er}
theorem b4x(h1:A9 f 1 st= .ok (k,st1))(h:a0l f k st1= .error er):V2 f st= .error er:=by
 rw[a0l]at h;split at h
 ·cases h
 ·rename_i hc;cases h;simp only[V2,h1,hc,if_false]
theorem a9b(h1:A9 f 1 st= .ok (k,st1))(h2:a0l f k st1= .ok (s,st2))(hb:(F4 s&& !st.pool.contains s)=false):V2 f st= .error (4,st.at_):=by
 obtain⟨h3,rfl,rfl⟩:=a5A h2;simp only[V2,h1,h3,hb,if_true,Bool.false_eq_true,if_false]
theorem a8z(h1:A9 f 1 st= .ok (k,st1))(h2:a0l f k st1= .ok (s,st2)):st2.pool=st.pool:=by
 rw[(a5A h2).2.2,(O6 h1).1]
theorem b4w(h1:A9 f 1 st= .ok (k,st1))(h2:a0l f k st1= .ok (s,st2))(hb:(F4 s&& !st.pool.contains s)=true):V2 f st= .ok (s,st2):=by
 obtain⟨h3,rfl,rfl⟩:=a5A h2;simp only[V2,h1,h3,hb,if_true]
end
set_option maxHeartbeats 400000 in
theorem b3w(w:World)(b:Nat)(f:ByteArray)(pv:Value)(st:St)(h:Hid (Rd w b f pv st)):
 Calls Tryz.prog 147 #[.pointer (some ⟨b,0,none⟩)] w (E7 w b f pv (V2 f st) a4a):=by
 obtain⟨-,-,-,c1,-,-,-,-,-⟩:=h.out.cells;go_enter Tryz.func147,Tryz.ntmps147
 go_wp2_with (first
  |(go_at_call 146
    refine E7.bind (Z2 w b f pv st 1 h (by omega)) (fun er w' hr hg=>⟨rfl, .err (er:=er) (by simp only[V2,hr]) rfl rfl hg⟩) ?_;rintro k st1 v w1 H1 rfl hR1 hg1;dsimp only)
  |(go_at_call 221
    refine E7.bind (a9U w1 b f pv st1 k hR1.out (by have:=(O6 H1.out).2;omega)) (fun er w' hr hg=>⟨rfl, .err (er:=er) (b4x H1.out hr) rfl rfl (A1 hg1 hg)⟩) ?_;rintro s st2 v w2 H2 rfl hR2 hg2;obtain⟨-,ho2,-,-,c2,-,-,-,-⟩:=hR2.out.cells;have HO2:=A0 ho2;have hss:s.size≤2048:=by have h5:=(a5A H2.out);have h6:=hR2.out.inv.fits;rw[h5.2.1];simp;omega
    clear ho2 c1;dsimp only)
  |(go_at_call 212;refine(b4F s w2 hss).mono ?_;rintro e w' ⟨rfl,rfl⟩;dsimp only;cases hb:F4 s)
  |(go_at_call 222;refine(b2U w2 (b+1) pv st2.pool s HO2 (by have:=hR2.out.inv.pool;exact this)).mono ?_;rintro e w' ⟨rfl,rfl⟩;dsimp only;cases hq:st2.pool.contains s)
  |(go_at_call 107;refine(b6p s w2 hss).mono ?_;rintro e w4 ⟨rfl,hg4⟩;dsimp only))
 ·exact⟨rfl, .err (er:=(4,st.at_)) (a9b H1.out H2.out (by rw[hb];rfl)) rfl rfl (A1 hg1 hg2)⟩
 ·go_ret;exact .ok (b4w H1.out H2.out (by rw[←a8z H1.out H2.out,hb,hq];rfl)) (K2 (A1 hg1 hg2) hg4) rfl (hR2.out.keep hg4)
 ·exact⟨rfl, .err (er:=(4,st.at_)) (a9b H1.out H2.out (by rw[←a8z H1.out H2.out,hb,hq];rfl)) rfl rfl (A1 hg1 hg2)⟩
def a3L(w:World)(b:Nat)(f:ByteArray)(r:R (List Unit))(e:Ending)(w':World):Prop:=
 w.grownBy w' (some b)∧match r with
  | .ok (_,st)=>e= .returned (.tuple #[])∧∃pv,Rd w' b f pv st
  | .error er=>e=a5U er
variable {w w' w1 w2:World}
variable {b c i n:Nat}
variable {f s:ByteArray}
variable {r:R (List Unit)}
variable {x y:Int}
variable {er:Er}
theorem a3L.err
 (hr:r= .error er) (hx:x=er.1) (hy:y=er.2) (hg:w.grownBy w' (some b)):a3L w b f r (.panicked [{v:= .iface 125 (.agg #[.int .i64 x, .int .i64 y]),recovered:=false}]) w':=by
 subst hr hx hy;exact⟨hg,rfl⟩
variable {st st1:St}
theorem a5W(h:V2 f st= .error er):K0 f st= .error er:=by simp only[K0,h]
theorem b0N(h:V2 f st= .ok (s,st1)):K0 f st= .ok ((),{st1 with pool:=st1.pool++ [s]}):=by simp only[K0,h]
theorem b2q(h:V2 f st= .ok (s,st1)):st1.pool=st.pool∧st1.used=st.used:=by
 unfold V2 at h;split at h
 ·cases h
 ·rename_i k st2 h2;split at h
  ·dsimp only at h;split at h
   ·cases h;rw[(O6 h2).1];exact⟨rfl,rfl⟩
   ·cases h
  ·cases h
theorem Rd.setPool{pv:Value}{g cap base:Nat}{row:Option Nat}(h:Rd w b f pv st)(h1:w.grownBy w1 none)(h2:w1.grownBy w2 row)(hr:row≠some b)
 (hb:b<base) (ho:w2.ownsRow base 9 1 (.slice (some ⟨g,0,none⟩) (st.pool.length+1) cap) (st.pool.length+1) (st.pool.map Value.string++ [.string s])) (hl:st.pool.length<255):
 Rd (w2.setCell ⟨b,2,none⟩ (.slice (some ⟨g,0,none⟩) (st.pool.length+1) cap)) b f (.slice (some ⟨g,0,none⟩) (st.pool.length+1) cap) {st with pool:=st.pool++ [s]}:=by
 refine⟨⟨h.inv.fits,h.inv.at_,by have:=h.inv.used;simp;omega,by simp;omega⟩,?_,?_⟩
 ·exact((h.blk.keep h1 (by simp)).keep h2 (fun e=>hr e.symm)).set 2 _
 ·have h5:w2.ownsRow (b+1) 9 1 (.slice (some ⟨g,0,none⟩) (st.pool.length+1) cap) (st.pool.length+1) (st.pool.map Value.string++ [.string s]):=S0 ho (by omega);have h6:=h5.kept (A6 w2 ⟨b,2,none⟩ (.slice (some ⟨g,0,none⟩) (st.pool.length+1) cap)) (.inr (E9 h5 (show b<b+1 by omega)));simpa using h6
set_option maxHeartbeats 1000000 in
theorem b2D(w:World)(b:Nat)(f:ByteArray)(st:St)(h:Hid (Rd w b f (.slice none 0 0) st))(h0:st.pool=[]):
 Calls Tryz.prog 92 #[.pointer (some ⟨b,0,none⟩)] w (a3L w b f (D5 f 1 (K0 f) st)):=by
 have hbl:=h.out.lt;have H0:=A0 h0;clear h0;go_enter Tryz.func92,Tryz.ntmps92;go_wp2_with (go_at_call 146;refine E7.bind (Z2 w b f _ st 1 h (by omega)) (fun er w' hr hg=>⟨rfl, .err (er:=er) (by rw[D5,hr]) rfl rfl hg⟩) ?_;rintro n st1 v w1 HH rfl hR hg;dsimp only)
 have hn:=(O6 HH.out).2;go_loopw [4] (fun i wr=>∃(k:Nat) (xs:List Unit) (st2:St) (l:Value),i= .int .i64 k∧o4 (K0 f) n st1 k xs st2∧st2.pool.length=k∧Rd wr b f l st2∧wr.ownsRow w.heap.size 9 1 l st2.pool.length (st2.pool.map Value.string)∧w.grownBy wr (some b)) (fun i _=>n-(intOf i).toNat)
 case atStart=>
  have hp:st1.pool=[]:=by rw[(O6 HH.out).1];exact H0.out
  exact⟨0,[],st1,_,rfl, .start _ _ _,by rw[hp];rfl,hR.out,by rw[hp];exact World.ownsRow_nil _ _ _ _,hg⟩
 case round=>
  obtain⟨k,xs,st2,l,rfl,hmid,hlen,hR2,hown,hg2⟩:=hrel;have HM:=A0 hmid;have HR2:=A0 hR2;have HO:=A0 hown;have HL:=A0 hlen;have hne:=E9 hown hbl;obtain⟨-,-,-,-,c2,-,-,f2,-⟩:=hR2.cells;obtain⟨a0,k0,rfl⟩:=F1 hown;clear hmid hR2 hown hlen;by_cases hk:k<n
  ·obtain⟨i,hi,hz0,hz1,hz2⟩:=info_parts a5G;go_wp2_with fail
   have hRd:Hid (Rd wr.drew b f _ st2):=HR2.out.keep (B8 _ _)
   go_region_law (first
    |(go_simp
      go_at_call 147
      (refine E7.bind (b3w wr.drew b f _ st2 hRd) (fun er w' hr hg3=>⟨rfl, .err (er:=er) (by rw[D5,HH.out];exact HM.out.fail hk (a5W hr)) rfl rfl (A1 (A1 hg2 (B8 _ _)) hg3)⟩) ?_)
      (rintro s st3 v w3 H3 rfl hR3 hg3)
      have s3:=Nat.le_trans hg2.size hg3.size;(obtain⟨-,-,-,-,c2',-,-,f2',-⟩:=hR3.out.cells)
      have hb3:=hR3.out.lt;have c2a:∀o,(w3.alloc o).cell? ⟨b,2,none⟩=some (.slice a0 st2.pool.length k0):=fun o=>by rw[World.cell?_alloc_past _ _ _ hb3];exact c2'
      have f2a:=fun o=>((A2 w3 o none).frozen_far ⟨b,2,none⟩ hb3 (by simp)).trans f2'
      dsimp only)
    |(refine step_append_lies _ rfl _ _ 22 rfl w.heap.size 9 i _ 1 16 Tryz.underlying22 hi hz0 hz1 hz2 rfl (by decide) _ st2.pool.length (st2.pool.map Value.string) rfl ((World.ownsRow.kept (World.ownsRow.drew HO.out) hg3 (.inr hne)).alloc _) ⟨w3.heap.size,0,none⟩ 1 1 [Value.string s] rfl rfl (O5 w3 _ _) (by simp[Value.oneCell']) (by omega) (by have:=HL.out;unfold maxLen;omega) (by have:=HL.out;omega) (by simp;omega) _ rfl ?_
      intro g cap w4 hown4 hgrow4 hat hlt;have c4:=(hgrow4.cell_far ⟨b,2,none⟩ (by simp;omega) (fun e=>hne e.symm)).trans (c2a _);have f4:=(hgrow4.frozen_far ⟨b,2,none⟩ (by simp;omega) (fun e=>hne e.symm)).trans (f2a _)))
   all_goals
    have hp3:=(b2q H3.out).1;have hpl:st2.pool.length<255:=by have:=HL.out;omega
    have hgg:=C7 (A1 (A1 (A1 hg2 (B8 _ _)) hg3) (A2 _ _ _)) hgrow4 (fun g hg=> .inl (K9 HO.out hg).1)
    have hfin:Hid (Rd (w4.setCell ⟨b,2,none⟩ (.slice (some ⟨g,0,none⟩) (st2.pool.length+1) cap)) b f (.slice (some ⟨g,0,none⟩) (st2.pool.length+1) cap) {st3 with pool:=st3.pool++ [s]}):=by
     have:=Rd.setPool (s:=s) (g:=g) (cap:=cap) hR3.out (A2 w3 _ none) hgrow4 hne hbl (by rw[hp3];exact hown4) (by rw[hp3];exact hpl);rw[hp3]at this⊢;exact this
    have hown5:Hid ((w4.setCell ⟨b,2,none⟩ (.slice (some ⟨g,0,none⟩) (st2.pool.length+1) cap)).ownsRow w.heap.size 9 1 (.slice (some ⟨g,0,none⟩) (st2.pool.length+1) cap) (st3.pool++ [s]).length ((st3.pool++ [s]).map Value.string)):=by
     have:=hown4.kept (A6 w4 ⟨b,2,none⟩ (.slice (some ⟨g,0,none⟩) (st2.pool.length+1) cap)) (.inr (E9 hown4 hbl));rw[hp3];unfold Hid;simpa using this
    have HM4:=A0 (HM.out.step hk (b0N H3.out));have hg5:w.grownBy (w4.setCell ⟨b,2,none⟩ (.slice (some ⟨g,0,none⟩) (st2.pool.length+1) cap)) (some b):=A1 hgg (A6 w4 ⟨b,2,none⟩ _);clear hown4 hgrow4 hat;go_wp2_with fail
    go_roundw
    case rel=>exact⟨k+1,xs++ [()],{st3 with pool:=st3.pool++ [s]},_,by go_num,HM4.out,by rw[hp3];have:=HL.out;simp;omega,hfin.out,hown5.out,hg5⟩
    case measure=>simp[intOf];omega
  ·go_wp2
   go_end0;have hk':k=n:=by have:=HM.out.1;omega
   subst hk';refine⟨hg2,?_⟩;rw[D5,HH.out];simp only[HM.out.done];exact⟨trivial,_,HR2.out⟩
def j7(f:ByteArray)(st:St):R Unit:=match I8 f 87 0 st with| .ok (_,st1)=>I8 f 49 1 st1| .error er=> .error er
def b9h(_:World)(v:Value)(_:Unit):Prop:=v= .tuple #[]
theorem b0X(h:A9 f 1 st= .error er):I8 f c i st= .error er:=by simp only[I8,h]
theorem b0n(h:A9 f 1 st= .ok (n,st1))(hn:n≠c):I8 f c i st= .error (3,i):=by simp only[I8,h,hn,if_false]
theorem b0m(h:A9 f 1 st= .ok (n,st1))(hn:n=c):I8 f c i st= .ok ((),st1):=by simp only[I8,h,hn,if_true]
theorem c0O(h:¬(n:Int)=IntKind.i64.wrap ((ByteArray.mk #[87,49])[0].toNat:Int)):n≠87:=fun e=>h (by subst e;decide)
theorem c1d(h:(n:Int)=IntKind.i64.wrap ((ByteArray.mk #[87,49])[0].toNat:Int)):n=87:=by
 have e:IntKind.i64.wrap ((ByteArray.mk #[87,49])[0].toNat:Int)=87:=by decide
 omega
theorem c0P(h:¬(n:Int)=IntKind.i64.wrap ((ByteArray.mk #[87,49])[1].toNat:Int)):n≠49:=fun e=>h (by subst e;decide)
theorem c1e(h:(n:Int)=IntKind.i64.wrap ((ByteArray.mk #[87,49])[1].toNat:Int)):n=49:=by
 have e:IntKind.i64.wrap ((ByteArray.mk #[87,49])[1].toNat:Int)=49:=by decide
 omega
theorem b0W(h:I8 f 87 0 st= .error er):j7 f st= .error er:=by simp only[j7,h]
theorem a7C{r:R Unit}(h:I8 f 87 0 st= .ok ((),st1))(h2:I8 f 49 1 st1=r):j7 f st=r:=by simp only[j7,h,h2]
set_option maxHeartbeats 1000000 in
theorem b2E(w:World)(b:Nat)(f:ByteArray)(pv:Value)(st:St)(h:Hid (Rd w b f pv st)):
 Calls Tryz.prog 91 #[.pointer (some ⟨b,0,none⟩)] w (E7 w b f pv (j7 f st) b9h):=by
 go_enter Tryz.func91,Tryz.ntmps91;go_wp2_with fail
 go_loopw [3] (fun i wr=>w.grownBy wr (some b)∧((i= .int .i64 0∧Rd wr b f pv st)∨(∃st1,i= .int .i64 1∧I8 f 87 0 st= .ok ((),st1)∧Rd wr b f pv st1)∨(∃st2,i= .int .i64 2∧j7 f st= .ok ((),st2)∧Rd wr b f pv st2))) (fun i _=>2-(intOf i).toNat)
 case atStart=>exact⟨G1 _ _, .inl ⟨rfl,h.out⟩⟩
 case round=>
  obtain⟨hg,⟨rfl,hR⟩|⟨st1,rfl,hm,hR⟩|⟨st2,rfl,hm,hR⟩⟩:=hrel
  ·have HR:=A0 (hR.keep (B8 _ _));clear hR;go_wp2_with fail
   go_region_law (first
    |(go_simp
      go_at_call 146
      refine E7.bind (Z2 wr.drew b f pv st 1 HR (by omega)) (fun er w' hr hg3=>⟨rfl, .err (er:=er) (b0W (b0X hr)) rfl rfl (A1 (A1 hg (B8 _ _)) hg3)⟩) ?_;rintro n st3 v w3 H3 rfl hR3 hg3;dsimp only))
   all_goals
    go_wp2_with fail
    ·rename_i hq _ _;have h5:=c0O (by simpa using hq);exact⟨rfl, .err (er:=(3,0)) (b0W (b0n H3.out h5)) rfl rfl (A1 (A1 hg (B8 _ _)) hg3)⟩
    ·rename_i hq;have h5:=c1d (by simpa using hq);exact⟨⟨A1 (A1 hg (B8 _ _)) hg3, .inr (.inl ⟨st3,rfl,b0m H3.out h5,hR3.out⟩)⟩,by simp[intOf]⟩
  ·have HR:=A0 (hR.keep (B8 _ _));have HM:=A0 hm;clear hR hm;go_wp2_with fail
   go_region_law (first
    |(go_simp
      go_at_call 146
      refine E7.bind (Z2 wr.drew b f pv st1 1 HR (by omega)) (fun er w' hr hg3=>⟨rfl, .err (er:=er) (a7C HM.out (b0X hr)) rfl rfl (A1 (A1 hg (B8 _ _)) hg3)⟩) ?_;rintro n st3 v w3 H3 rfl hR3 hg3;dsimp only))
   all_goals
    go_wp2_with fail
    ·rename_i hq _ _;have h5:=c0P (by simpa using hq);exact⟨rfl, .err (er:=(3,1)) (a7C HM.out (b0n H3.out h5)) rfl rfl (A1 (A1 hg (B8 _ _)) hg3)⟩
    ·rename_i hq;have h5:=c1e (by simpa using hq);exact⟨⟨A1 (A1 hg (B8 _ _)) hg3, .inr (.inr ⟨st3,rfl,a7C HM.out (b0m H3.out h5),hR3.out⟩)⟩,by simp[intOf]⟩
  ·have HM:=A0 hm;have HR:=A0 hR;clear hR hm;go_wp2_with fail
   go_end0;exact .ok HM.out hg rfl HR.out
theorem a3L.bind{P:Program}{fn:FuncId}{args:Array Value}{K:Ending→World→Prop}
 (hc:Calls P fn args w (a3L w b f r))
 (herr:∀er w',r= .error er→w.grownBy w' (some b)→K (.panicked [{v:= .iface 125 (.agg #[.int .i64 er.1, .int .i64 er.2]),recovered:=false}]) w')
 (hok:∀xs st w' pv,Hid (r= .ok (xs,st))→Hid (Rd w' b f pv st)→w.grownBy w' (some b)→K (.returned (.tuple #[])) w'):Calls P fn args w K:=
 hc.mono fun e w' he=>by
  obtain⟨hg,he⟩:=he;cases r with
  |ok p=>obtain⟨rfl,pv,hR⟩:=he;exact hok p.1 p.2 w' pv rfl hR hg
  |error er=>subst he;exact herr er w' rfl hg
theorem b4A{u:Unit}(h:j7 f st= .ok (u,st1))(h0:st.pool=[]:=by rfl):st1.pool=[]:=by
 unfold j7 I8 at h;split at h
 ·rename_i st2 h2;split at h2
  ·cases h2
  ·rename_i h3;split at h2
   ·cases h2;split at h
    ·cases h
    ·rename_i h5;split at h
     ·cases h;rw[(O6 h5).1,(O6 h3).1];exact h0
     ·cases h
   ·cases h2
 ·cases h
def a7s(w:World)(r:Except Er Cl)(e:Ending)(w':World):Prop:=
 w.grownBy w' none∧match r with
  | .ok c=>∃v,e= .returned v∧a0p w.heap.size w' v c
  | .error er=>e=a5U er
theorem a7s.err{r:Except Er Cl}
 (hr:r= .error er) (hx:x=er.1) (hy:y=er.2) (hg:w.grownBy w' none):a7s w r (.panicked [{v:= .iface 125 (.agg #[.int .i64 x, .int .i64 y]),recovered:=false}]) w':=by
 subst hr hx hy;exact⟨hg,rfl⟩
theorem a2y(h:w.grownBy w1 none)(h1:w1.grownBy w2 (some b))(hb:w.heap.size≤b):w.grownBy w2 none:=
 C7 h h1 (fun k e=> .inl (by cases e;exact hb))
def a1C(f:ByteArray)(st:St):R Unit:=if st.used<st.pool.length then .error (5,f.size)else if st.at_<f.size then .error (6,st.at_)else .ok ((),st)
section
variable{f:ByteArray}{er:Er}{st2 st3 st4:St}{xs:List Unit}{c:Cl}{u:Unit}
theorem b7N(h:2048<f.size):F7 f= .error (1,0):=by simp only[F7,h,if_true]
theorem b6l(h0:¬2048<f.size)(h:j7 f ⟨0,0,[]⟩= .error er):F7 f= .error er:=by
 unfold j7 at h;simp only[F7,h0,if_false];split at h
 ·rename_i h1;simp only[h1,h]
 ·rename_i h1;simp only[h1];cases h;rfl
theorem a5y(h0:¬2048<f.size)(h:j7 f ⟨0,0,[]⟩= .ok (u,st2)):F7 f=
 match D5 f 1 (K0 f) st2 with
 | .error e=> .error e
 | .ok (_,st3)=>
   match cls f st3 with
   | .error e=> .error e
   | .ok (c,st4)=>
     if st4.used<st4.pool.length then .error (5,f.size)else
     if st4.at_<f.size then .error (6,st4.at_)else .ok c:=by
 unfold j7 at h;simp only[F7,h0,if_false];split at h
 ·rename_i h1;simp only[h1,h];rfl
 ·cases h
theorem b7M(h0:¬2048<f.size)(h1:j7 f ⟨0,0,[]⟩= .ok (u,st2))(h:D5 f 1 (K0 f) st2= .error er):F7 f= .error er:=by rw[a5y h0 h1,h]
theorem b8C(h0:¬2048<f.size)(h1:j7 f ⟨0,0,[]⟩= .ok (u,st2))(h2:D5 f 1 (K0 f) st2= .ok (xs,st3))(h:cls f st3= .error er):F7 f= .error er:=by rw[a5y h0 h1,h2];simp only[h]
theorem b8B(h0:¬2048<f.size)(h1:j7 f ⟨0,0,[]⟩= .ok (u,st2))(h2:D5 f 1 (K0 f) st2= .ok (xs,st3))(h3:cls f st3= .ok (c,st4))(h:a1C f st4= .error er):F7 f= .error er:=by
 rw[a5y h0 h1,h2];simp only[h3];unfold a1C at h;split at h
 ·rename_i h5;rw[if_pos h5];cases h;rfl
 ·rename_i h5;rw[if_neg h5];split at h
  ·rename_i h6;rw[if_pos h6];cases h;rfl
  ·cases h
theorem b1t(h0:¬2048<f.size)(h1:j7 f ⟨0,0,[]⟩= .ok (u,st2))(h2:D5 f 1 (K0 f) st2= .ok (xs,st3))(h3:cls f st3= .ok (c,st4)){st5:St}(h:a1C f st4= .ok (u,st5)):F7 f= .ok c:=by
 rw[a5y h0 h1,h2];simp only[h3];unfold a1C at h;split at h
 ·cases h
 ·rename_i h5;rw[if_neg h5];split at h
  ·cases h
  ·rename_i h6;rw[if_neg h6]
end
set_option maxHeartbeats 1000000 in
theorem b6P(w:World)(f:ByteArray)(hf:f.size≤maxLen)(hS:Hid (p9 w)):
 Calls Tryz.prog 51 #[.string f] w (a7s w (F7 f)):=by
 have HF:f.size≤9223372036854775807:=hf;clear hf;by_cases h0:2048<f.size
 ·go_enter Tryz.func51,Tryz.ntmps51;go_wp2
  exact⟨rfl, .err (er:=(1,0)) (b7N h0) rfl rfl (A2 _ _ _)⟩
 ·have hpos:=hS.out.1;go_enter Tryz.func51,Tryz.ntmps51
  have hR0:Rd ((w.alloc (.cells #[.string ⟨#[]⟩, .string ⟨#[]⟩, .slice none 0 0, .slice none 0 0] 44)).alloc (.cells #[.string f, .int .i64 0, .slice none 0 0, .int .i64 0] 199)) (w.heap.size+1) f (.slice none 0 0) ⟨0,0,[]⟩:=by
   refine⟨⟨by omega,Nat.zero_le _,Nat.zero_le _,Nat.zero_le _⟩,?_,World.ownsRow_nil _ _ _ _⟩;have:=A3.new (w.alloc (.cells #[.string ⟨#[]⟩, .string ⟨#[]⟩, .slice none 0 0, .slice none 0 0] 44)) #[.string f, .int .i64 0, .slice none 0 0, .int .i64 0] 199;simpa using this
  have hA0:=(A3.new w #[.string ⟨#[]⟩, .string ⟨#[]⟩, .slice none 0 0, .slice none 0 0] 44).keep (A2 _ (.cells #[.string f, .int .i64 0, .slice none 0 0, .int .i64 0] 199) none) (by simp);have hg0:w.grownBy ((w.alloc (.cells #[.string ⟨#[]⟩, .string ⟨#[]⟩, .slice none 0 0, .slice none 0 0] 44)).alloc (.cells #[.string f, .int .i64 0, .slice none 0 0, .int .i64 0] 199)) none:=A1 (A2 _ _ _) (A2 _ _ _);have HR0:=(show Hid _ from hR0)
  clear hR0
  go_wp2_with (first
   |(go_at_call 91
     refine E7.bind (b2E _ (w.heap.size+1) f _ _ HR0) (fun er w' hr hg=>⟨rfl, .err (er:=er) (b6l h0 hr) rfl rfl (a2y hg0 hg (by omega))⟩) ?_;rintro u1 st1 v w1 H1 rfl hR1 hg1';have hg1:=a2y hg0 hg1' (by omega);have hA1:=hA0.keep hg1' (by simp);clear hg1' hA0 HR0;dsimp only)
   |(go_at_call 92
     refine a3L.bind (b2D w1 (w.heap.size+1) f st1 hR1 (b4A H1.out)) (fun er w' hr hg=>⟨rfl, .err (er:=er) (b7M h0 H1.out hr) rfl rfl (a2y hg1 hg (by omega))⟩) ?_;rintro xs st2 w2 pv H2 hR2 hg2';have hg2:=a2y hg1 hg2' (by omega);have hA2:=hA1.keep hg2' (by simp);have s2:=hR2.out.lt;clear hg2' hA1 hR1;dsimp only)
   |(go_at_call 93
     refine E7.bind (b6q w2 (w.heap.size+1) f pv st2 hR2 (hS.out.keep hg2 (by simp)) (by omega)) (fun er w' hr hg=>⟨rfl, .err (er:=er) (b8C h0 H1.out H2.out hr) rfl rfl (a2y hg2 hg (by omega))⟩) ?_;rintro c st3 v w3 H3 hc hR3 hg3';have hg3:=a2y hg2 hg3' (by omega);have hA3:=hA2.keep hg3' (by simp);have hC3:=A0 hc;obtain⟨a1,k1,a2,k2,rfl,-,-⟩:=hc;have s3:=hg3'.size;have hb3:=hR3.out.lt;have hT3:=A3.new w3 #[.string c.name, .string c.super, .slice a1 c.fields.length k1, .slice a2 c.methods.length k2] 44;clear hg3' hA2 hR2;dsimp only)
   |(go_at_call 94
     refine E7.bind (b8A _ (w.heap.size+1) f pv st3 (hR3.out.keep (A2 _ _ _))) (fun er w' hr hg=>⟨rfl, .err (er:=er) (b8B h0 H1.out H2.out H3.out hr) rfl rfl (a2y (A1 hg3 (A2 _ _ _)) hg (by omega))⟩) ?_;rintro u4 st4 v w4 H4 rfl hR4 hg4';have hg4:=a2y (A1 hg3 (A2 _ _ _)) hg4' (by omega);have hA4:=(hA3.keep (A2 _ _ none) (by simp)).keep hg4' (by simp);have hT4:=hT3.keep hg4' (by simp;omega);have hC4:=(hC3.out.keep (A2 _ _ none) (fun k e=>by cases e)).keep hg4' (fun k e=>by cases e;omega);have c0:=hA4.cell 0 _ rfl;have c1:=hA4.cell 1 _ rfl;have c2:=hA4.cell 2 _ rfl;have c3:=hA4.cell 3 _ rfl;have z0:=hA4.frozen 0;have z1:=hA4.frozen 1;have z2:=hA4.frozen 2;have z3:=hA4.frozen 3;have d0:=hT4.cell 0 _ rfl;have d1:=hT4.cell 1 _ rfl;have d2:=hT4.cell 2 _ rfl;have d3:=hT4.cell 3 _ rfl;have HC4:=A0 hC4;clear hg4' hA3 hT3 hA4 hT4 hC4;dsimp only))
  refine bodyPost_ret (v:= .agg #[.string c.name, .string c.super, .slice a1 c.fields.length k1, .slice a2 c.methods.length k2]) (by simp[results,Tryz.results51,go_sem,c0,c1,c2,c3]) rfl ?_;refine⟨C7 hg4 (j3 (g:=w.heap.size)) (fun k e=> .inl (by cases e;exact Nat.le_refl _)),?_⟩;rw[b1t h0 H1.out H2.out H3.out H4.out];exact⟨_,rfl,(HC4.out.keep (j3 (g:=w.heap.size)) (fun k e=>by cases e;omega)).base (by omega)⟩
theorem a9Q{P:Program}{c:Code}{fn:Func}{c₀:Frame}{cs:List Frame}{R:Ending→FrameMode→World→Prop}{a:Act}{w:World}(u:FrameMode)
 (h:c.wp P (bodyPost P fn (fun e w'=>R e u w')) a w):c.wpS P (bodyPostS P fn c₀ cs R) a ({c₀ with mode:=u}::cs) w:=by
 refine wpS_of_wp (Code.wp_mono (fun e a' w' hq=> ?_) h);cases e with
 |normal=>obtain⟨hd,v,hr,hR⟩:=hq;exact⟨hd,u,rfl,v,hr,hR⟩
 |ret=>obtain⟨hd,v,hr,hR⟩:=hq;exact⟨hd,u,rfl,v,hr,hR⟩
 |panic D8=>obtain⟨hd,hR⟩:=hq;exact⟨hd,u,rfl,hR⟩
 |outgrown=>exact⟨u,hq⟩
 |exit id=>exact hq
 |goto l=>exact hq
set_option maxHeartbeats 300000 in
theorem b3T(b1 b2:Nat)(x y ex ey:Int)(w:World)(h1:Hid (A3 w b1 #[.int .i64 x] 46))(h2:Hid (A3 w b2 #[.int .i64 y] 3))(hne:b1≠b2):
 CallsD Tryz.prog 50 #[.pointer (some ⟨b1,0,none⟩), .pointer (some ⟨b2,0,none⟩)] (.panicking [{v:= .iface 125 (.agg #[.int .i64 ex, .int .i64 ey]),recovered:=false}]) w fun e u' w'=>
  e= .returned (.tuple #[])∧u'= .panicking [{v:= .iface 125 (.agg #[.int .i64 ex, .int .i64 ey]),recovered:=true}]∧
   A3 w' b1 #[.int .i64 ex] 46∧A3 w' b2 #[.int .i64 ey] 3∧∃w1,w.grownBy w1 (some b1)∧w1.grownBy w' (some b2):=by
 have c1:=h1.out.cell 0 (.int .i64 x) rfl;have c2:=h2.out.cell 0 (.int .i64 y) rfl;have f1:=h1.out.frozen 0;have f2:=h2.out.frozen 0;have l1:=h1.out.lt;have l2:=h2.out.lt;refine callsD_of_wpS Tryz.func50 rfl fun c₀ cs hu=> ?_
 simp only[Tryz.ntmps50,List.size_toArray,List.length_cons,List.length_nil,Nat.reduceAdd,Nat.reduceSub,Array.replicate_succ,Array.replicate_zero,List.push_toArray,List.append_toArray,List.nil_append,List.cons_append];apply wpS_seq;apply wpS_region;simp[wpOpsS,go_sem,recoverD,hu,Exit.thenS];refine a9Q _ ?_;have hta:∀w,(Instr.typeAssert (.iface 125 (.agg #[.int .i64 ex, .int .i64 ey])) 20 125 true).run Tryz.prog w= .ok (.tuple #[.agg #[.int .i64 ex, .int .i64 ey], .bool true]) w:=by intro w;kernel_rfl
 have heq:∀w,(binOp .eql 20 (.iface 125 (.agg #[.int .i64 ex, .int .i64 ey])) .nilIface).run Tryz.prog w= .ok (.bool false) w:=by intro w;kernel_rfl
 go_wp2_with fail
 obtain⟨W,hW⟩:∃W,W=w.alloc (Obj.cells #[Value.int IntKind.i64 ex,Value.int IntKind.i64 ey] 125):=⟨_,rfl⟩
 rw[←hW];have hgW:w.grownBy W none:=by rw[hW];exact A2 _ _ _
 have hF:A3 W w.heap.size #[.int .i64 ex, .int .i64 ey] 125:=by rw[hW];exact A3.new _ _ _
 have HB1:=A0 (h1.out.keep hgW (by simp));have HB2:=A0 (h2.out.keep hgW (by simp));have d0:=hF.cell 0 (.int .i64 ex) rfl;have d1:=hF.cell 1 (.int .i64 ey) rfl;clear c1 c2 f1 f2 hF;have c1:=HB1.out.cell 0 (.int .i64 x) rfl;have c2:=HB2.out.cell 0 (.int .i64 y) rfl;have f1:=HB1.out.frozen 0;have f2:=HB2.out.frozen 0;have n1:¬b1=w.heap.size:=by omega
 have n2:¬b2=w.heap.size:=by omega
 have n3:¬b2=b1:=fun e=>hne e.symm
 clear hW hta heq hu h1 h2;go_region
 go_end0;have hgd:W.grownBy W.drew none:=B8 _ _;have k1:=((HB1.out.keep hgd (by simp)).set 0 (.int .i64 ex)).keep (A6 _ ⟨b2,0,none⟩ (.int .i64 ey)) (by simp;exact hne);have k2:=((HB2.out.keep hgd (by simp)).keep (A6 _ ⟨b1,0,none⟩ (.int .i64 ex)) (by simp;exact n3)).set 0 (.int .i64 ey);exact⟨rfl,rfl,k1,k2,_,A1 (b1d (A1 hgW hgd)) (A6 _ ⟨b1,0,none⟩ _),A6 _ ⟨b2,0,none⟩ _⟩
set_option maxHeartbeats 300000 in
theorem b4W(b1 b2:Nat)(w:World):
 CallsD Tryz.prog 50 #[.pointer (some ⟨b1,0,none⟩), .pointer (some ⟨b2,0,none⟩)] .returning w fun e u' w'=>e= .returned (.tuple #[])∧u'= .returning∧w'=w:=by
 refine callsD_of_wpS Tryz.func50 rfl fun c₀ cs hu=> ?_
 simp only[Tryz.ntmps50,List.size_toArray,List.length_cons,List.length_nil,Nat.reduceAdd,Nat.reduceSub,Array.replicate_succ,Array.replicate_zero,List.push_toArray,List.append_toArray,List.nil_append,List.cons_append];apply wpS_seq;apply wpS_region;simp[wpOpsS,go_sem,recoverD,hu,Exit.thenS];have hc:c₀={c₀ with mode:= .returning}:=by cases c₀;simp_all
 rw[hc];refine a9Q _ ?_;go_wp2_with fail
 refine bodyPost_ret (results_none rfl _ _ _) rfl ?_;exact⟨rfl,rfl⟩
theorem F5{p:Prop}(h:p):Hid p:=h
theorem a5n(w:World)(o:Obj):(w.alloc o).heap.size=w.heap.size+1:=by simp
def a5S(w:World)(r:Except Er Cl)(e:Ending)(w':World):Prop:=
 w.grownBy w' none∧∃v c,e= .returned (.tuple #[v, .int .i64 c.1, .int .i64 c.2])∧match r with
  | .ok k=>a0p w.heap.size w' v k∧c=(0,0)
  | .error er=>c=er∧v= .agg #[.string ⟨#[]⟩, .string ⟨#[]⟩, .slice none 0 0, .slice none 0 0]
set_option maxHeartbeats 1000000 in
theorem a9j(w:World)(f:ByteArray)(hf:f.size≤maxLen)(hS:Hid (p9 w)):
 Calls Tryz.prog 18 #[.string f] w (a5S w (F7 f)):=by
 have hmf:∀(fn:Fn) (first cap:Array Value) (w:World),(Instr.makeFunc fn first cap).run Tryz.prog w= .ok (.func fn first cap) w:=fun _ _ _ _=>rfl
 go_enter_defers Tryz.func18,Tryz.ntmps18
 have hA:=(((A3.new w #[.string ⟨#[]⟩, .string ⟨#[]⟩, .slice none 0 0, .slice none 0 0] 44).keep (A2 _ (.cells #[.int .i64 0] 46) none) (by simp)).keep (A2 _ (.cells #[.int .i64 0] 3) none) (by simp))
 have hE:=((A3.new (w.alloc (.cells #[.string ⟨#[]⟩, .string ⟨#[]⟩, .slice none 0 0, .slice none 0 0] 44)) #[.int .i64 0] 46).keep (A2 _ (.cells #[.int .i64 0] 3) none) (by simp))
 have hP:=A3.new ((w.alloc (.cells #[.string ⟨#[]⟩, .string ⟨#[]⟩, .slice none 0 0, .slice none 0 0] 44)).alloc (.cells #[.int .i64 0] 46)) #[.int .i64 0] 3;have hg0:w.grownBy (((w.alloc (.cells #[.string ⟨#[]⟩, .string ⟨#[]⟩, .slice none 0 0, .slice none 0 0] 44)).alloc (.cells #[.int .i64 0] 46)).alloc (.cells #[.int .i64 0] 3)) none:=A1 (A1 (A2 _ _ _) (A2 _ _ _)) (A2 _ _ _);have hS0:=hS.out.keep hg0 (by simp);simp only[a5n]at hA hE hP;have HA:=F5 hA;have HE:=F5 hE;have HP:=F5 hP;clear hA hE hP;go_wp2_with (go_at_call 51;refine(b6P _ f hf hS0).mono ?_)
 intro e w1 he;obtain⟨hg1,he⟩:=he;have hA1:=HA.out.keep hg1 (by simp);have hE1:=HE.out.keep hg1 (by simp);have hP1:=HP.out.keep hg1 (by simp);have HGG:=A0 (A1 hg0 hg1);cases hd:F7 f with
 |error er=>
  rw[hd]at he;simp only at he;subst he;unfold a5U;dsimp only;have hl:=hP1.lt;go_wp2_with fail
  refine leaves_cons (f:=50) (args:= #[.pointer (some ⟨w.heap.size+1,0,none⟩), .pointer (some ⟨w.heap.size+1+1,0,none⟩)]) (by simp) (by simp[go_sem]) ?_;refine(b3T (w.heap.size+1) (w.heap.size+1+1) 0 0 er.1 er.2 w1 hE1 hP1 (by omega)).mono ?_;rintro e u' w2 ⟨rfl,rfl,k1,k2,w3,g1,g2⟩;have hA2:=(hA1.keep g1 (by simp)).keep g2 (by simp;omega);have c0:=hA2.cell 0 (.string ⟨#[]⟩) rfl;have c1:=hA2.cell 1 (.string ⟨#[]⟩) rfl;have c2:=hA2.cell 2 (.slice none 0 0) rfl;have c3:=hA2.cell 3 (.slice none 0 0) rfl;have d0:=k1.cell 0 (.int .i64 er.1) rfl;have d1:=k2.cell 0 (.int .i64 er.2) rfl;simp[Leaves,settle,results,Tryz.results18,go_sem,c0,c1,c2,c3,d0,d1];refine⟨?_,_,er,rfl,rfl,rfl⟩;exact C7 (C7 HGG.out g1 (fun k e=>by cases e;exact .inl (by omega))) g2 (fun k e=>by cases e;exact .inl (by omega))
 |ok c=>
  rw[hd]at he;obtain⟨v,rfl,hc⟩:=he;dsimp only;have hc':=hc;obtain⟨a1,q1,a2,q2,rfl,-,-⟩:=hc;have HC:Hid (a0p _ w1 _ c):=hc';clear hc';have c0:=hA1.cell 0 (.string ⟨#[]⟩) rfl;have c1:=hA1.cell 1 (.string ⟨#[]⟩) rfl;have c2:=hA1.cell 2 (.slice none 0 0) rfl;have c3:=hA1.cell 3 (.slice none 0 0) rfl;have z0:=hA1.frozen 0;have z1:=hA1.frozen 1;have z2:=hA1.frozen 2;have z3:=hA1.frozen 3;have d0:=hE1.cell 0 (.int .i64 0) rfl;have d1:=hP1.cell 0 (.int .i64 0) rfl;have y0:=hE1.frozen 0;have y1:=hP1.frozen 0;have hl:=hP1.lt;go_wp2_with fail
  refine leaves_cons (f:=50) (args:= #[.pointer (some ⟨w.heap.size+1,0,none⟩), .pointer (some ⟨w.heap.size+1+1,0,none⟩)]) (by simp) (by simp[go_sem]) ?_;refine(b4W (w.heap.size+1) (w.heap.size+1+1) _).mono ?_;rintro e u' w2 ⟨rfl,rfl,rfl⟩;simp[Leaves,settle,results,Tryz.results18,go_sem,c0,c1,c2,c3,d0,d1]
  have hbase:a0p (w.heap.size+1+1+1) w1 (.agg #[.string c.name, .string c.super, .slice a1 c.fields.length q1, .slice a2 c.methods.length q2]) c:=by
   have:=HC.out;simp only[a5n]at this;exact this
  refine⟨?_,_,(0,0),rfl,?_⟩
  ·exact C7 (C7 (C7 HGG.out (j3 (g:=w.heap.size)) (fun k e=> .inl (by cases e;omega))) (A6 _ ⟨w.heap.size+1,0,none⟩ _) (fun k e=> .inl (by cases e;simp))) (A6 _ ⟨w.heap.size+1+1,0,none⟩ _) (fun k e=> .inl (by cases e;simp;omega))
  ·rw[hd];refine⟨a0p.base (b1:=w.heap.size+1+1+1) ?_ (by omega),rfl⟩;exact((hbase.keep (j3 (g:=w.heap.size)) (fun k e=>by cases e;omega)).keep (A6 _ ⟨w.heap.size+1,0,none⟩ _) (fun k e=>by cases e;simp)).keep (A6 _ ⟨w.heap.size+1+1,0,none⟩ _) (fun k e=>by cases e;simp)
structure Ey(w:World)(b:Nat)(f:ByteArray)(pv:Value)(a:Nat)(names:List ByteArray)(t:Int)(e p:Nat):Prop where
 blk:A3 w b #[.string f, .int .i64 a,pv, .int .i64 t, .int .i64 e, .int .i64 p] 241
 own:w.ownsRow (b+1) 9 1 pv names.length (names.map Value.string)
 fits:f.size≤2048
 at_:a≤f.size
 len:names.length≤255
 lo: -1≤t
 hi:t≤255
def D9(w:World)(b:Nat)(f:ByteArray)(pv:Value):Except Er St→Prop
 | .ok st=>Inv f st∧Ey w b f pv st.at_ st.pool (st.used-1) 0 0
 | .error er=>er.1≠0∧∃a names t,Ey w b f pv a names t er.1 er.2
section
variable{w w':World}{b k:Nat}{f:ByteArray}{pv:Value}{a e p:Nat}{names:List ByteArray}{t:Int}{s:Except Er St}
theorem Ey.poolNe(h:Ey w b f pv a names t e p):pv.ownBlock≠some b:=E9 h.own (by omega)
theorem Ey.poolLt(h:Ey w b f pv a names t e p)(hk:w.heap.size≤k):pv.ownBlock≠some k:=by
 intro hv;have:=(K9 h.own hv).2;omega
variable {row:Option Nat}
theorem Ey.keep(h:Ey w b f pv a names t e p)(hg:w.grownBy w' row)(hb:some b≠row)(hp:pv.ownBlock=none∨pv.ownBlock≠row):Ey w' b f pv a names t e p:=
 ⟨h.blk.keep hg hb,h.own.kept hg hp,h.fits,h.at_,h.len,h.lo,h.hi⟩
theorem D9.keep(h:D9 w b f pv s)(hg:w.grownBy w' row)(hb:some b≠row)(hp:pv.ownBlock=none∨pv.ownBlock≠row):D9 w' b f pv s:=by
 cases s with
 |ok st=>exact⟨h.1,h.2.keep hg hb hp⟩
 |error er=>obtain⟨h1,a,names,t,h2⟩:=h;exact⟨h1,a,names,t,h2.keep hg hb hp⟩
theorem D9.lt(h:D9 w b f pv s):b<w.heap.size:=by
 cases s with
 |ok st=>exact h.2.blk.lt
 |error er=>obtain⟨h1,a,names,t,h2⟩:=h;exact h2.blk.lt
theorem D9.poolLt(h:D9 w b f pv s)(hk:w.heap.size≤k):pv.ownBlock≠some k:=by
 cases s with
 |ok st=>exact h.2.poolLt hk
 |error er=>obtain⟨h1,a,names,t,h2⟩:=h;exact h2.poolLt hk
theorem D9.keep0(h:D9 w b f pv s)(hg:w.grownBy w' none):D9 w' b f pv s:=
 h.keep hg (by simp) (by cases hv:pv.ownBlock<;>simp)
theorem Ey.setAt(h:Ey w b f pv a names t e p)(n:Nat)(hn:n≤f.size):Ey (w.setCell ⟨b,1,none⟩ (.int .i64 n)) b f pv n names t e p:=
 ⟨h.blk.set 1 _,h.own.kept (A6 w ⟨b,1,none⟩ _) (.inr h.poolNe),h.fits,hn,h.len,h.lo,h.hi⟩
theorem Ey.setTop(h:Ey w b f pv a names t e p)(n:Int)(h1: -1≤n)(h2:n≤255):Ey (w.setCell ⟨b,3,none⟩ (.int .i64 n)) b f pv a names n e p:=
 ⟨h.blk.set 3 _,h.own.kept (A6 w ⟨b,3,none⟩ _) (.inr h.poolNe),h.fits,h.at_,h.len,h1,h2⟩
theorem Ey.setErr(h:Ey w b f pv a names t e p)(x y:Nat):Ey ((w.setCell ⟨b,4,none⟩ (.int .i64 x)).setCell ⟨b,5,none⟩ (.int .i64 y)) b f pv a names t x y:=
 ⟨(h.blk.set 4 _).set 5 _,(h.own.kept (A6 w ⟨b,4,none⟩ _) (.inr h.poolNe)).kept (A6 _ ⟨b,5,none⟩ _) (.inr h.poolNe),h.fits,h.at_,h.len,h.lo,h.hi⟩
theorem Ey.cells(h:Ey w b f pv a names t e p):w.cell? ⟨b,0,none⟩=some (.string f)∧w.cell? ⟨b,1,none⟩=some (.int .i64 a)∧w.cell? ⟨b,2,none⟩=some pv∧
 w.cell? ⟨b,3,none⟩=some (.int .i64 t)∧w.cell? ⟨b,4,none⟩=some (.int .i64 e)∧w.cell? ⟨b,5,none⟩=some (.int .i64 p)∧
 w.frozen? ⟨b,1,none⟩=false∧w.frozen? ⟨b,2,none⟩=false∧w.frozen? ⟨b,3,none⟩=false∧w.frozen? ⟨b,4,none⟩=false∧w.frozen? ⟨b,5,none⟩=false:=
 ⟨h.blk.cell 0 _ rfl,h.blk.cell 1 _ rfl,h.blk.cell 2 _ rfl,h.blk.cell 3 _ rfl,h.blk.cell 4 _ rfl,h.blk.cell 5 _ rfl,h.blk.frozen 1,h.blk.frozen 2,h.blk.frozen 3,h.blk.frozen 4,h.blk.frozen 5⟩
end
variable {α β:Type}
def C6(s:Except Er St)(m:St→R α):R α:=match s with| .ok st=>m st| .error er=> .error er
def E6(r:R α):Except Er St:=match r with| .ok (_,st)=> .ok st| .error er=> .error er
def G9(w:World)(b:Nat)(f:ByteArray)(pv:Value)(r:R α)(val:World→Value→α→Prop)(e:Ending)(w':World):Prop:=
 w.grownBy w' (some b)∧∃v a,e= .returned v∧val w' v a∧(∀a' st,r= .ok (a',st)→a'=a)∧D9 w' b f pv (E6 r)
variable {w w':World}
variable {b k n:Nat}
variable {f:ByteArray}
variable {pv v:Value}
theorem G9.bind{P:Program}{fn:FuncId}{args:Array Value}{r:R α}{val:World→Value→α→Prop}{K:Ending→World→Prop}
 (hc:Calls P fn args w (G9 w b f pv r val))
 (hok:∀a v w',Hid (∀a' st,r= .ok (a',st)→a'=a)→val w' v a→Hid (D9 w' b f pv (E6 r))→w.grownBy w' (some b)→K (.returned v) w'):Calls P fn args w K:=
 hc.mono fun e w' he=>by
  obtain⟨hg,v,a,rfl,hv,ha,hs⟩:=he;exact hok a v w' ha hv hs hg
variable {st st1 st2:St}
theorem G9.ok{r:R α}{val:World→Value→α→Prop}(a:α)
 (hr:r= .ok (a,st)) (hg:w.grownBy w' (some b)) (hv:val w' v a) (h:D9 w' b f pv (.ok st)):G9 w b f pv r val (.returned v) w':=by
 subst hr;exact⟨hg,v,a,rfl,hv,fun a' st' e=>by cases e;rfl,h⟩
variable {er:Er}
theorem G9.err{r:R α}{val:World→Value→α→Prop}(a:α)
 (hr:r= .error er) (hg:w.grownBy w' (some b)) (hv:val w' v a) (h:D9 w' b f pv (.error er)):G9 w b f pv r val (.returned v) w':=by
 subst hr;exact⟨hg,v,a,rfl,hv,(fun a' st' e=>by cases e),h⟩
def c0u(s:Except Er St)(er:Er):Except Er St:=match s with| .ok _=> .error er| .error er'=> .error er'
theorem Ey.cells0{a:Nat}{names:List ByteArray}{t:Int}(h:Ey w b f pv a names t 0 0):w.cell? ⟨b,0,none⟩=some (.string f)∧w.cell? ⟨b,1,none⟩=some (.int .i64 a)∧w.cell? ⟨b,2,none⟩=some pv∧
 w.cell? ⟨b,3,none⟩=some (.int .i64 t)∧w.cell? ⟨b,4,none⟩=some (.int .i64 0)∧w.cell? ⟨b,5,none⟩=some (.int .i64 0)∧
 w.frozen? ⟨b,1,none⟩=false∧w.frozen? ⟨b,2,none⟩=false∧w.frozen? ⟨b,3,none⟩=false∧w.frozen? ⟨b,4,none⟩=false∧w.frozen? ⟨b,5,none⟩=false:=h.cells
set_option maxHeartbeats 400000 in
theorem t7(w:World)(b:Nat)(f:ByteArray)(pv:Value)(s:Except Er St)(x y:Nat)(h:Hid (D9 w b f pv s))(hx:x≠0):
 Calls Tryz.prog 115 #[.pointer (some ⟨b,0,none⟩), .int .i64 x, .int .i64 y] w fun e w'=>e= .returned (.tuple #[])∧w.grownBy w' (some b)∧
  D9 w' b f pv (c0u s (x,y)):=by
 cases s with
 |ok st=>
  obtain⟨h1,h2⟩:=h.out;have HE:=A0 h2;obtain⟨-,-,-,-,c4,c5,-,-,-,f4,f5⟩:=h2.cells0;clear h h2;go_enter Tryz.func115,Tryz.ntmps115;go_wp2_with fail
  go_end0;exact⟨rfl,A1 (A6 _ ⟨b,4,none⟩ _) (A6 _ ⟨b,5,none⟩ _),hx,_,_,_,HE.out.setErr x y⟩
 |error er=>
  have HE:=h;obtain⟨h1,a,names,t,h2⟩:=h.out;obtain⟨-,-,-,-,c4,-,-,-,-,-,-⟩:=h2.cells;have h3:¬(er.1:Int)=0:=by omega
  clear h2;go_enter Tryz.func115,Tryz.ntmps115;go_wp2_with fail
  go_end0;exact⟨rfl,G1 _ _,HE.out⟩
theorem b5K(x c:Nat)(hx:x<2^40)(hc:c<256):wrap64 (wrap64 (256*(x:Int))+wrap64 (c:Int))=((x*256+c:Nat):Int):=by unfold wrap64;omega
theorem b2n(f:ByteArray)(a k m:Nat)(hm:m=a+k)(h:m<f.size):(f.data.toList.drop a).take (k+1)=(f.data.toList.drop a).take k++ [f[m]]:=by
 subst hm
 have hl:k<(f.data.toList.drop a).length:=by
  have:f.data.toList.length=f.size:=by simp
  simp;omega
 rw[List.take_succ_eq_append_getElem hl];simp;rfl
set_option maxHeartbeats 1000000 in
theorem X3(w:World)(b:Nat)(f:ByteArray)(pv:Value)(s:Except Er St)(n:Nat)(h:Hid (D9 w b f pv s))(hn:n≤4):
 Calls Tryz.prog 114 #[.pointer (some ⟨b,0,none⟩), .int .i64 n] w (G9 w b f pv (C6 s (A9 f n)) b1B):=by
 cases s with
 |error er=>
  have HE:=h;obtain⟨h1,a,names,t,h2⟩:=h.out;obtain⟨-,-,-,-,c4,-,-,-,-,-,-⟩:=h2.cells;have h3:¬(er.1:Int)=0:=by omega
  clear h2;go_enter Tryz.func114,Tryz.ntmps114;go_wp2_with fail
  go_loop [5,6] (fun x i=>x= .int .i64 0∧i= .int .i64 0) (fun _ _=>0)
  case atStart=>exact⟨rfl,rfl⟩
  case round=>
   obtain⟨rfl,rfl⟩:=hrel;go_wp2_with fail
   all_goals
    go_ret;exact .err (er:=er) 0 rfl (G1 _ _) rfl HE.out
 |ok st=>
  obtain⟨h1,h2⟩:=h.out;have HI:=A0 h1;have HE:=A0 h2;have hsz:=h2.fits;clear h h1 h2;go_enter Tryz.func114,Tryz.ntmps114;go_wp2_with fail
  go_loopw [5,6] (fun x i wr=>∃k:Nat,k≤n∧st.at_+k≤f.size∧i= .int .i64 k∧x= .int .i64 (beL ((f.data.toList.drop st.at_).take k))∧Ey wr b f pv (st.at_+k) st.pool (st.used-1) 0 0∧w.grownBy wr (some b)) (fun _ i _=>n-(intOf i).toNat)
  case atStart=>exact⟨0,Nat.zero_le _,HI.out.at_,rfl,rfl,HE.out,G1 _ _⟩
  case round=>
   obtain⟨k,hk,hat,rfl,rfl,he,hg⟩:=hrel;obtain⟨m,hm⟩:∃m,m=st.at_+k:=⟨_,rfl⟩
   rw[←hm]at hat he;have HM:=A0 hm;clear hm
   have HX:Hid (beL ((f.data.toList.drop st.at_).take k)<256^k):=by
    have h1:=a5Y ((f.data.toList.drop st.at_).take k);have h2:((f.data.toList.drop st.at_).take k).length≤k:=by simp;omega
    exact Nat.lt_of_lt_of_le h1 (Nat.pow_le_pow_right (by omega) h2)
   obtain⟨c0,c1,-,-,c4,-,f1,-,-,-,-⟩:=he.cells0;have HK:=A0 he;clear he;by_cases hlt:k<n
   ·by_cases hs:m<f.size
    ·go_wp2_with fail
     go_quiet (fail)
     go_wp2_with fail
     go_quiet (fail)
     go_wp2_with fail
     refine⟨⟨k+1,hlt,by have:=HM.out;omega,by go_num,?_,?_,?_⟩,by simp[intOf];omega⟩
     ·rw[b2n f st.at_ k m HM.out hs,b0G];have h4:=HX.out;have h5:256^k≤256^4:=Nat.pow_le_pow_right (by omega) (by omega);exact congrArg (Value.int .i64) (b5K _ _ (by omega) (f[m]).toNat_lt)
     ·have h7:=HM.out;rw[show st.at_+(k+1)=m+1 by omega];exact Ey.setAt (HK.out.keep (F0 _ _ none) (by simp) (by cases hv:pv.ownBlock<;>simp)) (m+1) (by omega)
     ·exact A1 (A1 hg (F0 _ _ _)) (A6 _ ⟨b,1,none⟩ _)
    ·go_wp2_with fail
     go_quiet (fail)
     have HS:Hid (D9 (wr.drewN nq) b f pv (.ok {st with at_:=m})):=⟨⟨HI.out.fits,hat,HI.out.used,HI.out.pool⟩,HK.out.keep (F0 _ _ none) (by simp) (by cases hv:pv.ownBlock<;>simp)⟩
     go_wp2_with (go_at_call 115;refine(t7 _ b f pv _ 2 f.size HS (by omega)).mono ?_;rintro e w4 ⟨rfl,hg4,hs4⟩)
     go_ret;refine .err (er:=(2,f.size)) 0 ?_ (A1 (A1 hg (F0 _ _ _)) hg4) rfl hs4;have h7:=HM.out;have h8:¬st.at_+n≤f.size:=by omega
     simp only[C6,A9,h8,if_false]
   ·go_wp2_with fail
    go_ret;have hk':k=n:=by omega
    subst hk';refine .ok (beL ((f.data.toList.drop st.at_).take k)) (st:={st with at_:=m}) ?_ hg rfl ⟨⟨HI.out.fits,hat,HI.out.used,HI.out.pool⟩,HK.out⟩;rw[HM.out]at hat⊢;simp only[C6,A9,hat,if_true]
def D6(r:R α)(m:α→St→R β):R β:=match r with| .ok (a,st)=>m a st| .error er=> .error er
theorem a5K(s:Except Er St)(p:St→R α)(m:α→St→R β):C6 s (fun st=>D6 (p st) m)=D6 (C6 s p) m:=by cases s<;>rfl
theorem a9B(f:ByteArray):name f=fun st=>D6 (A9 f 1 st) (fun n st1=>if n≤st1.used∧n<st1.pool.length then .ok (st1.pool.getD n ByteArray.empty,{st1 with used:=max st1.used (n+1)})else .error (5,st1.at_-1)):=by
 funext st
 unfold name D6;cases h:A9 f 1 st with
 |error er=>rfl
 |ok p=>
  obtain⟨n,st1⟩:=p;obtain⟨rfl,-⟩:=O6 h;simp
theorem D9.err(h:D9 w b f pv (.error er)):w.cell? ⟨b,4,none⟩=some (.int .i64 er.1)∧¬(er.1:Int)=0:=by
 obtain⟨h1,a,names,t,h2⟩:=h;exact⟨h2.cells.2.2.2.2.1,by omega⟩
theorem D9.errAt(h:D9 w b f pv (.error er)):∃a:Nat,w.cell? ⟨b,1,none⟩=some (.int .i64 a)∧a≤2048:=by
 obtain⟨h1,a,names,t,h2⟩:=h;exact⟨a,h2.cells.2.1,Nat.le_trans h2.at_ h2.fits⟩
set_option maxHeartbeats 400000 in
theorem a8J(w:World)(b:Nat)(f:ByteArray)(pv:Value)(er:Er)(x y:Int)(h:Hid (D9 w b f pv (.error er))):
 Calls Tryz.prog 115 #[.pointer (some ⟨b,0,none⟩), .int .i64 x, .int .i64 y] w fun e w'=>e= .returned (.tuple #[])∧w=w':=by
 obtain⟨c4,h3⟩:=h.out.err;go_enter Tryz.func115,Tryz.ntmps115;go_wp2_with fail
 go_end0;exact⟨rfl,rfl⟩
theorem b9a(h:A9 f k st= .ok (n,st1)):k≤st1.at_:=by rw[(O6 h).1];simp
variable {s:Except Er St}
theorem a1L(h:C6 s (A9 f k)= .ok (n,st1)):n<256^k∧k≤st1.at_:=by
 cases s with
 |error er=>cases h
 |ok st=>exact⟨(O6 h).2,b9a h⟩
theorem b6k{x:Int}(hI:Cf.Inv f st)(hE:Ey w b f pv st.at_ st.pool (st.used-1) 0 0)(hlt:n<st.pool.length)(hx:n=x∧st.used≤n):
 D9 (w.setCell ⟨b,3,none⟩ (.int .i64 x)) b f pv (.ok {st with used:=max st.used (n+1)}):=by
 obtain⟨rfl,hx⟩:=hx;have:=hI.pool;have h1:=hE.setTop n (by omega) (by omega);refine⟨⟨hI.fits,hI.at_,by simp;omega,hI.pool⟩,?_⟩;have h2:((max st.used (n+1):Nat):Int)-1=n:=by omega
 show Ey _ b f pv st.at_ st.pool (((max st.used (n+1):Nat):Int)-1) 0 0;rw[h2];exact h1
set_option maxHeartbeats 1000000 in
theorem a2t(w:World)(b:Nat)(f:ByteArray)(pv:Value)(s:Except Er St)(h:Hid (D9 w b f pv s)):
 Calls Tryz.prog 117 #[.pointer (some ⟨b,0,none⟩)] w (G9 w b f pv (C6 s (name f)) a4a):=by
 rw[a9B,a5K];go_enter Tryz.func117,Tryz.ntmps117;go_wp2_with (go_at_call 114;refine G9.bind (X3 w b f pv s 1 h (by omega)) ?_)
 rintro n v w1 H1 rfl hs1 hg1;try dsimp only
 rcases hr:C6 s (A9 f 1)with er|⟨n',st1⟩
 all_goals
  rw[hr]at H1 hs1;have HR:Hid (C6 s (A9 f 1)=_):=hr;clear hr
 ·
  obtain⟨c4,ne4⟩:=hs1.out.err;go_wp2_with fail
  go_ret;exact .err (er:=er) ByteArray.empty (by rw[HR.out];rfl) hg1 rfl hs1.out
 ·have hn:=H1.out n' st1 rfl;subst hn;obtain⟨hI,hE⟩:=hs1.out;have HI:=A0 hI;have HE:=A0 hE;obtain⟨-,c1,c2,c3,c4,-,-,-,f3,-,-⟩:=hE.cells0;have hu:=hI.used;have hp:=hI.pool;have HC:=a1L HR.out;have hn256:=HC.1;clear hs1 H1 hI hE;have HG:=A0 HE.out.own;have hfail:∀(c:¬(n'≤st1.used∧n'<st1.pool.length)),D6 (.ok (n',st1)) (fun n st1=>if n≤st1.used∧n<st1.pool.length then .ok (st1.pool.getD n ByteArray.empty,{st1 with used:=max st1.used (n+1)})else .error (5,st1.at_-1))=(.error (5,st1.at_-1):R ByteArray):=fun c=>by simp only[D6];rw[if_neg c]
  have HF:Hid _:=hfail;clear hfail
  have HW:Hid (wrap64 ((st1.at_:Int)-1)=((st1.at_-1:Nat):Int)):=by
   have:=HC.2;have:=HI.out.at_;have:=HI.out.fits;unfold Hid wrap64;omega
  have hsf:Hid (D9 w1 b f pv (.ok st1)):=⟨HI.out,HE.out⟩
  rcases a2X HG.out with⟨rfl,hnil⟩|⟨g,cap,rfl,hbg,hcell⟩
  ·have hlen0:st1.pool.length=0:=by rw[hnil];rfl
   have hu0:st1.used=0:=by omega
   by_cases hle:n'≤st1.used
   all_goals
    go_wp2_with fail
    rw[HW.out];refine(t7 w1 b f _ _ 5 (st1.at_-1) hsf (by omega)).mono ?_;rintro e w4 ⟨rfl,hg4,hs4⟩;go_wp2_with fail
    go_ret;exact .err (er:=(5,st1.at_-1)) ByteArray.empty (by rw[HR.out];exact HF.out (by omega)) (A1 hg1 hg4) rfl hs4
  ·by_cases hle:n'≤st1.used
   ·by_cases hlt:n'<st1.pool.length
    ·have hc:=hcell n' hlt;clear hcell;go_wp2_with fail
     ·go_ret;exact .ok st1.pool[n'] (st:={st1 with used:=max st1.used (n'+1)}) (by rw[HR.out];simp[D6,hle,hlt]) (A1 hg1 (A6 _ ⟨b,3,none⟩ _)) rfl (b6k HI.out HE.out hlt (by omega))
     ·go_ret;have hmx:max st1.used (n'+1)=st1.used:=by omega
      exact .ok st1.pool[n'] (st:={st1 with used:=max st1.used (n'+1)}) (by rw[HR.out];simp[D6,hle,hlt]) hg1 rfl (by rw[hmx];exact⟨HI.out,HE.out⟩)
    ·clear hcell;go_wp2_with fail
     rw[HW.out];refine(t7 w1 b f _ _ 5 (st1.at_-1) hsf (by omega)).mono ?_;rintro e w4 ⟨rfl,hg4,hs4⟩;go_wp2_with fail
     go_ret;exact .err (er:=(5,st1.at_-1)) ByteArray.empty (by rw[HR.out];exact HF.out (by omega)) (A1 hg1 hg4) rfl hs4
   ·clear hcell;go_wp2_with fail
    rw[HW.out];refine(t7 w1 b f _ _ 5 (st1.at_-1) hsf (by omega)).mono ?_;rintro e w4 ⟨rfl,hg4,hs4⟩;go_wp2_with fail
    go_ret;exact .err (er:=(5,st1.at_-1)) ByteArray.empty (by rw[HR.out];exact HF.out (by omega)) (A1 hg1 hg4) rfl hs4
theorem a6X(f:ByteArray):kind f=fun st=>D6 (A9 f 1 st) (fun k st1=>if 4<k then .error (3,st1.at_-1)else D6 (T9 f (o7 k) st1) (fun n st2=> .ok (⟨k,n⟩,st2))):=by
 funext st
 unfold kind D6;cases h:A9 f 1 st with
 |error er=>rfl
 |ok p=>
  obtain⟨n,st1⟩:=p;obtain⟨rfl,-⟩:=O6 h;simp only[Nat.add_sub_cancel];split
  ·rfl
  ·cases T9 f (o7 n) {st with at_:=st.at_+1}<;>rfl
theorem b0u(W:World)(t:Array Value)(G:Nat)(x y:Value)(T:TypeId)(ht:t.getD 2 undef= .pointer (some ⟨G,0,none⟩))(h:A3 W G #[x,y] T):(results Tryz.f118 t).run Tryz.prog W= .ok (.agg #[x,y]) W:=by
 have h0:=h.cell 0 x rfl;have h1:=h.cell 1 y rfl;rw[Array.getD_eq_getD_getElem?]at ht;simp[results,Tryz.results118,go_sem,ht,h0,h1]
set_option maxHeartbeats 1000000 in
theorem a7b(w:World)(b:Nat)(f:ByteArray)(pv:Value)(s:Except Er St)(h:Hid (D9 w b f pv s)):
 Calls Tryz.prog 118 #[.pointer (some ⟨b,0,none⟩)] w (G9 w b f pv (C6 s (kind f)) a8c):=by
 rw[a6X,a5K];have hbl:=h.out.lt;have hpl:=h.out.poolLt (Nat.le_refl _);go_enter Tryz.func118,Tryz.ntmps118;go_wp2_with (go_at_call 114;refine G9.bind (X3 _ b f pv s 1 (h.out.keep0 (A2 _ _ _)) (by omega)) ?_)
 rintro n v w1 H1 rfl hs1 hg1;try dsimp only
 have hG1:=(A3.new w _ _).keep hg1 (by simp;omega);have hlt1:=hG1.lt;obtain⟨w2,hw2⟩:∃w2,w2=w1.alloc (.cells #[.int .i64 n, .string ⟨#[]⟩] 98):=⟨_,rfl⟩
 have hg2:w1.grownBy w2 none:=by rw[hw2];exact A2 _ _ _
 have hT2:Hid (A3 w2 w1.heap.size #[.int .i64 n, .string ⟨#[]⟩] 98):=by rw[hw2];exact A3.new _ _ _
 have hG2:=hG1.keep hg2 (by simp);have hs2:=A0 (hs1.out.keep0 hg2);have hga:=A0 (K2 (A1 (A2 _ _ _) hg1) hg2);have hg01:=A0 (A1 (A2 _ _ _) hg1);have hb1:b<w1.heap.size:=by omega
 have hq1:¬w1.heap.size=w.heap.size:=by omega
 have hq2:¬w.heap.size=w1.heap.size:=by omega
 have hpl1:=hs1.out.poolLt (Nat.le_refl _);have g0:=hG1.cell 0 (.int .i64 0) rfl;have g1:=hG1.cell 1 (.string ⟨#[]⟩) rfl;have z0:=hG1.frozen 0;have z1:=hG1.frozen 1;have hGH:Hid (A3 w2 w.heap.size _ _):=hG2;have HG1:Hid (A3 w1 w.heap.size #[.int .i64 0, .string ⟨#[]⟩] 98):=hG1;rcases hr:C6 s (A9 f 1)with er|⟨n',st1⟩
 all_goals
  rw[hr]at H1 hs2 hs1;have HR:Hid (C6 s (A9 f 1)=_):=hr;clear hr hG1 hG2 hg2
 ·obtain⟨c4,ne4⟩:=hs1.out.err;obtain⟨a,c1,ha⟩:=hs1.out.errAt;subst hw2;go_wp2_with (go_at_call 115;refine(a8J _ b f pv er _ _ hs2).mono ?_;rintro e w4 ⟨rfl,rfl⟩)
  all_goals
   refine bodyPost_ret (v:= .agg #[.int .i64 n, .string ⟨#[]⟩]) (b0u _ _ w.heap.size (.int .i64 n) (.string ⟨#[]⟩) _ rfl (((HG1.out.set 0 _).set 1 _).keep (A2 _ _ none) (by simp))) rfl ?_;exact .err (er:=er) ⟨n,⟨#[]⟩⟩ (by rw[HR.out];rfl) (A1 (a3U hg01.out (Nat.le_refl _)) (A2 _ _ _)) rfl (((hs1.out.keep (A6 _ ⟨w.heap.size,0,none⟩ _) (by simp;omega) (.inr hpl)).keep (A6 _ ⟨w.heap.size,1,none⟩ _) (by simp;omega) (.inr hpl)).keep0 (A2 _ _ _))
 ·have hn:=H1.out n' st1 rfl;subst hn;have HC:=a1L HR.out;have hn256:=HC.1;obtain⟨hI,hE⟩:=hs1.out;have HI:=A0 hI;obtain⟨-,c1,-,-,c4,-,-,-,-,-,-⟩:=hE.cells0;clear hE hI H1
  have HW:Hid (wrap64 ((st1.at_:Int)-1)=((st1.at_-1:Nat):Int)):=by
   have:=HC.2;have:=HI.out.at_;have:=HI.out.fits;unfold Hid wrap64;omega
  subst hw2;by_cases h4:4<n'
  ·go_wp2_with fail
   rw[HW.out];refine(t7 _ b f _ _ 3 (st1.at_-1) hs2 (by omega)).mono ?_;rintro e w4 ⟨rfl,hg4,hs4⟩;obtain⟨c4',ne4'⟩:=(show D9 w4 b f pv (.error (3,st1.at_-1))from hs4).err;have hG4:=hGH.out.keep hg4 (by simp;omega);have hT4:=hT2.out.keep hg4 (by simp;omega);have g0:=hG4.cell 0 (.int .i64 0) rfl;have g1:=hG4.cell 1 (.string ⟨#[]⟩) rfl;have z0:=hG4.frozen 0;have z1:=hG4.frozen 1;have t0:=hT4.cell 0 (.int .i64 n') rfl;have t1:=hT4.cell 1 (.string ⟨#[]⟩) rfl;have hg5:=A1 hga.out hg4;clear hG4 hT4 hg4;go_wp2_with fail
   refine bodyPost_ret (v:= .agg #[.int .i64 n', .string ⟨#[]⟩]) (by simp[results,Tryz.results118,go_sem,g0,g1]) rfl ?_;exact .err (er:=(3,st1.at_-1)) ⟨n',⟨#[]⟩⟩ (by rw[HR.out];simp[D6,h4]) (a3U hg5 (Nat.le_refl _)) rfl ((hs4.keep (A6 _ ⟨w.heap.size,0,none⟩ _) (by simp;omega) (.inr hpl)).keep (A6 _ ⟨w.heap.size,1,none⟩ _) (by simp;omega) (.inr hpl))
  ·by_cases hh:n'=2∨n'=4
   ·have HN:Hid (o7 n'=true):=by unfold Hid o7;simp;omega
    rcases hh with rfl|rfl
    all_goals
     go_wp2_with (go_at_call 117;refine G9.bind (a2t _ b f pv _ hs2) ?_)
     rintro nm v w4 H4 rfl hs4 hg4;try dsimp only
     have hG4:=hGH.out.keep hg4 (by simp;omega);have hT4:=hT2.out.keep hg4 (by simp;omega);have g0:=hG4.cell 0 (.int .i64 0) rfl;have g1:=hG4.cell 1 (.string ⟨#[]⟩) rfl;have z0:=hG4.frozen 0;have z1:=hG4.frozen 1;have t0:=hT4.cell 0 _ rfl;have t1:=hT4.cell 1 (.string ⟨#[]⟩) rfl;have y1:=hT4.frozen 1;have hg5:=A0 (A1 hga.out hg4);have hne:¬w1.heap.size=w.heap.size:=by omega
     have hne':¬w.heap.size=w1.heap.size:=by omega
     clear hG4 hT4 hg4;go_wp2_with fail
     refine bodyPost_ret (v:= .agg #[.int .i64 _, .string nm]) (by simp[results,Tryz.results118,go_sem,g0,g1];rfl) rfl ?_;have hb4:b≠w1.heap.size:=by omega
     have hfr:∀x y z,Hid (D9 ((((w4.setCell ⟨w1.heap.size,1,none⟩ z).setCell ⟨w.heap.size,0,none⟩ x).setCell ⟨w.heap.size,1,none⟩ y)) b f pv (E6 (name f st1))):=fun x y z=>
      ((hs4.out.keep (A6 _ ⟨w1.heap.size,1,none⟩ _) (by simp;omega) (.inr hpl1)).keep (A6 _ ⟨w.heap.size,0,none⟩ _) (by simp;omega) (.inr hpl)).keep (A6 _ ⟨w.heap.size,1,none⟩ _) (by simp;omega) (.inr hpl)
     have hgf:∀x y z,w.grownBy (((w4.setCell ⟨w1.heap.size,1,none⟩ z).setCell ⟨w.heap.size,0,none⟩ x).setCell ⟨w.heap.size,1,none⟩ y) (some b):=fun x y z=>a3U (a8 hg5.out (by omega) 1 z) (Nat.le_refl _)
     rcases hr2:name f st1 with er|⟨nm',st2⟩
     ·have hfr2:=fun x y z=>(hfr x y z).out
      rw[hr2]at hfr2;exact .err (er:=er) ⟨_,nm⟩ (by rw[HR.out];simp[D6,T9,HN.out,hr2]) (hgf _ _ _) rfl (hfr2 _ _ _)
     ·have hfr2:=fun x y z=>(hfr x y z).out
      rw[hr2]at hfr2;have hnm:=H4.out nm' st2 hr2;subst hnm;exact .ok ⟨_,nm'⟩ (st:=st2) (by rw[HR.out];simp[D6,T9,HN.out,hr2]) (hgf _ _ _) rfl (hfr2 _ _ _)
   ·have HN:Hid (o7 n'=false):=by unfold Hid o7;simp;omega
    have k2:((n':Int)==2)=false:=by simp;omega
    have k4:((n':Int)==4)=false:=by simp;omega
    go_wp2_with fail
    refine bodyPost_ret (v:= .agg #[.int .i64 n', .string ⟨#[]⟩]) (b0u _ _ w.heap.size (.int .i64 n') (.string ⟨#[]⟩) _ rfl (((HG1.out.set 0 _).set 1 _).keep (A2 _ _ none) (by simp))) rfl ?_;exact .ok ⟨n',⟨#[]⟩⟩ (st:=st1) (by rw[HR.out];simp[D6,h4,T9,HN.out];rfl) (A1 (a3U hg01.out (Nat.le_refl _)) (A2 _ _ _)) rfl (((hs1.out.keep (A6 _ ⟨w.heap.size,0,none⟩ _) (by simp;omega) (.inr hpl)).keep (A6 _ ⟨w.heap.size,1,none⟩ _) (by simp;omega) (.inr hpl)).keep0 (A2 _ _ _))
def O2(op:Nat):List UInt8:=
 if op=0 then [108]else if op=2∨op=3 then [98]else if 12≤op∧op≤15 then [115]else if op=16∨op=22∨op=28∨op=29 then [99]else if 17≤op∧op≤19 then [99,109]else []
def a5X(op:Nat):ByteArray:=⟨(O2 op).toArray⟩
theorem b0s(op:Nat):(O2 op).length≤2:=by
 unfold O2;repeat' split
 all_goals simp
theorem b0Y(op:Nat):∀c∈O2 op,c=98∨c=115∨c=108∨c=99∨c=109:=by
 intro c hc;unfold O2 at hc;repeat' split at hc
 all_goals simp at hc
 all_goals first|(subst hc;simp)|(rcases hc with rfl|rfl<;>simp)
set_option maxHeartbeats 1000000 in
theorem a8y(op:Nat)(w:World):
 Calls Tryz.prog 258 #[.int .i64 op] w fun e w'=>e= .returned (.string (a5X op))∧w=w':=by
 go_enter Tryz.func258,Tryz.ntmps258;go_wp2_with fail
 all_goals
  go_ret;refine⟨congrArg (fun x=>Ending.returned (.string x)) ?_,rfl⟩;simp only[a5X,O2];repeat' split
  all_goals first|rfl|(exfalso;simp at*;omega)
def y5(f:ByteArray)(c:UInt8)(x:In)(st:St):R In:=
 if c=98 then D6 (A9 f 1 st) (fun n st1=> .ok ({x with a:=n},st1))
 else if c=115 then D6 (A9 f 2 st) (fun n st1=> .ok ({x with a:=n},st1))
 else if c=108 then D6 (A9 f 4 st) (fun n st1=> .ok ({x with a:=T8 4 n},st1))
 else if c=99 then D6 (name f st) (fun n st1=> .ok ({x with cls:=n},st1))
 else D6 (name f st) (fun n st1=> .ok ({x with mem:=n},st1))
def a0n(f:ByteArray):List UInt8→In→St→R In
 | [],x,st=> .ok (x,st)
 |c::l,x,st=>D6 (y5 f c x st) (a0n f l)
theorem c0N(f:ByteArray)(st:St)(h:st.at_≤f.size):A9 f 0 st= .ok (0,st):=by
 simp[A9,h,beL]
theorem b7r(f:ByteArray)(st:St)(_hI:st.at_≤f.size):O3 f st=D6 (A9 f 1 st) (fun op st1=>if 32≤op then .error (3,st1.at_-1)else a0n f (O2 op) ⟨op,0,ByteArray.empty,ByteArray.empty⟩ st1):=by
 unfold O3 D6;cases h:A9 f 1 st with
 |error er=>rfl
 |ok p=>
  obtain⟨op,st1⟩:=p
  have hat:st1.at_≤f.size:=by
   rw[A9]at h;split at h
   ·cases h;assumption
   ·cases h
  have h1:st1.at_-1=st.at_:=by rw[(O6 h).1];simp
  simp only[h1];split
  ·rfl
  ·rename_i h32;have hc:op=0∨op=1∨op=2∨op=3∨op=4∨op=5∨op=6∨op=7∨op=8∨op=9∨op=10∨op=11∨op=12∨op=13∨op=14∨op=15∨op=16∨op=17∨op=18∨op=19∨op=20∨op=21∨op=22∨op=23∨op=24∨op=25∨op=26∨op=27∨op=28∨op=29∨op=30∨op=31:=by omega
   have n0:=c0N f st1 hat;rcases hc with rfl|rfl|rfl|rfl|rfl|rfl|rfl|rfl|rfl|rfl|rfl|rfl|rfl|rfl|rfl|rfl|rfl|rfl|rfl|rfl|rfl|rfl|rfl|rfl|rfl|rfl|rfl|rfl|rfl|rfl|rfl|rfl
   all_goals simp[L5,Z4,b7,O2,a0n,y5,n0,T9,T8,D6]
   all_goals first
    |(cases A9 f 4 st1<;>rfl)
    |(cases A9 f 1 st1<;>rfl)
    |(cases A9 f 2 st1<;>rfl)
    |(cases name f st1<;>rfl)
    |(rcases name f st1 with _|⟨c,st3⟩;rfl;dsimp only;cases name f st3<;>rfl)
theorem b8E(hI:∀st,s= .ok st→st.at_≤f.size):C6 s (O3 f)=D6 (C6 s (A9 f 1)) (fun op st1=>if 32≤op then .error (3,st1.at_-1)else a0n f (O2 op) ⟨op,0,ByteArray.empty,ByteArray.empty⟩ st1):=by
 cases s with
 |error er=>rfl
 |ok st=>exact b7r f st (hI st rfl)
theorem D9.inv(h:D9 w b f pv s):∀st,s= .ok st→st.at_≤f.size:=by
 intro st e;subst e;exact h.1.at_
theorem a5P(W:World)(t:Array Value)(G:Nat)(x y z u:Value)(T:TypeId)(ht:t.getD 2 undef= .pointer (some ⟨G,0,none⟩))(h:A3 W G #[x,y,z,u] T):(results Tryz.f175 t).run Tryz.prog W= .ok (.agg #[x,y,z,u]) W:=by
 have h0:=h.cell 0 x rfl;have h1:=h.cell 1 y rfl;have h2:=h.cell 2 z rfl;have h3:=h.cell 3 u rfl;rw[Array.getD_eq_getD_getElem?]at ht;simp[results,Tryz.results175,go_sem,ht,h0,h1,h2,h3]
def Tot(f:ByteArray)(r:R Nat)(n k:Nat)(x:In)(s2:Except Er St):Prop:=
 match s2 with
 | .ok st2=>D6 r (fun op st1=>if 32≤op then .error (3,st1.at_-1)else a0n f (O2 op) ⟨op,0,ByteArray.empty,ByteArray.empty⟩ st1)=a0n f ((O2 n).drop k) x st2
 | .error er=>D6 r (fun op st1=>if 32≤op then .error (3,st1.at_-1)else a0n f (O2 op) ⟨op,0,ByteArray.empty,ByteArray.empty⟩ st1)= .error er
variable {r:R Nat}
theorem Tot.start(h:∀a' st,r= .ok (a',st)→a'=n)(h32:¬32≤n):Tot f r n 0 ⟨n,0,⟨#[]⟩,⟨#[]⟩⟩ (E6 r):=by
 cases r with
 |error er=>rfl
 |ok p=>
  obtain⟨a,st⟩:=p;have:=h a st rfl;subst this;simp only[Tot,E6,D6,h32,if_false,List.drop_zero];rfl
variable {x:In}
theorem Tot.done(h:Tot f r n k x (.ok st2))(hk:k=(O2 n).length)(hx:x.op=n):
 D6 r (fun op st1=>if 32≤op then .error (3,st1.at_-1)else a0n f (O2 op) ⟨op,0,ByteArray.empty,ByteArray.empty⟩ st1)= .ok (⟨n,x.a,x.cls,x.mem⟩,st2):=by
 have h':_=a0n f ((O2 n).drop k) x st2:=h;rw[h',hk,List.drop_length,a0n,←hx]
def Z5(f:ByteArray)(c:UInt8)(x:In)(st:St)(y:In)(s3:Except Er St):Prop:=match s3 with| .ok st3=>y5 f c x st= .ok (y,st3)| .error er=>y5 f c x st= .error er
theorem a3s{y:In}{s3:Except Er St}{L:ByteArray}{c:UInt8}(hL:Hid (L.data.toList=O2 n))(hlt:k<L.size)(hc:L.data[k]=c)(h:Tot f r n k x (.ok st2))
 (ho:Z5 f c x st2 y s3):Tot f r n (k+1) y s3:=by
 have h':_=a0n f ((O2 n).drop k) x st2:=h;have hk:k<(O2 n).length:=by rw[←hL.out];simpa using hlt
 have hd:(O2 n).drop k=c::(O2 n).drop (k+1):=by
  rw[List.drop_eq_getElem_cons hk,←hc];congr 1
  have:∀(l:List UInt8) (e:L.data.toList=l) (hk:k<l.length),l[k]=L.data[k]:=by intro l e hk;subst e;simp
  exact this _ hL.out hk
 rw[hd]at h';cases s3 with
 |ok st3=>simp only[Tot];rw[h',a0n];simp only[Z5]at ho;rw[ho];rfl
 |error er=>simp only[Tot];rw[h',a0n];simp only[Z5]at ho;rw[ho];rfl
section
variable{f:ByteArray}{x:In}{st:St}
variable {m:Nat}
theorem b8j(h:∀a' st',C6 (.ok st) (A9 f 1)= .ok (a',st')→a'=m):Z5 f 98 x st {x with a:=m} (E6 (A9 f 1 st)):=by
 rcases h1:A9 f 1 st with er|⟨a,s3⟩
 ·simp[Z5,E6,y5,D6,h1]
 ·have:=h a s3 h1;subst this;simp[Z5,E6,y5,D6,h1]
theorem b6Y(h:∀a' st',C6 (.ok st) (A9 f 2)= .ok (a',st')→a'=m):Z5 f 115 x st {x with a:=m} (E6 (A9 f 2 st)):=by
 rcases h1:A9 f 2 st with er|⟨a,s3⟩
 ·simp[Z5,E6,y5,D6,h1]
 ·have:=h a s3 h1;subst this;simp[Z5,E6,y5,D6,h1]
theorem b0h{z:Int}(h:∀a' st',C6 (.ok st) (A9 f 4)= .ok (a',st')→a'=m)(hz:m<256^4→z=T8 4 m):Z5 f 108 x st {x with a:=z} (E6 (A9 f 4 st)):=by
 rcases h1:A9 f 4 st with er|⟨a,s3⟩
 ·simp[Z5,E6,y5,D6,h1]
 ·have:=h a s3 h1;subst this;simp[Z5,E6,y5,D6,h1,hz (O6 h1).2]
theorem b8i{m:ByteArray}(h:∀a' st',C6 (.ok st) (name f)= .ok (a',st')→a'=m):Z5 f 99 x st {x with cls:=m} (E6 (name f st)):=by
 rcases h1:name f st with er|⟨a,s3⟩
 ·simp[Z5,E6,y5,D6,h1]
 ·have:=h a s3 h1;subst this;simp[Z5,E6,y5,D6,h1]
theorem b6Z{m:ByteArray}(h:∀a' st',C6 (.ok st) (name f)= .ok (a',st')→a'=m):Z5 f 109 x st {x with mem:=m} (E6 (name f st)):=by
 rcases h1:name f st with er|⟨a,s3⟩
 ·simp[Z5,E6,y5,D6,h1]
 ·have:=h a s3 h1;subst this;simp[Z5,E6,y5,D6,h1]
end
end Go.Proofs.YtdhophglnhcjbaaGreatDoor
