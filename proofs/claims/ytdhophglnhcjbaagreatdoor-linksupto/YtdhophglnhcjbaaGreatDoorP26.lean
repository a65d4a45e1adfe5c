/-
  Links, the second form: for every list of files whose values and letters are together at most 1048576 (counted each time they are reached), loading without checking answers what the document's own reader answers: the same error at the same file, or a program on both sides; what was handed in reads as it did. Under no other condition but that the two tables 'warden/classfile.shapes' and 'warden/link.builtIn' start as the program's text lays them, which the card ties to that text. How: one plain function tells what linking answers; the program's linking and the document's are each walked through and shown to answer what that function tells; the law's own small program is loaded with checking, whose walk, typing and fitting are walked through as well.
-/
import Derived.Test.YtdhophglnhcjbaaGreatDoorP10
import Derived.Test.YtdhophglnhcjbaaGreatDoorP24
import Derived.Test.YtdhophglnhcjbaaGreatDoorP25
import Derived.Test.YtdhophglnhcjbaaGreatDoorCards
import Derived.Test.YtdhophglnhcjbaaGreatDoorTie
import Derived.ProofKit
import Derived.LaidMore
import Derived.OpenShut
import Derived.Deep.Onto
import Derived.Stop.Joined
import Derived.SevenTiedAt
import Derived.ChangeMaps5
import Derived.Deep.Slices
import Derived.Deep.Strs
import Derived.Lib.SmallJoins
import Derived.Deep.DeepHandedRow
import Derived.Lib.LaidTab
set_option linter.all false
namespace Go.Proofs.YtdhophglnhcjbaaGreatDoor
open Go.ChangeShapes Go.WideShapes Go.ChangeAt Go.WideMaps Go.WideElems Go.RowKit Cf
theorem own:ownKnob Tryz.prog.godebug=none:=by kernel_rfl
theorem a5Q:Tryz.prog.globalNamed "warden/classfile.shapes" =some 2:=by kernel_rfl
theorem b7Y:(Tryz.prog.globals[2]?).map (·.type)=some 383:=by kernel_rfl
theorem a7O:Tryz.prog.globalNamed "warden/link.builtIn" =some 1:=by kernel_rfl
theorem b8Q:(Tryz.prog.globals[1]?).map (·.type)=some 280:=by kernel_rfl
theorem b9A:Tryz.prog.cellsOf 382=3:=by kernel_rfl
theorem c1g:Tryz.prog.cellsOf 279=2:=by kernel_rfl
theorem c1f:Tryz.prog.cellsOf 3=1:=by kernel_rfl
theorem c0v:Tryz.prog.cellsOf 4=1:=by kernel_rfl
theorem b1M:Tryz.prog.cellsOf 9=1:=by kernel_rfl
theorem b5n:(Rows.laid_warden_classfile_shapes:DataW Unit)= .agg ((List.range 32).map fun i=> .agg [.lit (.int .i64 (L5 i)), .lit (.bool (Z4 i)), .lit (.bool (b7 i))]):=by kernel_rfl
theorem b7Q:(Rows.laid_warden_link_builtIn:DataW Unit)= .agg ((List.range 9).map fun i=> .agg [.lit (.string (cl A5 i).name.data.toList), .lit (.string (cl A5 i).super.data.toList)]):=by kernel_rfl
variable {l:List Value}
variable {i o:Nat}
variable {v:Value}
theorem a7d(ho:o<3)(h:(((l.drop (i*3)).take 3).drop o).take 1=[v]):l[i*3+o]? =some v:=by
 have h1:=congrArg (fun m=>m[0]?) h;simpa[List.getElem?_take,List.getElem?_drop,ho]using h1
theorem a9T(ho:o<2)(h:(((l.drop (i*2)).take 2).drop o).take 1=[v]):l[i*2+o]? =some v:=by
 have h1:=congrArg (fun m=>m[0]?) h;simpa[List.getElem?_take,List.getElem?_drop,ho]using h1
theorem b0F{s t:ByteArray}(h:s.data.toList=t.data.toList):s=t:=by
 cases s;cases t;simp only[ByteArray.mk.injEq];exact Array.toList_inj.1 h
variable {W:World}
theorem b3l(h:laidMetH Tryz.prog Rows.linksUptoRow.laid W):p9 W∧Kx.Bin W:=by
 rw[show Rows.linksUptoRow.laid=[("warden/classfile.shapes",Rows.laid_warden_classfile_shapes),("warden/link.builtIn",Rows.laid_warden_link_builtIn)]from rfl,MakeChecks.laidMetH_plain _ _ _ (by kernel_rfl)]at h;obtain⟨ps,⟨g0,t0,cs0,f0,p0,q0,hg0,ht0,hv0,hd0,⟨g1,t1,cs1,f1,p1,q1,hg1,ht1,hv1,hd1,-⟩,-⟩,-,-⟩:=h;obtain rfl:=Option.some.inj (a5Q.symm.trans hg0);obtain rfl:=Option.some.inj (b7Y.symm.trans ht0);obtain rfl:=Option.some.inj (a7O.symm.trans hg1);obtain rfl:=Option.some.inj (b8Q.symm.trans ht1);refine⟨?_,?_⟩
 ·clear hg1 ht1 hv1 hd1;rw[b5n]at hd0;obtain⟨xs,m,rfl,hx,hlen,hn,hel⟩:=DataW.trod_array Tryz.underlying383 hd0;simp only[Prod.mk.injEq,DataW.agg.injEq]at hx
  have key:∀op,op<32→W.cell? ⟨2,op*3,none⟩=some (.int .i64 (L5 op))∧W.cell? ⟨2,op*3+1,none⟩=some (.bool (Z4 op))∧W.cell? ⟨2,op*3+2,none⟩=some (.bool (b7 op)):=by
   intro op ho;have h1:=hel op ho
   have hxo:(xs.map (·.1))[op]? =some (.agg [.lit (.int .i64 (L5 op)), .lit (.bool (Z4 op)), .lit (.bool (b7 op))]):=by
    rw[←hx.1];simp[ho]
   simp only[List.getElem?_map,Option.map_eq_some_iff]at hxo;obtain⟨x,hx1,hx2⟩:=hxo;rw[hx1,b9A]at h1;obtain⟨ys,m2,rfl,hy,-,hyn,hyf⟩:=DataW.trod_struct Tryz.underlying382 h1;rw[hy]at hx2;simp only[DataW.agg.injEq]at hx2;have a0:=hyf 0 _ rfl;have a1:=hyf 1 _ rfl;have a2:=hyf 2 _ rfl;match ys,hx2,a0,a1,a2 with
   | [y0,y1,y2],hx2,a0,a1,a2=>
     simp only[List.map_cons,List.map_nil,List.cons.injEq,and_true]at hx2;obtain⟨n,e0,e0',-⟩:=DataW.trod_int Tryz.underlying3 (show DataW.trod _ Tryz.prog W 0 _ _ m2 3 _=some y0 from a0);obtain⟨b1,e1,e1'⟩:=DataW.trod_bool Tryz.underlying4 (show DataW.trod _ Tryz.prog W 0 _ _ m2 4 _=some y1 from a1);obtain⟨b2,e2,e2'⟩:=DataW.trod_bool Tryz.underlying4 (show DataW.trod _ Tryz.prog W 0 _ _ m2 4 _=some y2 from a2);rw[e0',e1',e2']at hx2;simp only[DataW.lit.injEq,Lit.int.injEq,true_and,Lit.bool.injEq]at hx2;obtain⟨rfl,rfl,rfl⟩:=hx2;have r0:List.take (Tryz.prog.cellsOf 3) (List.drop 0 (List.take 3 (List.drop (op*3) cs0.toList)))=[.int .i64 (L5 op)]:=e0;have r1:List.take (Tryz.prog.cellsOf 4) (List.drop 1 (List.take 3 (List.drop (op*3) cs0.toList)))=[.bool (Z4 op)]:=e1;have r2:List.take (Tryz.prog.cellsOf 4) (List.drop 2 (List.take 3 (List.drop (op*3) cs0.toList)))=[.bool (b7 op)]:=e2;rw[c1f]at r0;rw[c0v]at r1 r2;exact⟨(World.var?_cell a5Q hv0 _).trans (by simpa using a7d (by decide) r0),(World.var?_cell a5Q hv0 _).trans (by simpa using a7d (by decide) r1),(World.var?_cell a5Q hv0 _).trans (by simpa using a7d (by decide) r2)⟩
  refine⟨World.block_lt_of_cell? _ ⟨2,0,none⟩ (by simpa using(key 0 (by decide)).1),key⟩
 ·clear hg0 ht0 hv0 hd0;rw[b7Q]at hd1;obtain⟨xs,m,rfl,hx,hlen,hn,hel⟩:=DataW.trod_array Tryz.underlying280 hd1;simp only[Prod.mk.injEq,DataW.agg.injEq]at hx
  have key:∀i,i<9→W.cell? ⟨1,i*2,none⟩=some (.string (cl A5 i).name)∧W.cell? ⟨1,i*2+1,none⟩=some (.string (cl A5 i).super):=by
   intro op ho;have h1:=hel op ho
   have hxo:(xs.map (·.1))[op]? =some (.agg [.lit (.string (cl A5 op).name.data.toList), .lit (.string (cl A5 op).super.data.toList)]):=by
    rw[←hx.1];simp[ho]
   simp only[List.getElem?_map,Option.map_eq_some_iff]at hxo;obtain⟨x,hx1,hx2⟩:=hxo;rw[hx1,c1g]at h1;obtain⟨ys,m2,rfl,hy,-,hyn,hyf⟩:=DataW.trod_struct Tryz.underlying279 h1;rw[hy]at hx2;simp only[DataW.agg.injEq]at hx2;have a0:=hyf 0 _ rfl;have a1:=hyf 1 _ rfl;match ys,hx2,a0,a1 with
   | [y0,y1],hx2,a0,a1=>
     simp only[List.map_cons,List.map_nil,List.cons.injEq,and_true]at hx2;obtain⟨s0,e0,e0',-⟩:=DataW.trod_string Tryz.underlying9 (show DataW.trod _ Tryz.prog W 0 _ _ m2 9 _=some y0 from a0);obtain⟨s1,e1,e1',-⟩:=DataW.trod_string Tryz.underlying9 (show DataW.trod _ Tryz.prog W 0 _ _ m2 9 _=some y1 from a1);rw[e0',e1']at hx2;simp only[DataW.lit.injEq,Lit.string.injEq]at hx2;have b0:=b0F hx2.1;have b1:=b0F hx2.2;have r0:List.take (Tryz.prog.cellsOf 9) (List.drop 0 (List.take 2 (List.drop (op*2) cs1.toList)))=[.string s0]:=e0;have r1:List.take (Tryz.prog.cellsOf 9) (List.drop 1 (List.take 2 (List.drop (op*2) cs1.toList)))=[.string s1]:=e1;rw[b1M]at r0 r1;rw[b0]at r0;rw[b1]at r1;exact⟨(World.var?_cell a7O hv1 _).trans (by simpa using a9T (by decide) r0),(World.var?_cell a7O hv1 _).trans (by simpa using a9T (by decide) r1)⟩
  exact⟨World.block_lt_of_cell? _ ⟨1,0,none⟩ (by simpa using(key 0 (by decide)).1),key⟩
theorem b7L(os:Os)(args:Array Value):laidMetH Tryz.prog Rows.linksUptoRow.laid ((World.doorLaid Tryz.prog 2000 os).forCall (fun _ _=>0) ⟨#[],args,[]⟩).memory:=by
 rw[show Rows.linksUptoRow.laid=[("warden/classfile.shapes",Rows.laid_warden_classfile_shapes),("warden/link.builtIn",Rows.laid_warden_link_builtIn)]from rfl,MakeChecks.laidMetH_plain _ _ _ (by kernel_rfl)];exact laidMet_of_run' 8 (by kernel_rfl) (by kernel_rfl)
theorem b2d{w w':World}(h:w.grownBy w' none)(may:MemPlace→Prop):w.keptBut w' may:=
 World.keptBut.congr (World.keptBut_refl w _) h.os h.output (fun i hi=>h.block i hi (by simp))
variable {H α:Type}
theorem b7P(l:List (DataW H)):Rows.uptoBulkAll l=(l.map Rows.uptoBulk).sum:=by
 induction l with
 |nil=>simp[Rows.uptoBulkAll]
 |cons x l ih=>simp only[Rows.uptoBulkAll,ih,List.map_cons,List.sum_cons]
theorem b8H(p:Addr)(a b:Nat):(p.add a).add b=p.add (a+b):=by
 unfold Addr.add;by_cases ha:a=0
 ·subst ha;simp
 ·by_cases hb:b=0
  ·subst hb;simp[ha]
  ·simp[ha,hb];omega
theorem a8L{p:Nat→α→Prop}:∀n:Nat,(∀i,i<n→∃x,p i x)→∃xs:List α,xs.length=n∧∀i (h:i<xs.length),p i xs[i]
 |0,_=>⟨[],rfl,fun i h=>by cases h⟩
 |n+1,h=>by
  obtain⟨xs,h1,h2⟩:=a8L n (fun i hi=>h i (by omega));obtain⟨x,hx⟩:=h n (by omega);refine⟨xs++ [x],by simp[h1],fun i hi=> ?_⟩;by_cases hl:i<xs.length
  ·rw[List.getElem_append_left hl];exact h2 i hl
  ·have:i=n:=by simp at hi;omega
   subst this;have e:(xs++ [x])[i]=x:=by rw[List.getElem_append_right (by omega)];simp[h1]
   rw[e];exact hx
variable {en:TypeId×Value→H}
variable {sp:Nat→Bool}
variable {held:Bool}
theorem b5G{T e sz:Nat}{enc:α→List Value}(good:α→Nat→Prop)(ht:Tryz.prog.underlying T=some (.slice e))(hc:Tryz.prog.cellsOf e=sz)(hs:∀x,(enc x).length=sz)(h0:0<sz)
 (hE:∀n cs y,DataW.trod en Tryz.prog W 0 sp held n e cs=some y→∃x,cs=enc x∧good x (Rows.uptoBulk y.1)) {fuel:Nat} {v:Value} {x:DataW H×List MemPlace} (h:DataW.trod en Tryz.prog W 0 sp held fuel T [v]=some x):
 ∃(a:Option Addr) (k:Nat) (xs:List α) (bs:List Nat),v= .slice a xs.length k∧(a=none→xs=[]∧k=0)∧bs.length=xs.length∧(∀j (h1:j<xs.length) (h2:j<bs.length),good xs[j] bs[j])∧bs.sum+1≤Rows.uptoBulk x.1∧
  ∀j (hj:j<xs.length),∃p:Addr,a=some p∧p.block<W.heap.size∧∀r u,(enc xs[j])[r]? =some u→W.cell? (p.add (j*sz+r))=some u:=by
 rcases Go.Deep.open_slice ht h with⟨h1,rfl⟩|⟨a,len,cap,m,n,D,Pl,h1,hb,hl,hm,hmm,rfl,hx⟩
 ·injection h1 with h1 _
  subst h1;exact⟨none,0,[],[],rfl,fun _=>⟨rfl,rfl⟩,rfl,fun j h=>(by cases h),by simp[Rows.uptoBulk],fun j h=>by cases h⟩
 ·injection h1 with h1 _
  subst h1;have hlm:len≤m:=by rw[hmm];split<;>omega
  obtain⟨xs,hxl,hxs⟩:=a8L (p:=fun i (x:α)=>good x (Rows.uptoBulk (D i))∧W.cells? 0 (a.add (i*sz)) sz=some (enc x)) len (fun i hi=>by
   obtain⟨cs',h2,h3⟩:=hx i (by omega);obtain⟨x,rfl,hg⟩:=hE n cs' _ h3;rw[hc]at h2;exact⟨x,hg,h2⟩)
  refine⟨some a,cap,xs,(List.range len).map (fun i=>Rows.uptoBulk (D i)),by rw[hxl],fun e=>(by cases e),by simp[hxl],fun j h1 h2=> ?_,?_,fun j hj=> ?_⟩
  ·have:=(hxs j h1).1;simpa using this
  ·simp only[Rows.uptoBulk,b7P,List.map_map];have:(List.map (Rows.uptoBulk∘D) (List.range len)).sum=(List.map (fun i=>Rows.uptoBulk (D i)) (List.range len)).sum:=rfl;omega
  ·obtain⟨_,hlen,hcell⟩:=World.cells?_some (hxs j hj).2
   have hc2:∀r u,(enc xs[j])[r]? =some u→W.cell? (a.add (j*sz+r))=some u:=fun r u hu=>by
    have hr:r<sz:=by have:=(List.getElem?_eq_some_iff.1 hu).1;rw[hs]at this;exact this
    have:=hcell r hr;rw[b8H]at this;rw[this];exact hu
   refine⟨a,rfl,?_,hc2⟩;have hz:0<(enc xs[j]).length:=by rw[hs];exact h0
   have:=hc2 0 _ (List.getElem?_eq_getElem hz);have:=World.block_lt_of_cell? _ (a.add (j*sz+0)) (by rw[this]);rwa[a1l]at this
theorem b0K:∀{bs:List Nat},(∀b∈bs,1≤b)→bs.length≤bs.sum
 | [],_=>Nat.le_refl _
 |b::bs,h=>by
  have h1:=h b (by simp);have h2:=b0K (fun x hx=>h x (by simp[hx]):∀x∈bs,1≤x);simp only[List.length_cons,List.sum_cons];omega
theorem a9c:∀{bs:List Nat} {b:Nat},b∈bs→b≤bs.sum
 | [],_,h=>by cases h
 |x::bs,b,h=>by
  rcases List.mem_cons.1 h with rfl|h
  ·simp only[List.sum_cons];omega
  ·have:=a9c h;simp only[List.sum_cons];omega
theorem b7m:laidOutB Tryz.prog=true:=by kernel_rfl
theorem b1A:Tryz.prog.readableRec 22=true:=by kernel_rfl
theorem b9J:22<Tryz.prog.types.size:=by decide+kernel
variable {d:DataW H}
variable {p:List MemPlace}
theorem b3p{W':World}(h:DataW.Trod en Tryz.prog W 0 (fun _=>true) true 22 v d p)(hg:W.grownBy W' none)(sp:Nat→Bool)(hs:∀x∈p,sp x.block=true):DataW.Trod en Tryz.prog W' 0 sp true 22 v d p:=by
 obtain⟨n,hn⟩:=h;refine⟨n,DataW.trod_stays (kids_book b7m b1A) (book_sized b1A) (fun h=>by cases h) ⟨b9J,book_self _⟩ hn (fun x hx=> ?_) hs⟩;have hlt:=DataW.trod_lt _ _ _ _ hn x hx;cases x with
 |cell b off=>exact World.cell?_of_block (hg.block b hlt (by simp))
 |map b=>exact hg.block b hlt (by simp)
def a4V(s:ByteArray)(b:Nat):Prop:=s.size+1≤b
theorem c0K(n:Nat)(cs:List Value)(y:DataW H×List MemPlace)(h:DataW.trod en Tryz.prog W 0 sp held n 9 cs=some y):∃x,cs=Kx.P9 x∧a4V x (Rows.uptoBulk y.1):=by
 obtain⟨s,e1,rfl,hs⟩:=DataW.trod_string Tryz.underlying9 h;refine⟨s,e1,?_⟩;unfold a4V;simp only[Rows.uptoBulk];have:s.data.toList.length=s.size:=by simp
 omega
theorem b4u(hv:v.cells.toList=[v])(h:DataW.Trod en Tryz.prog W 0 sp held 22 v d p)(hb:Rows.uptoBulk d≤1048576):
 ∃(a:Option Addr) (k:Nat) (xs:List ByteArray),v= .slice a xs.length k∧(a=none→xs.length=0∧k=0)∧C0 W W.heap.size 1 Kx.P9 a xs∧xs.length≤1048576∧∀s∈xs,s.size≤maxLen:=by
 obtain⟨n,hn⟩:=h;rw[hv]at hn;obtain⟨a,k,xs,bs,e,h1,h2,h3,h4,h5⟩:=b5G (enc:=Kx.P9) a4V Tryz.underlying22 b1M (fun _=>rfl) (by decide) c0K hn;have hsl:=b0K (bs:=bs) (fun b hb2=>by obtain⟨j,hj,rfl⟩:=List.getElem_of_mem hb2;have:=h3 j (by omega) hj;unfold a4V at this;omega);refine⟨a,k,xs,e,fun ha=>⟨by rw[(h1 ha).1];rfl,(h1 ha).2⟩,h5,?_,fun s hs=> ?_⟩
 ·simp only at h4;omega
 ·obtain⟨j,hj,rfl⟩:=List.getElem_of_mem hs;have hjb:j<bs.length:=by omega
  have g:=h3 j hj hjb;unfold a4V at g;have:=a9c (List.getElem_mem hjb);simp only at h4;exact Nat.le_trans (by omega:xs[j].size≤1048576) (by decide)
set_option maxRecDepth 100000 in
theorem b7a{base:Nat}(h:Value.okWide Tryz.prog W .any base 22 v):v.cells.toList=[v]:=by
 obtain⟨a,len,cap,rfl⟩:=okWide_slice Tryz.underlying22 h;rfl
set_option maxRecDepth 100000 in
theorem links_contract(H:Type)(en:TypeId×Value→H)(W:World)(base:Nat)(args:Array Value)(ds gs:List (DataW H))(before:List MemPlace)
 (hval:∀(j:Nat) t v,Tryz.f3.params[j]? =some t→args[j]? =some v→Value.okWide Tryz.prog W .any base t v)
 (hW:DataW.Whole en Tryz.prog Tryz.f3.params.toList Rows.linksSpec.vars false W args.toList ds gs before) (hL:laidMetH Tryz.prog Rows.linksUptoRow.laid W) (hk:Rows.uptoSmall H (ds++gs)=true):
 Calls Tryz.prog 3 args W fun e W'=>∃v,e= .returned v∧Rows.linksSpec.post en Tryz.prog Tryz.f3 false true false false W args v W':=by
 have hW':=hW;obtain⟨p,q,hA0,hV,rfl,hfz,hnd⟩:=hW;have hA:DataW.TrodAll en Tryz.prog W 0 (fun _=>true) true Tryz.f3.params.toList args.toList ds p:=hA0;rw[Tryz.params3]at hA hval;obtain⟨v0,d0,rfl,rfl,h0⟩:=trodAll_one hA;obtain⟨rfl,rfl⟩:=trodVars_none hV;have hk2:=of_decide_eq_true hk;simp only[List.append_nil,Rows.uptoBulkAll,Nat.add_zero]at hk2;obtain⟨a,kk,xs,rfl,hnil,hR,hlen,hz⟩:=b4u (b7a (hval 0 22 v0 rfl rfl)) h0 hk2;obtain⟨hS,hB⟩:=b3l hL;refine(Kx.c1s W W.heap.size (Nat.le_refl _) xs a kk hnil hR hlen hz hS hB (fun W2 hW2=>Kx.c1u W2 (hS.keep hW2 (by simp)) (hB.keep hW2))).mono fun e W' ⟨he,hg⟩=> ?_
 subst he;have e1:Rows.linksSpec.fn H ([d0]++ [])={results:=[.lit (.bool true)],args:=[d0]}:=by simp[Rows.linksSpec]
 refine⟨_,rfl,_,_,_,[],p,[],hW',?_,?_,?_,b2d hg _,fun h=>by cases h⟩
 ·rw[e1];exact trodAll_mk1 (shut_bool Tryz.underlying4 true)
 ·rw[e1];exact trodAll_mk1 (b3p h0 hg _ (fun x hx=>by simpa using hW'.lt x (by simpa using hx)))
 ·rw[e1];rfl
theorem b3D(os:Os)(en:TypeId×Value→H):∃places,DataW.whole en Tryz.prog ((World.doorLaid Tryz.prog 2000 os).forCall (fun _ _=>0) ⟨#[], #[.slice none 0 0],[]⟩).memory Tryz.f3.params.toList Rows.linksSpec.vars false (#[.slice none 0 0]:Array Value).toList 8=some ([.nil],[],places):=
 ⟨[],by kernel_rfl⟩
set_option maxRecDepth 100000 in
theorem b2M(os:Os)(started:os.Started)(H:Type)(en:TypeId×Value→H)(F:Stop.Interp):
 ReturnsInHanded {} Tryz.checked os 3 .any ((Rows.OpenSpec.upto Rows.linksSpec).preRow en Tryz.prog Tryz.f3 Rows.linksUptoRow.domain false Rows.linksUptoRow.laid) (((Rows.OpenSpec.upto Rows.linksSpec).at F).post en Tryz.prog Tryz.f3 false true false false):=by
 obtain⟨places,hx⟩:=b3D os en
 refine returnsInHanded_of_row (C:=Tryz.checked) (s:=Rows.OpenSpec.upto Rows.linksSpec) own started (by kernel_rfl) Tryz.func3
  (witness_row_at (enc:=en) (C:=Tryz.checked) false (World.doorLaid Tryz.prog 2000 os) #[.slice none 0 0] rfl (by kernel_rfl) (by kernel_rfl) (by kernel_rfl)
    (OpenSpec.preRow_of_cond 8 hx (by kernel_rfl) (fun k hk=>by cases hk;kernel_rfl) (by kernel_rfl) (b7L os _))) ?_
 intro W base args ds gs before hval hW _ hcond _ hL _ _;exact links_contract H en W base args ds gs before hval hW hL (hcond _ rfl)
theorem links_said:Rows.LinksUptoSaid:=
 OpenClaim.holds_of_cond 3 Tryz.f3 rfl rfl rfl rfl rfl rfl rfl ⟨rfl,rfl,rfl,rfl,rfl⟩ rfl rfl rfl rfl rfl (by kernel_rfl) Tryz.func3 b2N
  (of_decide_eq_true (by kernel_rfl)) (by unfold Func.isWrapper;first|(rw[if_pos (by decide+kernel)];kernel_rfl)|(rw[if_neg (by decide+kernel)];exact⟨rfl,rfl⟩))
  (fun os started H en _ F=>by rw[OpenClaim.pre_eq_preRow];exact b2M os started H en F)
theorem links_card:Rows.LinksUptoCardSaid:=
 Claim7.holds_tied_plain_at .later [] _ _ _ _ links_said (fun _ h=>by cases h) (by kernel_rfl) (fun _ h=>by cases h) linksUpto_row_tie rfl ⟨rfl,rfl⟩ (by kernel_rfl) rfl
  (fun f fn hf hfn=>by
    obtain rfl:f=3:=Option.some.inj ((show Tryz.prog.funcNamed "warden/wardenlaw.Links" =some 3 by kernel_rfl).symm.trans hf)|>.symm;obtain rfl:fn=Tryz.f3:=(Option.some.inj (Tryz.func3.symm.trans hfn)).symm
    exact⟨by kernel_rfl,fun j t ht=>by
     rw[Tryz.params3]at ht;obtain rfl:t=22:=by simpa using Array.mem_of_getElem? ht
     exact(show Tryz.prog.wantsStandIn 22=false by kernel_rfl)⟩)
  (by kernel_rfl)
#print axioms links_card
end Go.Proofs.YtdhophglnhcjbaaGreatDoor
