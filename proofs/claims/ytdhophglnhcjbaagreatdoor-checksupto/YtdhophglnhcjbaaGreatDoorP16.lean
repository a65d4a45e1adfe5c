/-
  Checks, the second form: for every list of files whose values and letters are together at most 1048576 (counted each time they are reached), loading with checking answers what the document's own reader answers: the same error at the same place, or a program on both sides; what was handed in reads as it did. Under no other condition but that the two tables 'warden/classfile.shapes' and 'warden/link.builtIn' start as the program's text lays them, which the card ties to that text. How: one plain function tells what linking answers; the program's linking and the document's are each walked through and shown to answer what that function tells; the law's own small program is loaded with checking, whose walk, typing and fitting are walked through as well.
-/
import Derived.Test.YtdhophglnhcjbaaGreatDoorP14
import Derived.Test.YtdhophglnhcjbaaGreatDoorP15
import Derived.Test.YtdhophglnhcjbaaGreatDoorCards
import Derived.Test.YtdhophglnhcjbaaGreatDoorTie
import Derived.LaidMore
import Derived.OpenShut
import Derived.Deep.Onto
import Derived.Stop.Joined
import Derived.ChangeMaps5
import Derived.Deep.Slices
import Derived.Deep.Strs
import Derived.Lib.SmallJoins
import Derived.Deep.DeepHandedRow
import Derived.Lib.LaidTab
set_option linter.all false
set_option maxRecDepth 100000
set_option maxHeartbeats 40000000
open Go.Proofs.Tryz
open List renaming take->la,drop->lb,range->lg,sum_cons->lj,map_cons->lk,getElem?_map->ln,map_nil->lp,getElem_of_mem->lq
open Go renaming Value->ld,DataW->le,MemPlace->li
open Option renaming some->lf,map_eq_some_iff->lo
open Go.World renaming var?_cell->lh,block_lt_of_cell?->ll,doorLaid->lm
open Option renaming none→N,some→O
open Go.IntKind renaming i64→I
open Go.Value renaming slice→V
open Go.Ending renaming returned→Y
open Go.Addr renaming mk→A
namespace Go.Proofs.YtdhophglnhcjbaaGreatDoor
section
theorem c7n{P:Prop}(h:P:=by
 have h1:=congrArg (λm=>m[0]?) h;simpa[List.getElem?_take,List.getElem?_drop,ho]using h1):P:=h
end
section
open Go.ChangeShapes Go.WideShapes Go.ChangeAt Go.WideMaps Go.WideElems Go.RowKit Cf
theorem own:ownKnob prog.godebug=N:=by kernel_rfl
theorem a7t:prog.globalNamed "warden/classfile.shapes" =O 2:=by kernel_rfl
theorem c1r:(prog.globals[2]?).map (·.type)=O 383:=by kernel_rfl
theorem a9J:prog.globalNamed "warden/link.builtIn" =O 1:=by kernel_rfl
theorem c2H:(prog.globals[1]?).map (·.type)=O 280:=by kernel_rfl
theorem c3x:prog.cellsOf 382=3:=by kernel_rfl
theorem c5b:prog.cellsOf 279=2:=by kernel_rfl
theorem c5a:prog.cellsOf 3=1:=by kernel_rfl
theorem c4t:prog.cellsOf 4=1:=by kernel_rfl
theorem b4I:prog.cellsOf 9=1:=by kernel_rfl
theorem b8f:(Rows.laid_warden_classfile_shapes:le Unit)= .agg ((lg 32).map λi=> .agg [.lit (.int I (P0 i)), .lit (.bool (a0I i)), .lit (.bool (a0V i))]):=by kernel_rfl
theorem c1i:(Rows.laid_warden_link_builtIn:le Unit)= .agg ((lg 9).map λi=> .agg [.lit (.string (cl B6 i).n.data.toList), .lit (.string (cl B6 i).s.data.toList)]):=by kernel_rfl
variable {l:List Value}{i o:Nat}{v:Value}
theorem a8K(ho:o<3)(h:(((l.drop (i*3)).take 3).drop o).take 1=[v]):l[i*3+o]? =O v:=by
 exact c7n
theorem b2z(ho:o<2)(h:(((l.drop (i*2)).take 2).drop o).take 1=[v]):l[i*2+o]? =O v:=by
 exact c7n
theorem b3q{s t:ByteArray}(h:s.data.toList=t.data.toList):s=t:=by
 cases s;cases t;simp only[ByteArray.mk.injEq];exact Array.toList_inj.1 h
variable {W:World}
theorem b6a(h:laidMetH prog Rows.checksUptoRow.laid W):Shp W/\Kx.Bin W:=by
 rw[show Rows.checksUptoRow.laid=[("warden/classfile.shapes",Rows.laid_warden_classfile_shapes),("warden/link.builtIn",Rows.laid_warden_link_builtIn)]from rfl,MakeChecks.laidMetH_plain _ _ _ Ok0]at h;obtain⟨ps,⟨g0,t0,D,f0,p0,q0,ab,ae,y,K,⟨g1,t1,aa,f1,p1,q1,ac,af,S,L,-⟩,-⟩,-,-⟩:=h;obtain rfl:=lf.inj (a7t.symm.trans ab);obtain rfl:=lf.inj (c1r.symm.trans ae);obtain rfl:=lf.inj (a9J.symm.trans ac);obtain rfl:=lf.inj (c2H.symm.trans af);refine⟨?_,?_⟩
 ·clear ac af S L;rw[b8f]at K;obtain⟨xs,m,rfl,hx,ad,hn,M⟩:=DataW.trod_array underlying383 K;simp only[Prod.mk.injEq,DataW.agg.injEq]at hx
  have w:∀g,g<32->W.cell? (A 2 (g*3) N)=O (.int I (P0 g))/\W.cell? (A 2 (g*3+1) N)=O (.bool (a0I g))/\W.cell? (A 2 (g*3+2) N)=O (.bool (a0V g)):=by
   intro g ho;have h1:=M g ho
   have q:(xs.map (·.1))[g]? =O (.agg [.lit (.int I (P0 g)), .lit (.bool (a0I g)), .lit (.bool (a0V g))]):=by
    rw[<-hx.1];simp[ho]
   simp only[ln,lo]at q;obtain⟨x,T,e⟩:=q;rw[T,c3x]at h1;obtain⟨ys,m2,rfl,hy,-,ah,j⟩:=DataW.trod_struct underlying382 h1;rw[hy]at e;simp only[DataW.agg.injEq]at e;have B:=j 0 _ rfl;have C:=j 1 _ rfl;have a2:=j 2 _ rfl;match ys,e,B,C,a2 with
   | [y0,y1,y2],e,B,C,a2=>
     simp only[lk,lp,List.cons.injEq,and_true]at e;obtain⟨n,e0,E,-⟩:=DataW.trod_int underlying3 (show DataW.trod _ prog W 0 _ _ m2 3 _=O y0 from B);obtain⟨b1,e1,F⟩:=DataW.trod_bool underlying4 (show DataW.trod _ prog W 0 _ _ m2 4 _=O y1 from C);obtain⟨b2,e2,ag⟩:=DataW.trod_bool underlying4 (show DataW.trod _ prog W 0 _ _ m2 4 _=O y2 from a2);rw[E,F,ag]at e;simp only[DataW.lit.injEq,Lit.int.injEq,true_and,Lit.bool.injEq]at e;obtain⟨rfl,rfl,rfl⟩:=e;have r0:la (prog.cellsOf 3) (lb 0 (la 3 (lb (g*3) D.toList)))=[.int I (P0 g)]:=e0;have r1:la (prog.cellsOf 4) (lb 1 (la 3 (lb (g*3) D.toList)))=[.bool (a0I g)]:=e1;have r2:la (prog.cellsOf 4) (lb 2 (la 3 (lb (g*3) D.toList)))=[.bool (a0V g)]:=e2;rw[c5a]at r0;rw[c4t]at r1 r2;exact⟨(lh a7t y _).trans (by simpa using a8K Od r0),(lh a7t y _).trans (by simpa using a8K Od r1),(lh a7t y _).trans (by simpa using a8K Od r2)⟩
  refine⟨ll _ (A 2 0 N) (by simpa using(w 0 Od).1),w⟩
 ·clear ab ae y K;rw[c1i]at L;obtain⟨xs,m,rfl,hx,ad,hn,M⟩:=DataW.trod_array underlying280 L;simp only[Prod.mk.injEq,DataW.agg.injEq]at hx
  have w:∀i,i<9->W.cell? (A 1 (i*2) N)=O (.string (cl B6 i).n)/\W.cell? (A 1 (i*2+1) N)=O (.string (cl B6 i).s):=by
   intro g ho;have h1:=M g ho
   have q:(xs.map (·.1))[g]? =O (.agg [.lit (.string (cl B6 g).n.data.toList), .lit (.string (cl B6 g).s.data.toList)]):=by
    rw[<-hx.1];simp[ho]
   simp only[ln,lo]at q;obtain⟨x,T,e⟩:=q;rw[T,c5b]at h1;obtain⟨ys,m2,rfl,hy,-,ah,j⟩:=DataW.trod_struct underlying279 h1;rw[hy]at e;simp only[DataW.agg.injEq]at e;have B:=j 0 _ rfl;have C:=j 1 _ rfl;match ys,e,B,C with
   | [y0,y1],e,B,C=>
     simp only[lk,lp,List.cons.injEq,and_true]at e;obtain⟨s0,e0,E,-⟩:=DataW.trod_string underlying9 (show DataW.trod _ prog W 0 _ _ m2 9 _=O y0 from B);obtain⟨s1,e1,F,-⟩:=DataW.trod_string underlying9 (show DataW.trod _ prog W 0 _ _ m2 9 _=O y1 from C);rw[E,F]at e;simp only[DataW.lit.injEq,Lit.string.injEq]at e;have b0:=b3q e.1;have b1:=b3q e.2;have r0:la (prog.cellsOf 9) (lb 0 (la 2 (lb (g*2) aa.toList)))=[.string s0]:=e0;have r1:la (prog.cellsOf 9) (lb 1 (la 2 (lb (g*2) aa.toList)))=[.string s1]:=e1;rw[b4I]at r0 r1;rw[b0]at r0;rw[b1]at r1;exact⟨(lh a9J S _).trans (by simpa using b2z Od r0),(lh a9J S _).trans (by simpa using b2z Od r1)⟩
  exact⟨ll _ (A 1 0 N) (by simpa using(w 0 Od).1),w⟩
theorem c1c(os:Go.Os)(args:Array ld):laidMetH prog Rows.checksUptoRow.laid ((lm prog 2000 os).forCall (λ_ _=>0) ⟨#[],args,[]⟩).memory:=by
 rw[show Rows.checksUptoRow.laid=[("warden/classfile.shapes",Rows.laid_warden_classfile_shapes),("warden/link.builtIn",Rows.laid_warden_link_builtIn)]from rfl,MakeChecks.laidMetH_plain _ _ _ Ok0];exact laidMet_of_run' 8 Ok0 Ok0
theorem b4Y{w w':World}(h:w.grownBy w' N)(may:li->Prop):w.keptBut w' may:=
 World.keptBut.congr (World.keptBut_refl w _) h.os h.output (λi hi=>h.block i hi Os)
variable {H α:Type}
theorem c1h(l:List (le H)):Rows.uptoBulkAll l=(l.map Rows.uptoBulk).sum:=by
 induction l with
 |nil=>simp[Rows.uptoBulkAll]
 |cons x l ih=>simp only[Rows.uptoBulkAll,ih,lk,lj]
theorem c2A(p:Addr)(a b:Nat):(p.add a).add b=p.add (a+b):=by
 unfold Addr.add;by_cases ha:a=0
 ·subst ha;simp
 ·by_cases hb:b=0
  ·subst hb;simp[ha]
  ·simp[ha,hb];omega
theorem b0R{p:Nat->α->Prop}:∀n:Nat,(∀i,i<n->∃x,p i x)->∃g:List α,g.length=n/\∀i (h:i<g.length),p i g[i]
 |0,_=>⟨[],rfl,λi h=>by cases h⟩
 |n+1,h=>by
  obtain⟨g,j,q⟩:=b0R n (λi hi=>h i Oo);obtain⟨x,w⟩:=h n Oo;refine⟨g++ [x],by simp[j],λi hi=> ?_⟩;by_cases hl:i<g.length
  ·rw[List.getElem_append_left hl];exact q i hl
  ·have:i=n:=by simp at hi;omega
   subst this;have e:(g++ [x])[i]=x:=by rw[List.getElem_append_right Oo];simp[j]
   rw[e];exact w
variable {en:TypeId×Value->H}{sp:Nat->Bool}{held:Bool}
theorem b8z{T e sz:Nat}{enc:α->List ld}(g:α->Nat->Prop)(ht:prog.underlying T=O (.slice e))(hc:prog.cellsOf e=sz)(hs:∀x,(enc x).length=sz)(h0:0<sz)
 (hE:∀n cs y,DataW.trod en prog W 0 sp held n e cs=O y->∃x,cs=enc x/\g x (Rows.uptoBulk y.1)) {B:Nat} {v:ld} {x:le H×List li} (h:DataW.trod en prog W 0 sp held B T [v]=O x):
 ∃(a:Option Addr) (k:Nat) (xs:List α) (bs:List Nat),v= .slice a xs.length k/\(a=N->xs=[]/\k=0)/\bs.length=xs.length/\(∀j (q:j<xs.length) (K:j<bs.length),g xs[j] bs[j])/\bs.sum+1<=Rows.uptoBulk x.1/\
  ∀j (hj:j<xs.length),∃p:Addr,a=O p/\p.block<W.heap.size/\∀r u,(enc xs[j])[r]? =O u->W.cell? (p.add (j*sz+r))=O u:=by
 rcases Go.Deep.open_slice ht h with⟨q,rfl⟩|⟨a,len,L,m,n,D,Pl,q,hb,hl,hm,S,rfl,hx⟩
 ·injection q with q _
  subst q;exact⟨N,0,[],[],rfl,λ_=>⟨rfl,rfl⟩,rfl,λj h=>(by cases h),by simp[Rows.uptoBulk],λj h=>by cases h⟩
 ·injection q with q _
  subst q;have ab:len<=m:=by rw[S];split<;>omega
  obtain⟨xs,E,F⟩:=b0R (p:=λi (x:α)=>g x (Rows.uptoBulk (D i))/\W.cells? 0 (a.add (i*sz)) sz=O (enc x)) len (λi hi=>by
   obtain⟨M,K,h3⟩:=hx i Oo;obtain⟨x,rfl,hg⟩:=hE n M _ h3;rw[hc]at K;exact⟨x,hg,K⟩)
  refine⟨O a,L,xs,(lg len).map (λi=>Rows.uptoBulk (D i)),by rw[E],λe=>(by cases e),by simp[E],λj q K=> ?_,?_,λj hj=> ?_⟩
  ·have:=(F j q).1;simpa using this
  ·simp only[Rows.uptoBulk,c1h,List.map_map];have:(List.map (Rows.uptoBulk∘D) (lg len)).sum=(List.map (λi=>Rows.uptoBulk (D i)) (lg len)).sum:=rfl;omega
  ·obtain⟨_,aa,w⟩:=World.cells?_some (F j hj).2
   have C:∀r u,(enc xs[j])[r]? =O u->W.cell? (a.add (j*sz+r))=O u:=λr u hu=>by
    have hr:r<sz:=by have:=(List.getElem?_eq_some_iff.1 hu).1;rw[hs]at this;exact this
    have:=w r hr;rw[c2A]at this;rw[this];exact hu
   refine⟨a,rfl,?_,C⟩;have hz:0<(enc xs[j]).length:=by rw[hs];exact h0
   have:=C 0 _ (List.getElem?_eq_getElem hz);have:=ll _ (a.add (j*sz+0)) (by rw[this]);rwa[a4y]at this
theorem b3v:∀{bs:List Nat},(∀b∈bs,1<=b)->bs.length<=bs.sum
 | [],_=>Nat.le_refl _
 |b::bs,h=>by
  have g:=h b Os;have j:=b3v (λx e=>h x (by simp[e]):∀x∈bs,1<=x);simp only[List.length_cons,lj];omega
theorem b1l:∀{bs:List Nat} {b:Nat},b∈bs->b<=bs.sum
 | [],_,h=>by cases h
 |x::bs,b,h=>by
  rcases List.mem_cons.1 h with rfl|h
  ·simp only[lj];omega
  ·have:=b1l h;simp only[lj];omega
theorem c0w:laidOutB prog=true:=by kernel_rfl
theorem b4r:prog.readableRec 22=true:=by kernel_rfl
theorem c3G:22<prog.types.size:=by decide+kernel
variable {d:DataW H}{p:List MemPlace}
theorem b6f{g:World}(h:DataW.Trod en prog W 0 (λ_=>true) true 22 v d p)(j:W.grownBy g N)(sp:Nat->Bool)(w:∀x∈p,sp x.block=true):DataW.Trod en prog g 0 sp true 22 v d p:=by
 obtain⟨n,q⟩:=h;refine⟨n,DataW.trod_stays (kids_book c0w b4r) (book_sized b4r) (λh=>by cases h) ⟨c3G,book_self _⟩ q (λx y=> ?_) w⟩;have e:=DataW.trod_lt _ _ _ _ q x y;cases x with
 |cell b off=>exact World.cell?_of_block (j.block b e Os)
 |map b=>exact j.block b e Os
def a6t(s:ByteArray)(b:Nat):Prop:=s.size+1<=b
theorem c4D(n:Nat)(cs:List ld)(y:le H×List li)(h:DataW.trod en prog W 0 sp held n 9 cs=O y):∃x,cs=Kx.X3 x/\a6t x (Rows.uptoBulk y.1):=by
 obtain⟨s,e,rfl,g⟩:=DataW.trod_string underlying9 h;refine⟨s,e,?_⟩;unfold a6t;simp only[Rows.uptoBulk];have:s.data.toList.length=s.size:=by simp
 omega
theorem b7m(hv:v.cells.toList=[v])(h:DataW.Trod en prog W 0 sp held 22 v d p)(S:Rows.uptoBulk d<=1048576):
 ∃(a:Option Addr) (k:Nat) (xs:List ByteArray),v= V a xs.length k/\(a=N->xs.length=0/\k=0)/\C0 W W.heap.size 1 Kx.X3 a xs/\xs.length<=1048576/\∀s∈xs,s.size<=maxLen:=by
 obtain⟨n,E⟩:=h;rw[hv]at E;obtain⟨a,k,xs,bs,e,B,M,C,D,F⟩:=b8z (enc:=Kx.X3) a6t underlying22 b4I (λ_=>rfl) Od c4D E;have L:=b3v (bs:=bs) (λb w=>by obtain⟨j,y,rfl⟩:=lq w;have:=C j Oo y;unfold a6t at this;omega);refine⟨a,k,xs,e,λha=>⟨by rw[(B ha).1];rfl,(B ha).2⟩,F,?_,λs K=> ?_⟩
 ·simp only at D;omega
 ·obtain⟨j,y,rfl⟩:=lq K;have q:j<bs.length:=by omega
  have g:=C j y q;unfold a6t at g;have:=b1l (List.getElem_mem q);simp only at D;exact Nat.le_trans (by omega:xs[j].size<=1048576) Od
theorem c0f{base:Nat}(h:Value.okWide prog W .any base 22 v):v.cells.toList=[v]:=by
 obtain⟨a,len,e,rfl⟩:=okWide_slice underlying22 h;rfl
theorem checks_contract(H:Type)(en:TypeId×ld->H)(W:World)(base:Nat)(args:Array ld)(ds S:List (le H))(g:List li)
 (w:∀(j:Nat) t v,Tryz.f4.params[j]? =O t->args[j]? =O v->Value.okWide prog W .any base t v)
 (hW:DataW.Whole en prog Tryz.f4.params.toList Rows.checksSpec.vars false W args.toList ds S g) (hL:laidMetH prog Rows.checksUptoRow.laid W) (hk:Rows.uptoSmall H (ds++S)=true):
 Calls prog 4 args W λe L=>∃v,e= Y v/\Rows.checksSpec.post en prog Tryz.f4 false true false false W args v L:=by
 have y:=hW;obtain⟨p,q,K,hV,rfl,aa,ab⟩:=hW;have hA:DataW.TrodAll en prog W 0 (λ_=>true) true Tryz.f4.params.toList args.toList ds p:=K;rw[Tryz.params4]at hA w;obtain⟨v0,M,rfl,rfl,T⟩:=trodAll_one hA;obtain⟨rfl,rfl⟩:=trodVars_none hV;have C:=of_decide_eq_true hk;simp only[List.append_nil,Rows.uptoBulkAll,Nat.add_zero]at C;obtain⟨a,kk,xs,rfl,E,hR,D,hz⟩:=b7m (c0f (w 0 22 v0 rfl rfl)) T C;obtain⟨hS,hB⟩:=b6a hL;refine(Kx.c5n W W.heap.size (Nat.le_refl _) xs a kk E hR D hz hS hB (λW2 B=>Kx.c5o W2 (hS.keep B Os) (hB.keep B))).mono λe L ⟨he,hg⟩=> ?_
 subst he;have F:Rows.checksSpec.fn H ([M]++ [])={results:=[.lit (.bool true)],args:=[M]}:=by simp[Rows.checksSpec]
 refine⟨_,rfl,_,_,_,[],p,[],y,?_,?_,?_,b4Y hg _,λh=>by cases h⟩
 ·rw[F];exact trodAll_mk1 (shut_bool underlying4 true)
 ·rw[F];exact trodAll_mk1 (b6f T hg _ (λx hx=>by simpa using y.lt x (by simpa using hx)))
 ·rw[F];rfl
theorem b5Q(os:Go.Os)(en:TypeId×ld->H):∃e,DataW.whole en prog ((lm prog 2000 os).forCall (λ_ _=>0) ⟨#[], #[V N 0 0],[]⟩).memory Tryz.f4.params.toList Rows.checksSpec.vars false (#[V N 0 0]:Array ld).toList 8=O ([.nil],[],e):=
 ⟨[],by kernel_rfl⟩
theorem b5v(os:Go.Os)(e:os.Started)(H:Type)(en:TypeId×ld->H)(F:Stop.Interp):
 ReturnsInHanded {} Tryz.checked os 4 .any ((Rows.OpenSpec.upto Rows.checksSpec).preRow en prog Tryz.f4 Rows.checksUptoRow.domain false Rows.checksUptoRow.laid) (((Rows.OpenSpec.upto Rows.checksSpec).at F).post en prog Tryz.f4 false true false false):=by
 obtain⟨y,K⟩:=b5Q os en
 refine returnsInHanded_of_row (C:=Tryz.checked) (s:=Rows.OpenSpec.upto Rows.checksSpec) own e Ok0 func4
  (witness_row_at (enc:=en) (C:=Tryz.checked) false (lm prog 2000 os) #[V N 0 0] rfl Ok0 Ok0 Ok0
    (OpenSpec.preRow_of_cond 8 K Ok0 (λk hk=>by cases hk;kernel_rfl) Ok0 (c1c os _))) ?_
 intro W base q ds B g w E _ j _ D _ _;exact checks_contract H en W base q ds B g w E D (j _ rfl)
theorem checks_said:Rows.ChecksUptoSaid:=
 OpenClaim.holds_of_cond 4 Tryz.f4 rfl rfl rfl rfl rfl rfl rfl ⟨rfl,rfl,rfl,rfl,rfl⟩ rfl rfl rfl rfl rfl Ok0 func4 b5w
  (of_decide_eq_true Ok0) (by unfold Func.isWrapper;first|(rw[if_pos (by decide+kernel)];kernel_rfl)|(rw[if_neg (by decide+kernel)];exact⟨rfl,rfl⟩))
  (λos e H en _ F=>by rw[OpenClaim.pre_eq_preRow];exact b5v os e H en F)
theorem checks_card:Rows.ChecksUptoCardSaid:=
 Claim7.holds_tied_plain_at .later [] _ _ _ _ checks_said (λ_ h=>by cases h) Ok0 (λ_ h=>by cases h) checksUpto_row_tie rfl ⟨rfl,rfl⟩ Ok0 rfl
  (λf q w e=>by
    obtain rfl:f=4:=lf.inj ((show prog.funcNamed "warden/wardenlaw.Checks" =O 4 by kernel_rfl).symm.trans w)|>.symm;obtain rfl:q=Tryz.f4:=(lf.inj (func4.symm.trans e)).symm
    exact⟨by kernel_rfl,λj t g=>by
     rw[Tryz.params4]at g;obtain rfl:t=22:=by simpa using Array.mem_of_getElem? g
     exact(show prog.wantsStandIn 22=false by kernel_rfl)⟩)
  Ok0
#print axioms checks_card
end
end Go.Proofs.YtdhophglnhcjbaaGreatDoor
