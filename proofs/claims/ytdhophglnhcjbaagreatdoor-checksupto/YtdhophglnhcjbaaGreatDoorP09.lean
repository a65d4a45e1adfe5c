/- P09: a part of the proof that the last text tells. -/
import Derived.Test.YtdhophglnhcjbaaGreatDoorP08
import Derived.Deep.RegionHeld
import Derived.OwnWalk
import Derived.Deep.CutBlock
set_option linter.all false
set_option maxRecDepth 100000
set_option maxHeartbeats 40000000
open Go.Proofs.Tryz
open Go renaming World->la,Addr->lb,Value->ld,Calls->le,maxLen->lj,madeCells->lm,bodyPost_ret->lq,results->lr,info_parts->lu,wpAnyH_done->lv,undef->nb,wp_region_held_drew->ni,wpAnyH->nj,TypeId->nk,wpList_append_lies->np,heap_alloc_new->nx,wpList_make_full->uf
open Nat renaming le_trans->lf,le_refl->lh,not_lt_zero->lo,zero_le->na,lt_of_lt_of_le->nf,le_of_lt->ng,min->nm,min_le_right->nn,mul_comm->uc,min_le_left->ud
open Go.Act renaming put->lg
open List renaming getD_eq_getElem?_getD->lk,getElem?_eq_getElem->lp,replicate->lw,length_map->nh,getElem_mem->nl,take_succ_eq_append_getElem->no,length_take->nr,getElem?_set->ns,getElem?_eq_none->nu,take_of_length_le->nw,map_append->nz,length_append->ub,getElem?_take->ue,find?_eq_none->ug,append_assoc->uh,getElem?_append_right->uj
open Go.RowKit renaming intOf->ll
open Go.World renaming size_alloc->ls,ownsRow_nil->ny,block_lt_of_cell?->ui
open Option renaming some->ly
open Option renaming none→N,some→O
open Go.IntKind renaming i64→I
open Go.Value renaming int→J,string→Z,slice→V,pointer→U,bool→G
open Go.Ending renaming returned→Y
open Go.RowKit renaming Hid→X
open Go.Obj renaming cells→H
open Go.Addr renaming mk→A
namespace Go.Proofs.YtdhophglnhcjbaaGreatDoor
section
theorem c8e{P:Prop}(h:P:=by
 clear hc';go_wp2_with (go_at_call 185;refine(HCV.o _).mono ?_;rintro e w1 ⟨rfl,hg1⟩;obtain⟨hcc1,hcf1⟩:=S0 hg1;have hzz:=hg1.size)
 go_roundw
 case rel=>exact c7z
 case measure=>exact a0s):P:=h
theorem a2g{P:Prop}(h:P:=by
 go_wp2_with (first|(go_at_call 229;go_loud (refine(HIT.o _ (A0 HGW.o (A2 _ _ none))).mono ?_;rintro e w1 ⟨rfl,hg1⟩;obtain⟨hc1,hf1⟩:=S0 hg1;have hz1:wr.heap.size<w1.heap.size:=by(have:=hg1.size;simp only[World.size_alloc]at this;omega)))|(go_at_call 250;go_loud (refine(HIE.o _).mono ?_;rintro e w9 ⟨rfl,rfl⟩)))
 exact bodyPost_ret (v:= .tuple #[.int .i64 j, .bool true]) (by simp[results,results164,go_sem]) rfl ⟨by rw[HFJ.o];rfl,A0 (A0 HGW.o (A2 _ _ none)) hg1⟩):P:=h
theorem a3c{P:Prop}(h:P:=by
 go_wp2_with fail
 all_goals exact bodyPost_ret (v:= .int .i64 d.f) (by simp[results,results123,go_sem]) rfl ⟨by rw[HFJ.o],A0 HGW2.o HG9.o⟩):P:=h
theorem a3f{P:Prop}(h:P:=by
 go_wp2_with (go_at_call 182;go_loud (refine(HIT.o _ (A0 HGW.o (A2 _ _ none))).mono ?_;rintro e w1 ⟨rfl,hg1⟩;obtain⟨hc1,hf1⟩:=S0 hg1;have hz1:wr.heap.size<w1.heap.size:=by(have:=hg1.size;simp only[World.size_alloc]at this;omega)))
 all_goals exact bodyPost_ret (v:= .int .i64 j) (by simp[results,results123,go_sem]) rfl ⟨by rw[HFJ.o],A0 (A0 HGW.o (A2 _ _ none)) hg1⟩):P:=h
theorem a3y{P:Prop}(h:P:=by
 go_wp2_with fail
 exact bodyPost_ret (v:= .tuple #[.int .i64 d.f, .bool true]) (by simp[results,results164,go_sem]) rfl ⟨by rw[HFJ.o];rfl,A0 HGW2.o (A2 _ _ none)⟩):P:=h
theorem a3z{P:Prop}(h:P:=by
 have h:=a6L (L:=L) (k:=k) (m:=m) (c:=c) (by rw[hc];exact HR.o.done) (by rw[hc,HR.o.len];exact Nat.mul_le_mul_right _ HMP.o.2.1);rw[hc,<-HKK.o,<-HK2.o]at h;exact⟨HR3.o,h.1.trans HR.o.len,h.2,C6 HR.o.gb (C6 (A7 _ _) hg3 (λk e=> .inr e.symm)) (λk e=> .inl (by cases e;exact Nat.le_refl _))⟩):P:=h
theorem a4m{P:Prop}(h:P:=by
 go_simp
 try with_reducible rfl):P:=h
theorem a4n{P:Prop}(h:P:=by
 exact⟨j+1,by first|rfl|go_num,by omega,A0 (A0 HG1W.o (A2 _ _ none)) hg1,λr hr=>by
  by_cases e:r=j
  ·rw[e];exact HCF.o
  ·exact HALL.o r Oo⟩):P:=h
theorem a4o{P:Prop}(h:P:=by
 have hb8:=(hb7.set 0 (.int .i64 T.k)).set 1 (.string T.n);refine hK.o _ _ (HS.o _ hg8) (λhHeld=> ?_);clear hK;refine A3 16 ?_;refine wpAnyH_done Ok0 ?_ _;exact(iff_of_eq (congrFun (congrFun HJJ.o _) _)).2 ⟨_,_,_,_,hb8.cell 0 _ rfl,hb8.cell 1 _ rfl,hg8,a0M rfl⟩):P:=h
theorem b0c{P:Prop}(h:P:=by
 have h:=a6L (L:=cur) (k:=0) (m:=m0) (c:=c) (by rw[Nat.zero_mul];simp[E4]) (by rw[Nat.zero_add,hc,HCL.o];exact Nat.mul_le_mul_right _ hm1);rw[Nat.zero_mul,Nat.zero_add,hc]at h;exact⟨HR2.o,h.1.trans HCL.o,h.2,C6 HG1.o hg2 (λk e=> .inl (by cases e;exact Nat.le_refl _))⟩):P:=h
theorem c5h{P:Prop}(h:P:=by
 have hk3:k=n:=by omega
 subst hk3;have d1:decide ((k:Int)<(k:Int))=false:=decide_eq_false Oo;go_wp2_with fail
 go_ret;exact⟨w.heap.size,rfl,b2F HR.o.row HR.o.len HR.o.done hs1 Om,HR.o.gb⟩):P:=h
theorem c5q{P:Prop}(h:P:=by
 simp only[List.getElem?_toArray,List.getElem?_set];rw[if_neg Oo,if_neg Oo,if_neg Oo]):P:=h
theorem c5s{P:Prop}(h:P:=by
 clear hr;go_wp2_with fail
 all_goals exact bodyPost_ret (v:= .tuple #[.slice a1 ln k1, .slice a2 ln k2]) (by simp[results,results186,go_sem]) rfl (HEND.o _ _ _ _ _ _ 0 HKK.o HL5.o HT6.o HG6.o)):P:=h
theorem c5v{P:Prop}(h:P:=by
 go_enter func123,ntmps123;go_wp2_with fail
 go_quiet (fail)
 all_goals
  go_wp2_with fail
  exact bodyPost_ret (v:= .int .i64 0) (by simp[results,results123,go_sem]) rfl ⟨by rw[HZ.o],F4 _ _ none⟩):P:=h
theorem c5x{P:Prop}(h:P:=by
 apply List.ext_getElem
 ·simp[madeCells]
 ·intro i h1 h2;simp[madeCells,Value.cells,Nat.mod_one]):P:=h
theorem c5z{P:Prop}(h:P:=by
 show wr.cell? _=_;rcases Nat.eq_zero_or_pos j with e|e
 ·subst e;have:=HR.o.row;simp[World.cell?,this,Addr.add_lit,h2]
 ·have:=HR.o.row;simp[World.cell?,this,Addr.add_lit,h2]):P:=h
theorem c6d{P:Prop}(h:P:=by
 rw[HM0.o]at h;by_cases h0:n=0
 ·subst h0;rw[show Nat.min 1 0=0 from rfl,b2G]at h;cases h
 ·rw[show Nat.min 1 n=1 by show min 1 n=1;omega,a9i]at h;exact hsrc1 j v h):P:=h
theorem c6g{P:Prop}(h:P:=by
 have h4:=b2H (m:=m) (n:=k) c HMP.o.2.2;rw[<-HR.o.done,hc]at h4;rw[<-h4,List.take_take,Nat.min_eq_left (Nat.mul_le_mul_right _ HMP.o.2.2)]):P:=h
theorem c6j{P:Prop}(h:P:=by
 subst e;go_wp2_with fail
 go_meet
 exact⟨hb2.set 0 _,Y4 HG2.o hbx _ _⟩):P:=h
theorem c6r{P:Prop}(h:P:=by
 show 0+(E4 m0 c).length<=cur.length;rw[a1A,hcl,hc,HM0.o,Nat.zero_add];exact Nat.mul_le_mul_right _ (Nat.min_le_right _ _)):P:=h
theorem c6y{P:Prop}(h:P:=by
 exact⟨k2,_,rfl,by have:=HK2.o;have:=HMP.o;omega, .inl (by have:=HK2.o;have:=HMP.o;omega),HRN.o⟩):P:=h
theorem c7d{P:Prop}(h:P:=by
 cases c with
 |nil=>simp at hc
 |cons v t=>exact World.block_lt_of_cell? w _ (by have:=hsrc 0 v rfl;exact this)):P:=h
theorem c7e{P:Prop}(h:P:=by
 rw[List.take_succ_eq_append_getElem hk,List.filter_append,List.filter_cons,if_neg (by rw[hc];decide)];simp):P:=h
theorem c7o{P:Prop}(h:P:=by
 show _<=_;rw[a1A,hc,HR.o.len,<-Nat.add_mul];exact Nat.mul_le_mul_right _ HMP.o.2.1):P:=h
theorem c7p{P:Prop}(h:P:=by
 rw[e]at e2;injection e2 with e2;subst e2;exact hb):P:=h
theorem c7q{P:Prop}(h:P:=by
 show _\/_;rw[hm0];by_cases h0:n=0
 ·exact .inr h0
 ·exact .inl (by show 0<min 1 n;omega)):P:=h
theorem c7z{P:Prop}(h:P:=by
 exact⟨k+1,by first|rfl|go_num,by omega,⟨ln,HREL.o _ hg1⟩,A0 hg.o hg1⟩):P:=h
theorem c8a{P:Prop}(h:P:=by
 rw[List.getElem?_set,if_neg (λe'=>e e'.symm)];simpa[e]using s3 a Oo):P:=h
theorem c8b{P:Prop}(h:P:=by
 exact⟨0,rfl,Nat.zero_le _,C9 _ _,λi hi h=>absurd h (Nat.not_lt_zero _)⟩):P:=h
end
section
open Go.RowKit Go.Shelf Cf
namespace Kx
theorem c3j:(prog.info? 3).map (λi=>(i.zero,i.size,i.bytes))=O (O (J I 0),1,8):=by kernel_rfl
structure RpA(w W:World)(e:TypeId)(g n k sz:Nat)(c L:List Value):Prop where
 row:W.heap[g]? =some (.cells L.toArray e (0,0))
 len:L.length=n*sz
 done:L.take (k*sz)=E4 k c
 gb:w.grownBy W none
variable {w:World}{base g n sz:Nat}{e:TypeId}{xs:List Value}
theorem b2X(h:w.ownsRow base e sz (V (O (A g 0 N)) n n) n xs):∃d:List ld,w.heap[g]? =O (H d.toArray e (0,0))/\d.length=n*sz:=by
 rcases h.2 with⟨i,_⟩|⟨B,cap,d,i,_,hg,_,_,y,_⟩
 ·cases i
 ·cases i;exact⟨d.toList,by simpa using hg,by simpa using y⟩
theorem b2F{L:List ld}(hg:w.heap[g]? =O (H L.toArray e (0,0)))(d:L.length=n*sz)(i:L.take (n*sz)=xs)(y:base<=g)(B:n<=lj):w.ownsRow base e sz (V (O (A g 0 N)) n n) n xs:=by
 refine⟨?_, .inr ⟨g,n,L.toArray,rfl,y,hg,lh _,B,by simpa using d,by simpa using i⟩⟩;rw[<-i,nr,d];omega
theorem c1u(w:la)(sp:lb)(n q0:Nat)(c:List ld)(hc:c.length=1)(hsrc:∀j v,c[j]? =O v->w.cell? (sp.add j)=O v)(y:∀v∈c,v.oneCell'=true)(hn:n<=4000000000):
 le prog 196 #[V (O sp) 1 q0, J I n] w λe w'=>∃g,e= Y (V (O (A g 0 N)) n n)/\w'.ownsRow w.heap.size 3 1 (V (O (A g 0 N)) n n) n (E4 n c)/\w.grownBy w' N:=by
 have hs1:w.heap.size<=w.heap.size:=lh _;obtain⟨ae,ao,ap,aq,af⟩:=lu c3j;have e1:=Mul64.wrapN n Oo;have e2:IntKind.i64.wrap (n:Int)=(n:Int):=by rw[IntKind.wrap_i64];omega
 have e3:decide ((9223372036854775807:Int)<(n:Int))=false:=decide_eq_false Oo;have e4:decide ((n:Int)<0)=false:=decide_eq_false Oo;have e5:IntKind.u64.wrap 1=1:=by kernel_rfl
 have HB:X (∀i,ae.bytes*n<=i->n*8<=i):=λi h=>by rw[af]at h;rw[uc];exact h
 go_enter func196,ntmps196;go_upto_region 6 with(go_at_call 265;go_loud (refine(b3F w n hn).mono ?_;rintro e w' ⟨rfl,hw⟩;rw[hw]))
 go_upto_region 7 with(at_make;go_loud (refine uf _ rfl _ _ 53 rfl w.heap.size 3 ae _ 1 underlying53 ao ap aq I I (n:Int) (n:Int) n rfl rfl rfl rfl (by rw[af];omega) Om hs1 ?_;intro w1 ad D;dsimp only))
 have aw:sp.block<w.heap.size:=by
  exact c7d
 have hsrc1:=λj v h=>D.cell (hsrc j v h) Os
 obtain⟨cur,d,hcl⟩:=b2X ad;have al:=A1 d;have HG1:=A1 D;obtain⟨m0,hm0⟩:=Oe (nm 1 n)
 have HM0:=A1 hm0
 have an:X (∀j v,(E4 m0 c)[j]? =O v->w1.cell? (sp.add j)=O v):=λj v h=>by
  exact c6d
 have ah:X (0+(E4 m0 c).length<=cur.length):=by
  exact c6r
 have ak:X (∀v∈E4 m0 c,v.oneCell'=true):=λv h=>y v (a7p h)
 have aj:X ((E4 m0 c).length=m0*1):=by show _=_;rw[a1A,hc]
 have hm1:m0<=n:=by rw[hm0];exact nn _ _
 have ai:X (0<m0\/n=0):=by
  exact c7q
 clear hm0 d ad D hsrc1;have HCL:=A1 hcl;clear hcl;go_wp2_with (refine b0l rfl (.tmp 31) (.tmp 32) 53 53 rfl 3 1 underlying53 Ok0 w.heap.size 0 sp n n 1 q0 rfl rfl cur 3 al (E4 m0 c) m0 HM0.o aj.o an.o ah.o ak.o ?_;intro w2 HR2 hg2;dsimp only[goInt])
 have am:X (RpA w w2 3 w.heap.size n m0 1 c (splice cur 0 (E4 m0 c))):=by
  exact b0c
 clear hg2;go_loopg [8] (n-m0) (λgk v W=>∃(k:Nat) (L:List ld),v= J I k/\gk+k=n/\(0<k\/n=0)/\RpA w W 3 w.heap.size n k 1 c L)
 case atStart=>exact⟨m0,_,rfl,by omega,ai.o,am.o⟩
 case round=>
  obtain⟨k,L,rfl,hk,M,hR⟩:=hrel;have ag:=A1 M;have HR:=A1 hR;clear M hR;by_cases hlt:k<n
  ·obtain⟨m,T⟩:=Oe (nm k (n-k))
   have HM:=A1 T;have aa:m<=k:=by rw[T];exact ud _ _
   have ab:k+m<=n:=by have:m<=n-k:=by rw[T];exact nn _ _
                      omega
   have ac:0<m:=by
    rw[T];rcases ag.o with h|h
    ·show 0<min k (n-k);omega
    ·omega
   clear T;obtain⟨k2,E⟩:=Oe (k+m)
   have HK2:=A1 E;have HMP:X (0<m/\k+m<=n/\m<=k):=⟨ac,ab,aa⟩
   have e6:IntKind.i64.wrap ((k:Int)+(m:Int))=(k2:Int):=by rw[IntKind.wrap_i64,E];omega
   clear E ac ab aa;have av:k<=n:=by omega
   have ar:¬k=n:=by omega
   have d1:decide ((k:Int)<(n:Int))=true:=decide_eq_true Oo
   have HL:X (k*1+(E4 m c).length<=L.length):=by
    exact c7o
   have HN:X ((E4 m c).length=m*1):=by show _=_;rw[a1A,hc]
   have HO:X (∀v∈E4 m c,v.oneCell'=true):=λv h=>y v (a7p h)
   have HS:X (∀j v,(E4 m c)[j]? =O v->wr.drew.cell? (((A w.heap.size 0 N):lb).add j)=O v):=λj v h=>by
    have h2:L[j]? =O v:=by
     have h3:E4 m c=L.take (m*1):=by
      exact c6g
     rw[h3,ue]at h;split at h
     ·exact h
     ·cases h
    exact c5z
   have au:¬n=k:=by omega
   have HKK:X (k=k*1):=by show _=_;omega
   have F:X (wr.drew.heap[w.heap.size]? =O (H L.toArray 3 (0,0))):=HR.o.row;go_upto_region 9 with fail
   refine ni (S:=(λw'=>True)) Ok0 ?s1 (λB=> ?t1)
   case s1=>trivial
   refine A3 0 ?_;refine A3 1 ?_;refine A3 2 ?_;refine A3 3 ?_;refine A3 4 ?_;refine A3 5 ?_;refine A3 6 ?_;refine F3 7 λK hK=> ?_;refine a8k (.tmp 41) (.tmp 44) 53 53 rfl 3 1 underlying53 Ok0 w.heap.size (k) (A w.heap.size 0 N) (n-k) (n-k) k n rfl rfl L 3 F.o (E4 m c) m HM.o HN.o HS.o (by rw[HKK.o];exact HL.o) HO.o ?_;intro w3 HR3 hg3;dsimp only[goInt];refine hK.o _ _ ?_ (λB=> ?_)
   case refine_1=>trivial
   try clear hK K
   try simp only[lg,lz]
   refine A3 8 ?_;refine A3 9 ?_;refine lv Ok0 ?_ _
   have HRN:X (RpA w w3 3 w.heap.size n k2 1 c (splice L (k) (E4 m c))):=by
    exact a3z
   clear hg3;go_wp2_with fail
   go_roundg (n-k2)
   case rel=>exact c6y
   case measure=>have:=HK2.o;have:=HMP.o;omega
  ·exact c5h
theorem c2N(w:la)(sp:lb)(n q0:Nat)(c:List ld)(hc:c.length=2)(hsrc:∀j v,c[j]? =O v->w.cell? (sp.add j)=O v)(y:∀v∈c,v.oneCell'=true)(hn:n<=4000000000):
 le prog 191 #[V (O sp) 1 q0, J I n] w λe w'=>∃g,e= Y (V (O (A g 0 N)) n n)/\w'.ownsRow w.heap.size 98 2 (V (O (A g 0 N)) n n) n (E4 n c)/\w.grownBy w' N:=by
 have hs1:w.heap.size<=w.heap.size:=lh _;obtain⟨ae,ao,ap,aq,af⟩:=lu a2n;have e1:=Mul64.wrapN n Oo;have e2:IntKind.i64.wrap (n:Int)=(n:Int):=by rw[IntKind.wrap_i64];omega
 have e3:decide ((9223372036854775807:Int)<(n:Int))=false:=decide_eq_false Oo;have e4:decide ((n:Int)<0)=false:=decide_eq_false Oo;have e5:IntKind.u64.wrap 1=1:=by kernel_rfl
 have HB:X (∀i,ae.bytes*n<=i->n*24<=i):=λi h=>by rw[af]at h;rw[uc];exact h
 go_enter func191,ntmps191;go_upto_region 6 with(go_at_call 265;go_loud (refine(b3F w n hn).mono ?_;rintro e w' ⟨rfl,hw⟩;rw[hw]))
 go_upto_region 7 with(at_make;go_loud (refine uf _ rfl _ _ 96 rfl w.heap.size 98 ae _ 2 underlying96 ao ap aq I I (n:Int) (n:Int) n rfl rfl rfl rfl (by rw[af];omega) Om hs1 ?_;intro w1 ad D;dsimp only))
 have aw:sp.block<w.heap.size:=by
  exact c7d
 have hsrc1:=λj v h=>D.cell (hsrc j v h) Os
 obtain⟨cur,d,hcl⟩:=b2X ad;have al:=A1 d;have HG1:=A1 D;obtain⟨m0,hm0⟩:=Oe (nm 1 n)
 have HM0:=A1 hm0
 have an:X (∀j v,(E4 m0 c)[j]? =O v->w1.cell? (sp.add j)=O v):=λj v h=>by
  exact c6d
 have ah:X (0+(E4 m0 c).length<=cur.length):=by
  exact c6r
 have ak:X (∀v∈E4 m0 c,v.oneCell'=true):=λv h=>y v (a7p h)
 have aj:X ((E4 m0 c).length=m0*2):=by show _=_;rw[a1A,hc]
 have hm1:m0<=n:=by rw[hm0];exact nn _ _
 have ai:X (0<m0\/n=0):=by
  exact c7q
 clear hm0 d ad D hsrc1;have HCL:=A1 hcl;clear hcl;go_wp2_with (refine b0l rfl (.tmp 31) (.tmp 32) 96 96 rfl 98 2 underlying96 Ok0 w.heap.size 0 sp n n 1 q0 rfl rfl cur 98 al (E4 m0 c) m0 HM0.o aj.o an.o ah.o ak.o ?_;intro w2 HR2 hg2;dsimp only[goInt])
 have am:X (RpA w w2 98 w.heap.size n m0 2 c (splice cur 0 (E4 m0 c))):=by
  exact b0c
 clear hg2;go_loopg [8] (n-m0) (λgk v W=>∃(k:Nat) (L:List ld),v= J I k/\gk+k=n/\(0<k\/n=0)/\RpA w W 98 w.heap.size n k 2 c L)
 case atStart=>exact⟨m0,_,rfl,by omega,ai.o,am.o⟩
 case round=>
  obtain⟨k,L,rfl,hk,M,hR⟩:=hrel;have ag:=A1 M;have HR:=A1 hR;clear M hR;by_cases hlt:k<n
  ·obtain⟨m,T⟩:=Oe (nm k (n-k))
   have HM:=A1 T;have aa:m<=k:=by rw[T];exact ud _ _
   have ab:k+m<=n:=by have:m<=n-k:=by rw[T];exact nn _ _
                      omega
   have ac:0<m:=by
    rw[T];rcases ag.o with h|h
    ·show 0<min k (n-k);omega
    ·omega
   clear T;obtain⟨k2,E⟩:=Oe (k+m)
   have HK2:=A1 E;have HMP:X (0<m/\k+m<=n/\m<=k):=⟨ac,ab,aa⟩
   have e6:IntKind.i64.wrap ((k:Int)+(m:Int))=(k2:Int):=by rw[IntKind.wrap_i64,E];omega
   clear E ac ab aa;have av:k<=n:=by omega
   have ar:¬k=n:=by omega
   have d1:decide ((k:Int)<(n:Int))=true:=decide_eq_true Oo
   have HL:X (k*2+(E4 m c).length<=L.length):=by
    exact c7o
   have HN:X ((E4 m c).length=m*2):=by show _=_;rw[a1A,hc]
   have HO:X (∀v∈E4 m c,v.oneCell'=true):=λv h=>y v (a7p h)
   have HS:X (∀j v,(E4 m c)[j]? =O v->wr.drew.cell? (((A w.heap.size 0 N):lb).add j)=O v):=λj v h=>by
    have h2:L[j]? =O v:=by
     have h3:E4 m c=L.take (m*2):=by
      exact c6g
     rw[h3,ue]at h;split at h
     ·exact h
     ·cases h
    exact c5z
   have au:¬n=k:=by omega
   have HKK:X (k*2=k*2):=by show _=_;omega
   have F:X (wr.drew.heap[w.heap.size]? =O (H L.toArray 98 (0,0))):=HR.o.row;go_upto_region 9 with fail
   refine ni (S:=(λw'=>True)) Ok0 ?s11 (λB=> ?t11)
   case s11=>trivial
   refine A3 0 ?_;refine A3 1 ?_;refine A3 2 ?_;refine A3 3 ?_;refine A3 4 ?_;refine A3 5 ?_;refine A3 6 ?_;refine F3 7 λK hK=> ?_;refine a8k (.tmp 41) (.tmp 44) 96 96 rfl 98 2 underlying96 Ok0 w.heap.size (k*2) (A w.heap.size 0 N) (n-k) (n-k) k n rfl rfl L 98 F.o (E4 m c) m HM.o HN.o HS.o (by rw[HKK.o];exact HL.o) HO.o ?_;intro w3 HR3 hg3;dsimp only[goInt];refine hK.o _ _ ?_ (λB=> ?_)
   case refine_1=>trivial
   try clear hK K
   try simp only[lg,lz]
   refine A3 8 ?_;refine A3 9 ?_;refine lv Ok0 ?_ _
   have HRN:X (RpA w w3 98 w.heap.size n k2 2 c (splice L (k*2) (E4 m c))):=by
    exact a3z
   clear hg3;go_wp2_with fail
   go_roundg (n-k2)
   case rel=>exact c6y
   case measure=>have:=HK2.o;have:=HMP.o;omega
  ·exact c5h
open Go.RowKit Cf
section
variable{P:Program}{ops:Array Oper}{Q:Exit->Act->World->Prop}{md:Region.Mode}{S:World->Prop}
def c4z(P:Program)(ops:Array Oper)(Q:Exit->Act->la->Prop)(S:la->Prop)(I:Nat->Array Bool->Act->la->Prop)(f:Nat)(l:Array Bool)(a:Act)(w:la)(i:Nat):Prop:=
 ∃o,ops[i]? =O o/\∀K':Act->la->Prop,X (∀a' w',S w'->I f (l.setIfInBounds i true) a' w'->K' a' w')->if Region.wanted o (yielded ops a.tmps)=true then Oper.wp P o a w K' Q else K' (a.put o.dst nb) w
theorem b6I(I:Nat->Array Bool->Act->la->Prop)
 (h:∀f l a w,I f l a w->nj P md ops Q S f l a w\/(∃B y,f=B+1/\Region.ready md ops l=y/\y≠ []/\∀i∈y,c4z P ops Q S I B l a w i)):
 ∀f l a w,I f l a w->nj P md ops Q S f l a w:=by
 intro f;induction f with
 |zero=>
  intro l a w E;rcases h 0 l a w E with d|⟨B,y,d,_⟩
  ·exact d
  ·omega
 |succ f ih=>
  intro l a w E;rcases h _ l a w E with d|⟨B,y,d,M,h3,h4⟩
  ·exact d
  ·cases d;refine⟨λD=>absurd (M.symm.trans D) h3,λi hi=> ?_⟩;rw[M]at hi;obtain⟨o,ho,D⟩:=h4 i hi;exact wpOp_step ho λT hK=>D T (λK w' hS F=>hK K w' ⟨hS,ih _ K w' F⟩)
theorem b0E{F:Type}(L:F->Array Bool)(n:F->Nat)(I:F->Act->la->Prop)(dn:F->Bool)(R:F->Nat->Prop)
 (hr:∀c,dn c=false->Region.ready md ops (L c)≠ []/\0<n c/\∀i∈Region.ready md ops (L c),R c i)
 (hd:∀c a w,I c a w->dn c=true->nj P md ops Q S (n c) (L c) a w)
 (hs:∀c a w,I c a w->dn c=false->∀i,R c i->∃o,ops[i]? =O o/\∀d:Act->la->Prop,X (∀y D w',S w'->I y D w'->n y+1=n c->L y=(L c).setIfInBounds i true->d D w')->if Region.wanted o (yielded ops a.tmps)=true then Oper.wp P o a w d Q else d (a.put o.dst nb) w):
 ∀c a w,I c a w->∀f l,f=n c->l=L c->nj P md ops Q S f l a w:=by
 intro c a w B f l M E;refine b6I (λf l a w=>∃c,f=n c/\l=L c/\I c a w) ?_ _ _ _ _ ⟨c,M,E,B⟩;clear M E B;rintro f l a w ⟨c,rfl,rfl,B⟩;by_cases h:dn c=true
 ·exact .inl (hd c a w B h)
 ·have h:=Bool.eq_false_iff.2 h;obtain⟨T,h2,h3⟩:=hr c h;refine .inr ⟨n c-1,_,by omega,rfl,T,λi hi=> ?_⟩;obtain⟨o,ho,h4⟩:=hs c a w B h i (h3 i hi);exact⟨o,ho,λd hK=>h4 d λy D w' hS K hn E=>hK D w' hS ⟨y,by omega,E.symm,K⟩⟩
end
theorem a6D{P:Program}(w:la){o:Oper}{a:Act}{K:Act->la->Prop}{Q:Exit->Act->la->Prop}
 (l c:Operand) (t:nk) (y:o.op=Op.makeSlice t l c)
 (base:Nat) (e:nk) (i:TypeInfo) (z:ld) (size:Nat) (T:P.underlying t=O (.slice e)) (h2:P.info? e=O i) (h3:i.zero=O z) (h4:i.size=size)
 (D B:IntKind) (n:Nat) (hl:a.eval l= .int D (n:Int)) (hc:a.eval c= .int B (n:Int)) (E:i.bytes*n<=281474976710656) (F:n<=lj) (M:base<=w.heap.size)
 (hK:∀w',w'.ownsRow base e size (.slice (O (A w.heap.size 0 N)) n n) n (lm z.cells (n*size)).toList->w.grownBy w' N->K (a.put o.dst (.slice (O (A w.heap.size 0 N)) n n)) w'):
 o.wp P a w K Q:=by
 obtain⟨w',d,r1,r2⟩:=run_make_full (P:=P) w base t e i z size T h2 h3 h4 D B n E F M;unfold Oper.wp;simp[execOp,y,hl,hc,d,Result.andThen];exact hK w' r1 r2
def a2w(W:la)(base:Nat)(L:List Cl)(m:Me)(cs:Array ld)(a:Nat):Prop:=
 ∃ta tk ua uk,cs[a*3]? =O (V ta (E5 L m (A5 m a)).length tk)/\cs[a*3+1]? =O (V ua (C7 L (A5 m a)).length uk)/\cs[a*3+2]? =O (G (o4 (A5 m a)))/\
  W.ownsRow base 98 2 (V ta (E5 L m (A5 m a)).length tk) (E5 L m (A5 m a)).length ((E5 L m (A5 m a)).flatMap B8)/\
  W.ownsRow base 98 2 (V ua (C7 L (A5 m a)).length uk) (C7 L (A5 m a)).length ((C7 L (A5 m a)).flatMap B8)
structure WlI(w W:World)(base b0 bw eg hg sg wg:Nat)(g:Nat->Nat)(L:List Cl)(m:Me)(pa:Option Addr)(pk:Nat)(ca:Option Addr)(ck:Nat)(ha:Option Addr)(hk je j:Nat):Prop where
 gb:w.grownBy W none
 meth:A4 W b0 (mV m pa pk ca ck ha hk) 102
 walk:A4 W bw (WkV m pa pk ca ck ha hk eg hg sg wg m.c.length none 0 0).toArray 308
 hts:A4 W hg (List.replicate m.c.length (Value.int .i64 (-1))).toArray 3
 wrong:A4 W wg (List.replicate m.c.length (Value.bool false)).toArray 4
 eff:∃cs:List Value,A4 W eg cs.toArray 315/\cs.length=m.c.length*3/\∀a,a<je->a2w W base L m cs.toArray a
 seen:∃cs:List Value,A4 W sg cs.toArray 264/\cs.length=m.c.length/\∀a,a<j->cs[a]? =some (.slice (some ⟨g a,0,none⟩) (m.s+1) (m.s+1))
 rows:∀a,a<j->A4 W (g a) (List.replicate (m.s+1) (Value.bool false)).toArray 4
 d1:∀a,a<j->base<=g a/\g a≠wg
 d2:∀a c,a<j->c<j->g a=g c->a=c
 b0lt:b0<base/\w.heap.size<=base
 low:base<=bw/\base<=eg/\base<=hg/\base<=sg/\base<=wg
theorem b7f(n:Nat)(v:ld):E4 n [v]=lw n v:=by
 induction n with
 |zero=>rfl
 |succ n ih=>rw[a9j,ih,a9i,<-List.replicate_succ']
theorem a6V(n:Nat):(lm (Value.bool false).cells (n*1)).toList=lw n (Value.bool false):=by
 exact c5x
variable {W W' w w':World}{cs:Array Value}{e t:TypeId}
theorem A4.grow{g:Nat}(h:A4 w g cs t)(hg:w.grownBy w' N):A4 w' g cs t:=by
 unfold A4;rw[hg.block g h.lt Os];exact h
variable {a b0 base base0 bw ck eg gn hg hk j n pk sg sz wg:Nat}{v:Value}{xs:List Value}
theorem b8y{g:Nat}(h:w.ownsRow base e sz v n xs)(E:A4 w g cs t)(F:t≠e):v.ownBlock=N\/v.ownBlock≠O g:=by
 rcases h.2 with⟨rfl,_⟩|⟨i,cap,y,rfl,_,hg,_⟩
 ·exact .inl rfl
 ·refine .inr λe=> ?_
  injection e with e
  have B:i=g:=e;subst B;have d:w.heap[i]? =O (H cs t (0,0)):=E;rw[hg]at d;injection d with d
  injection d with _ D
  exact F D.symm
variable {L:List Cl}{m:Me}
theorem a2w.keep(h:a2w W base L m cs a)(hg:W.grownBy W' N):a2w W' base L m cs a:=by
 obtain⟨d,i,y,B,D,E,F,K,M⟩:=h;exact⟨d,i,y,B,D,E,F,K.kept hg (by cases hv:(Value.slice d (E5 L m (A5 m a)).length i).ownBlock<;>simp),M.kept hg (by cases hv:(Value.slice y (C7 L (A5 m a)).length B).ownBlock<;>simp)⟩
theorem a5n{g:Nat}(h:w.ownsRow base e sz v n xs)(hg:w.grownBy w' (O g))(i:A4 w g cs t)(y:t≠e):w'.ownsRow base e sz v n xs:=
 h.kept hg (by
  rcases b8y h i y with d|d
  ·exact .inl d
  ·exact .inr d)
variable {g:Nat->Nat}{ca ha pa:Option Addr}
theorem WlI.keep{i:Nat}(h:WlI w W base b0 bw eg hg sg wg g L m pa pk ca ck ha hk i j)(d:W.grownBy W' N):WlI w W' base b0 bw eg hg sg wg g L m pa pk ca ck ha hk i j:=by
 obtain⟨cs,y,B,D⟩:=h.eff;obtain⟨ds,E,F,K⟩:=h.seen;exact⟨L8 h.gb d,A4.grow h.meth d,A4.grow h.walk d,A4.grow h.hts d,A4.grow h.wrong d,⟨cs,A4.grow y d,B,λa ha=>(D a ha).keep d⟩,⟨ds,A4.grow E d,F,K⟩,λa ha=>A4.grow (h.rows a ha) d,h.d1,h.d2,h.b0lt,h.low⟩
theorem WlI.effset(h:WlI w W base b0 bw eg hg sg wg g L m pa pk ca ck ha hk j j)(hj:j<m.c.length)
 {i B:Option lb} {y D:Nat} (ht:W.ownsRow base 98 2 (V i (E5 L m (A5 m j)).length y) (E5 L m (A5 m j)).length ((E5 L m (A5 m j)).flatMap B8))
 (hu:W.ownsRow base 98 2 (V B (C7 L (A5 m j)).length D) (C7 L (A5 m j)).length ((C7 L (A5 m j)).flatMap B8)):
 WlI w (((W.setCell (A eg (j*3) N) (V i (E5 L m (A5 m j)).length y)).setCell (A eg (j*3+1) N) (V B (C7 L (A5 m j)).length D)).setCell (A eg (j*3+2) N) (G (o4 (A5 m j)))) base b0 bw eg hg sg wg g L m pa pk ca ck ha hk (j+1) j:=by
 obtain⟨cs,E,e2,e3⟩:=h.eff;obtain⟨ds,s1,s2,s3⟩:=h.seen;have hb:=((E.set (j*3) (V i (E5 L m (A5 m j)).length y)).set (j*3+1) (V B (C7 L (A5 m j)).length D)).set (j*3+2) (G (o4 (A5 m j)))
 have d:W.grownBy (((W.setCell (A eg (j*3) N) (V i (E5 L m (A5 m j)).length y)).setCell (A eg (j*3+1) N) (V B (C7 L (A5 m j)).length D)).setCell (A eg (j*3+2) N) (G (o4 (A5 m j)))) (O eg):=
  A0 (A0 (A6 _ (A eg (j*3) N) _) (A6 _ (A eg (j*3+1) N) _)) (A6 _ (A eg (j*3+2) N) _)
 generalize (((W.setCell (A eg (j*3) N) (V i (E5 L m (A5 m j)).length y)).setCell (A eg (j*3+1) N) (V B (C7 L (A5 m j)).length D)).setCell (A eg (j*3+2) N) (G (o4 (A5 m j))))=W' at hb d⊢;have F:∀{k:Nat} {c:Array ld} {t:nk},A4 W k c t->t≠315->A4 W' k c t:=λhk M=>A4.keep hk d (λe=>G8 hk E M (ly.inj e))
 refine⟨C6 h.gb d (λk e=> .inl (by cases e;exact lf h.b0lt.2 h.low.2.1)),F h.meth Od,F h.walk Od,F h.hts Od,F h.wrong Od,⟨((cs.set (j*3) (V i (E5 L m (A5 m j)).length y)).set (j*3+1) (V B (C7 L (A5 m j)).length D)).set (j*3+2) (G (o4 (A5 m j))),?_,by simp[e2],λa K=> ?_⟩,⟨ds,F s1 Od,s2,s3⟩,λa K=>F (h.rows a K) Od,h.d1,h.d2,h.b0lt,h.low⟩
 ·simpa using hb
 ·have hl:j*3+2<cs.length:=by rw[e2];omega
  by_cases e:a=j
  ·subst e;refine⟨i,y,B,D,?_,?_,?_,a5n ht d E Od,a5n hu d E Od⟩
   ·simp[ns];omega
   ·simp[ns];omega
   ·simp[ns];omega
  ·obtain⟨T,aa,ab,ac,h1,h2,h3,h4,h5⟩:=e3 a Oo;refine⟨T,aa,ab,ac,?_,?_,?_,a5n h4 d E Od,a5n h5 d E Od⟩
   ·rw[<-h1];exact c5q
   ·rw[<-h2];exact c5q
   ·rw[<-h3];exact c5q
theorem WlI.seenset(h:WlI w W base b0 bw eg hg sg wg g L m pa pk ca ck ha hk (j+1) j)(hj:j<m.c.length)
 (hn:A4 W gn (lw (m.s+1) (Value.bool false)).toArray 4) (E:base<=gn) (K:gn≠wg) (hd:∀a,a<j->g a≠gn):
 WlI w (W.setCell (A sg j N) (V (O (A gn 0 N)) (m.s+1) (m.s+1))) base b0 bw eg hg sg wg (λa=>if a=j then gn else g a) L m pa pk ca ck ha hk (j+1) (j+1):=by
 obtain⟨cs,e1,e2,e3⟩:=h.eff;obtain⟨ds,D,s2,s3⟩:=h.seen;have hb:=D.set j (V (O (A gn 0 N)) (m.s+1) (m.s+1));have i:W.grownBy (W.setCell (A sg j N) (V (O (A gn 0 N)) (m.s+1) (m.s+1))) (O sg):=A6 _ (A sg j N) _;generalize W.setCell (A sg j N) (V (O (A gn 0 N)) (m.s+1) (m.s+1))=W' at hb i⊢;have B:∀{k:Nat} {c:Array ld} {t:nk},A4 W k c t->t≠264->A4 W' k c t:=λhk F=>A4.keep hk i (λe=>G8 hk D F (ly.inj e))
 refine⟨C6 h.gb i (λk e=> .inl (by cases e;exact lf h.b0lt.2 h.low.2.2.2.1)),B h.meth Od,B h.walk Od,B h.hts Od,B h.wrong Od,⟨cs,B e1 Od,e2,λa d=> ?_⟩,⟨ds.set j (V (O (A gn 0 N)) (m.s+1) (m.s+1)),by simpa using hb,by simp[s2],λa d=> ?_⟩,λa d=> ?_,λa d=> ?_,λa c d ac y=> ?_,h.b0lt,h.low⟩
 ·obtain⟨M,T,aa,ab,h1,h2,h3,h4,h5⟩:=e3 a d;exact⟨M,T,aa,ab,h1,h2,h3,a5n h4 i D Od,a5n h5 i D Od⟩
 ·by_cases e:a=j
  ·subst e;simp[s2,hj]
  ·exact c8a
 ·try dsimp only
  by_cases e:a=j
  ·rw[if_pos e];exact B hn Od
  ·rw[if_neg e];exact B (h.rows a Oo) Od
 ·try dsimp only
  by_cases e:a=j
  ·rw[if_pos e];exact⟨E,K⟩
  ·rw[if_neg e];exact h.d1 a Oo
 ·try dsimp only at y
  by_cases e:a=j
  ·by_cases e':c=j
   ·rw[e,e']
   ·rw[if_pos e,if_neg e']at y;exact absurd y.symm (hd c Oo)
  ·by_cases e':c=j
   ·rw[if_neg e,if_pos e']at y;exact absurd y (hd a Oo)
   ·rw[if_neg e,if_neg e']at y;exact h.d2 a c Oo Oo y
theorem WlI.done(h:WlI w W base b0 bw eg hg sg wg g L m pa pk ca ck ha hk m.c.length m.c.length):
 O5 W base bw eg hg sg wg g m pa pk ca ck ha hk m.c.length m.s (y7 m) N 0:=by
 obtain⟨ds,y,D,B⟩:=h.seen
 have hds:ds=(List.range m.c.length).map λa=>Value.slice (O (A (g a) 0 N)) (m.s+1) (m.s+1):=by
  apply List.ext_getElem?;intro a;by_cases d:a<m.c.length
  ·rw[B a d];simp[d]
  ·rw[nu Oo,nu Oi]
 refine⟨h.walk,?_,by rw[<-hds];exact y,λa d=> ?_,?_,⟨rfl, .inl ⟨rfl,rfl⟩⟩,λa d=>(h.d1 a d).2,λa c d i=>h.d2 a c d i,⟨h.low.1,h.low.2.2.1,h.low.2.2.2.1,h.low.2.2.2.2,λa d=>(h.d1 a d).1⟩⟩
 ·simpa[y7]using h.hts
 ·have:=h.rows a d;simpa[y7,lk,List.getElem?_replicate,d]using this
 ·simpa[y7]using h.wrong
theorem WlI.effset2{i:In}(h:WlI w W base b0 bw eg hg sg wg g L m pa pk ca ck ha hk j j)(E:j<m.c.length)(hi:i=A5 m j)
 {d B:Option lb} {y D:Nat} (F:W.ownsRow base 98 2 (V d (E5 L m i).length y) (E5 L m i).length ((E5 L m i).flatMap B8))
 (K:W.ownsRow base 98 2 (V B (C7 L i).length D) (C7 L i).length ((C7 L i).flatMap B8)):
 WlI w (((W.setCell (A eg (j*3) N) (V d (E5 L m i).length y)).setCell (A eg (j*3+1) N) (V B (C7 L i).length D)).setCell (A eg (j*3+2) N) (G (o4 i))) base b0 bw eg hg sg wg g L m pa pk ca ck ha hk (j+1) j:=by
 subst hi;exact h.effset E F K
theorem WlI.seenset2{st1:Nat}(h:WlI w W base b0 bw eg hg sg wg g L m pa pk ca ck ha hk (j+1) j)(y:j<m.c.length)(D:st1=m.s+1)
 (B:A4 W gn (lw st1 (Value.bool false)).toArray 4) (d:base<=gn) (i:gn≠wg) (hd:∀a,a<j->g a≠gn):
 WlI w (W.setCell (A sg j N) (V (O (A gn 0 N)) st1 st1)) base b0 bw eg hg sg wg (λa=>if a=j then gn else g a) L m pa pk ca ck ha hk (j+1) (j+1):=by
 subst D;exact h.seenset y B d i hd
theorem b4c(h:w.ownsRow base 98 sz v n xs)(D:Fr base0 w w'):w'.ownsRow base 98 sz v n xs:=by
 refine⟨h.1,?_⟩;rcases h.2 with i|⟨g,cap,d,E,B,hg,y⟩
 ·exact .inl i
 ·exact .inr ⟨g,cap,d,E,B,D.blk g d (0,0) hg,y⟩
theorem a2w.fr(h:a2w W base L m cs a)(d:Fr base0 W W'):a2w W' base L m cs a:=by
 obtain⟨F,K,M,T,i,y,B,D,E⟩:=h;exact⟨F,K,M,T,i,y,B,b4c D d,b4c E d⟩
theorem c3R(h:w.grownBy W N)(d:Fr base W W')(y:w.heap.size<=base):w.grownBy W' N:=
 ⟨d.os.trans h.os,d.tape.trans h.tape,d.output.trans h.output,lf h.size d.size,λk hk i=>(d.low k (nf hk y)).trans (h.block k hk i)⟩
def c2D(w w':la)(L:List Cl)(m:Me)(pa:Option lb)(pk:Nat)(ca:Option lb)(ck:Nat)(ha:Option lb)(hk:Nat)(e:Ending):Prop:=
 ∃(base b eg hg sg wg:Nat) (g:Nat->Nat) (s:Wk) (wa:Option lb) (wk:Nat),e= Y (U (O (A b 0 N)))/\w.heap.size<=base/\base<=w'.heap.size/\O5 w' base b eg hg sg wg g m pa pk ca ck ha hk m.c.length m.s s wa wk/\Z7 L m s/\
  (∀a k,sq s.seen a k=true↔Cf.G2 L m a k)/\(∀a,wq s.wrong a=true↔a0F L m a)/\(∃cs:Array ld,A4 w' eg cs 315/\∀a,a<m.c.length->a2w w' base L m cs a)/\w.grownBy w' N
def SlM(c:Bool)(W:la)(base:Nat)(e:nk)(sz n:Nat)(xs:List ld)(v:ld):Prop:=
 (c=false/\v=nb)\/(c=true/\∃g,v= V (O (A g 0 N)) n n/\W.ownsRow base e sz v n xs)
theorem SlM.keep{c:Bool}(h:SlM c W base e sz n xs v)(hg:W.grownBy W' N):SlM c W' base e sz n xs v:=by
 rcases h with h|⟨d,g,i,y⟩
 ·exact .inl h
 ·exact .inr ⟨d,g,i,y.kept hg (by cases hv:(v:ld).ownBlock<;>simp)⟩
def SlR(c:Nat)(W:la)(base n:Nat)(v15 v17:ld):Prop:=
 (c=0/\v15=nb/\v17=nb)\/(c=1/\v17=nb/\∃g,v15= V (O (A g 0 N)) 1 1/\W.cell? (A g 0 N)=O (J I (-1)))\/
 (c=2/\∃g,v17= V (O (A g 0 N)) n n/\W.ownsRow base 3 1 v17 n (E4 n [J I (-1)]))
theorem SlR.keep{c:Nat}{i d:ld}(h:SlR c W base n i d)(hg:W.grownBy W' N):SlR c W' base n i d:=by
 rcases h with h|⟨y,B,g,D,E⟩|⟨y,g,B,D⟩
 ·exact .inl h
 ·exact .inr (.inl ⟨y,B,g,D,hg.cell E Os⟩)
 ·exact .inr (.inr ⟨y,g,B,D.kept hg (by cases hv:(d:ld).ownBlock<;>simp)⟩)
theorem a1S{g:Nat}(h:w.ownsRow base e sz (V (O (A g 0 N)) n n) n xs):A4 w g xs.toArray e/\base<=g:=by
 rcases h.2 with⟨i,_⟩|⟨E,cap,d,i,y,hg,_,_,B,D⟩
 ·cases i
 ·cases i;refine⟨?_,y⟩;have:d.toList=xs:=by rw[<-D,nw (by simp[B])]
  rw[<-this];simpa[A4]using hg
def w2F(b b0 n:Nat)(ca:Option lb)(ck:Nat)(mv v14 v15 v17 v19 v21:ld):Act:={tmps:= #[U (O (A b 0 N)),mv,undef, U (O (A b0 0 N)), U N, J I n,undef,undef,undef, U (O (A b0 6 N)), V ca n ck, J I n,mv, J I n,v14,v15, J I n,v17, J I n,v19, J I n,v21,undef,undef,undef,undef,undef,undef,undef,undef,undef,undef,undef,undef,undef,undef,undef,undef,undef,undef,undef,undef,undef,undef,undef,undef,undef,undef,undef,undef,undef,undef,undef,undef,undef,undef],defers:=[]}
abbrev FgW:=Bool×Bool×Bool×Fin 3
def w2L(c:FgW):Array Bool:= #[true,true,c.1,decide (1<=c.2.2.2.val),true,decide (2<=c.2.2.2.val),true,c.2.1,true,c.2.2.1,false,false,false]
def W2I(W1:la)(base b b0 n:Nat)(ca:Option lb)(ck:Nat)(mv:ld)(zE zS zO:List ld)(c:FgW)(a:Act)(W:la):Prop:=
 ∃v14 v15 v17 v19 v21:ld,a=w2F b b0 n ca ck mv v14 v15 v17 v19 v21/\
  W1.grownBy W N/\SlM c.1 W base 315 3 n zE v14/\SlR c.2.2.2.val W base n v15 v17/\SlM c.2.1 W base 264 1 n zS v19/\SlM c.2.2.1 W base 4 1 n zO v21
theorem c3k:(prog.info? 315).map (λi=>(i.zero,i.size,i.bytes))=O (O (.agg #[V N 0 0, V N 0 0, G false]),3,56):=by kernel_rfl
theorem c3h:(prog.info? 264).map (λi=>(i.zero,i.size,i.bytes))=O (O (V N 0 0),1,24):=by kernel_rfl
theorem c3i:(prog.info? 4).map (λi=>(i.zero,i.size,i.bytes))=O (O (G false),1,1):=by kernel_rfl
theorem b6K(w:la)(lim b:Nat)(L:List Cl)(m:Me)(pa ca ha:Option lb)(pk ck hk:Nat)(hn:m.c.length<=65535)(p:lb)(cap m1 m2 m3:Nat)(q:Nat->Qs)(h:X (Lk w lim b L p cap m1 m2 m3 q))(hl:lim<=w.heap.size)(cc:X (C0 w lim 4 M0 ca m.c))(df:X (C0 w lim 4 O3 ha m.h))(ce:N2 L m)(bu:∀i∈m.c,a2R L i)(hst:m.s<=255)(cm:m.h.length<=65535):
 le prog 128 #[U (O (A b 0 N)), .agg (mV m pa pk ca ck ha hk)] w λe w'=>c2D w w' L m pa pk ca ck ha hk e:=by
 have dk:=A1 (λi hi=>(bu i hi).ok);have ap:X (N2 L m/\(∀i∈m.c,a2R L i)/\m.c.length<=65535/\m.s<=255/\m.h.length<=65535):=⟨ce,bu,hn,hst,cm⟩
 clear ce bu cm;go_enter func128,ntmps128;go_upto_region 2 with fail
 have ba:A4 (w.alloc (H (mV m pa pk ca ck ha hk) 102)) w.heap.size (mV m pa pk ca ck ha hk) 102:=nx w _;have cj:w.grownBy (w.alloc (H (mV m pa pk ca ck ha hk) 102)) N:=A2 w _ N;have a1:=ba.lt;generalize w.alloc (H (mV m pa pk ca ck ha hk) 102)=W1 at ba cj a1⊢;obtain⟨dz,dq,dr,dt,du⟩:=lu c3k;obtain⟨d0,dv,dw,dx,dy⟩:=lu c3h;obtain⟨cz,cv,cw,cx,cy⟩:=lu c3i;have ab:X (A4 W1.drew w.heap.size (mV m pa pk ca ck ha hk) 102):=ba;clear ba;refine ni (S:=(λw'=>W1.drew.grownBy w' N)) Ok0 (C9 _ _) (λB=> ?_);refine tkT 0 (v:= .agg (mV m pa pk ca ck ha hk)) (hv:= .inl ⟨by rfl,?h0⟩) (k:= ?r0)
 case h0=>
  intro w5 E;have h0:=E.cell (ab.o.cell 0 _ rfl) Os;have h1:=E.cell (ab.o.cell 1 _ rfl) Os;have h2:=E.cell (ab.o.cell 2 _ rfl) Os;have h3:=E.cell (ab.o.cell 3 _ rfl) Os;have h4:=E.cell (ab.o.cell 4 _ rfl) Os;have h5:=E.cell (ab.o.cell 5 _ rfl) Os;have h6:=E.cell (ab.o.cell 6 _ rfl) Os;have h7:=E.cell (ab.o.cell 7 _ rfl) Os;go_simp
  try rfl
 try simp only[lg,lz]
 refine A3 1 ?_;refine A3 4 ?_;refine A3 6 ?_;refine A3 8 ?_;have ec:W1.drew.heap.size<=W1.drew.heap.size:=lh _;refine b0E w2L (λc=>3+(!c.1).toNat+(!c.2.1).toNat+(!c.2.2.1).toNat+(2-c.2.2.2.val)) (W2I W1.drew W1.heap.size b w.heap.size m.c.length ca ck (.agg (mV m pa pk ca ck ha hk)) (lm (Value.agg #[V N 0 0, V N 0 0, G false]).cells (m.c.length*3)).toList (lm (Value.slice N 0 0).cells (m.c.length*1)).toList (lm (Value.bool false).cells (m.c.length*1)).toList) (λc=>c.1&&c.2.1&&c.2.2.1&&decide (c.2.2.2.val=2)) (λc i=>(i=2/\c.1=false)\/(i=3/\c.2.2.2.val=0)\/(i=5/\c.2.2.2.val=1)\/(i=7/\c.2.1=false)\/(i=9/\c.2.2.1=false)) ?hr ?hd ?hs (false,false,false,0) _ _ ⟨undef,undef,undef,undef,undef,rfl,B, .inl ⟨rfl,rfl⟩, .inl ⟨rfl,rfl,rfl⟩, .inl ⟨rfl,rfl⟩, .inl ⟨rfl,rfl⟩⟩ _ _ rfl rfl
 case hr=>rintro⟨a,b,c,d⟩;revert a b c d;decide+kernel
 case hs=>
  rintro⟨c2,c7,c9,c⟩ a W ⟨d3,d4,d5,d6,d7,rfl,D,ag,ac,ah,ai⟩-i hi;have ak:W1.heap.size<=W.heap.size:=D.size;have af:=A1 hn;dsimp only at hi ag ac ah ai;rcases hi with⟨rfl,rfl⟩|⟨rfl,hc⟩|⟨rfl,hc⟩|⟨rfl,rfl⟩|⟨rfl,rfl⟩
  ·refine⟨_,rfl,λK' M=>(if_pos (by rfl)).mpr ?_⟩;refine a6D _ (.tmp 13) (.tmp 13) 305 rfl W1.heap.size 315 dz _ _ underlying305 dq dr rfl I I m.c.length rfl rfl (by rw[du];have:=af.o;omega) (by have:=af.o;unfold lj;omega) ak λw' ho hg=> ?_
   rw[dt]at ho;exact M.o (true,c7,c9,c) _ _ (L8 D hg) ⟨_,_,_,_,_,rfl,L8 D hg, .inr ⟨rfl,_,rfl,ho⟩,ac.keep hg,ah.keep hg,ai.keep hg⟩ (by simp<;>omega) rfl
  ·rcases ac with⟨_,rfl,rfl⟩|⟨h0,_⟩|⟨h0,_⟩<;>try omega
   obtain rfl:c=0:=Fin.ext hc;refine⟨_,rfl,λK' M=>(if_pos (by rfl)).mpr ?_⟩;go_simp
   have hg:W.grownBy (W.alloc (H #[J I (-1)] 3)) N:=A2 W _ N;exact M.o (c2,c7,c9,1) _ _ (L8 D hg) ⟨_,_,_,_,_,rfl,L8 D hg,ag.keep hg, .inr (.inl ⟨rfl,rfl,_,rfl,O8 W _ _ 0 _ rfl⟩),ah.keep hg,ai.keep hg⟩ (by simp<;>omega) rfl
  ·rcases ac with⟨h0,_⟩|⟨_,rfl,g3,rfl,di⟩|⟨h0,_⟩<;>try omega
   obtain rfl:c=1:=Fin.ext hc
   have cu:=c1u W (A g3 0 N) m.c.length 1 [J I (-1)] rfl (λj v hj=>by
    cases j with
    |zero=>cases hj;exact di
    |succ j=>cases hj) (by simp[Value.oneCell']) (by have:=af.o;omega)
   refine⟨_,rfl,λK' M=>(if_pos (by rfl)).mpr ?_⟩;go_simp
   go_wp2_with (go_at_call 196;refine cu.mono ?_;rintro e w' ⟨g,rfl,ho,hg⟩;dsimp only)
   exact M.o (c2,c7,c9,2) _ _ (L8 D hg) ⟨_,_,_,_,_,rfl,L8 D hg,ag.keep hg, .inr (.inr ⟨rfl,g,rfl,U6 ho ak⟩),ah.keep hg,ai.keep hg⟩ (by simp<;>omega) rfl
  ·refine⟨_,rfl,λK' M=>(if_pos (by rfl)).mpr ?_⟩;refine a6D _ (.tmp 18) (.tmp 18) 250 rfl W1.heap.size 264 d0 _ _ underlying250 dv dw rfl I I m.c.length rfl rfl (by rw[dy];have:=af.o;omega) (by have:=af.o;unfold lj;omega) ak λw' ho hg=> ?_
   rw[dx]at ho;exact M.o (c2,true,c9,c) _ _ (L8 D hg) ⟨_,_,_,_,_,rfl,L8 D hg,ag.keep hg,ac.keep hg, .inr ⟨rfl,_,rfl,ho⟩,ai.keep hg⟩ (by simp<;>omega) rfl
  ·refine⟨_,rfl,λK' M=>(if_pos (by rfl)).mpr ?_⟩;refine a6D _ (.tmp 20) (.tmp 20) 264 rfl W1.heap.size 4 cz _ _ underlying264 cv cw rfl I I m.c.length rfl rfl (by rw[cy];have:=af.o;omega) (by have:=af.o;unfold lj;omega) ak λw' ho hg=> ?_
   rw[cx]at ho;exact M.o (c2,c7,true,c) _ _ (L8 D hg) ⟨_,_,_,_,_,rfl,L8 D hg,ag.keep hg,ac.keep hg,ah.keep hg, .inr ⟨rfl,_,rfl,ho⟩⟩ (by simp<;>omega) rfl
 case hd=>
  rintro⟨c2,c7,c9,c⟩ a W ⟨d3,d4,d5,d6,d7,rfl,D,ag,ac,ah,ai⟩ cf;have b2:=A1 D;have ak:W1.heap.size<=W.heap.size:=D.size;have af:=A1 hn;simp only[Bool.and_eq_true,decide_eq_true_eq]at cf;obtain⟨⟨⟨rfl,rfl⟩,rfl⟩,hc⟩:=cf;obtain rfl:c=2:=Fin.ext hc;dsimp only at ag ac ah ai;rcases ag with⟨h0,_⟩|⟨_,y,rfl,be⟩
  ·cases h0
  rcases ac with⟨h0,_⟩|⟨h0,_⟩|⟨_,aa,rfl,bf⟩
  ·cases h0
  ·cases h0
  rcases ah with⟨h0,_⟩|⟨_,F,rfl,bg⟩
  ·cases h0
  rcases ai with⟨h0,_⟩|⟨_,T,rfl,bh⟩
  ·cases h0
  have ar:X (A4 W y _ 315/\W1.heap.size<=y):=a1S be;have au:X (A4 W aa _ 3/\W1.heap.size<=aa):=a1S bf;have av:X (A4 W F _ 264/\W1.heap.size<=F):=a1S bg;have aw:X (A4 W T _ 4/\W1.heap.size<=T):=a1S bh;clear be bf bg bh D hc B;unfold w2L w2F;dsimp only;show nj _ _ _ _ _ 3 _ _ _;have D:=b2.o;refine A3 10 ?_;refine F3 11 λK M=> ?_;go_simp
  refine M.o _ _ ?_ (λB=> ?_)
  case refine_1=>exact L8 D (A2 _ _ _)
  try clear M K
  try simp only[lg,lz]
  refine A3 12 ?_;refine lv Ok0 ?_ _;have b5:=A1 (A4.grow ab.o D);obtain⟨WB,a7⟩:=Oe (W.alloc (H (WkV m pa pk ca ck ha hk y aa F T m.c.length N 0 0).toArray 308))
  obtain⟨bw,bb⟩:=Oe W.heap.size
  have al:W.grownBy WB N:=by rw[a7];exact A2 _ _ _
  have HW:X (WlI w WB W1.heap.size w.heap.size bw y aa F T (λ_=>0) L m pa pk ca ck ha hk 0 0):=by
   refine⟨L8 (L8 cj (A7 _ _)) (L8 D al),A4.grow b5.o al,by rw[a7,bb];exact nx W _,?_,?_,⟨_,A4.grow ar.o.1 al,?_,λa h=>absurd h (lo _)⟩,⟨_,A4.grow av.o.1 al,?_,λa h=>absurd h (lo _)⟩,λa h=>absurd h (lo _),λa h=>absurd h (lo _),λa c h=>absurd h (lo _),⟨a1,ng a1⟩,⟨by rw[bb];exact ak,ar.o.2,au.o.2,av.o.2,aw.o.2⟩⟩
   ·have:=A4.grow au.o.1 al;have e:E4 m.c.length [Value.int I (-1)]=lw m.c.length (Value.int I (-1)):=b7f _ _;rw[e]at this;exact this
   ·have:=A4.grow aw.o.1 al;have e:(lm (Value.bool false).cells (m.c.length*1)).toList=lw m.c.length (Value.bool false):=a6V _;rw[e]at this;exact this
   ·simp[lm,Value.cells]
   ·simp[lm,Value.cells]
  rw[<-bb];have bd:W.alloc (H #[Z m.n, V pa m.p.length pk, J I m.r.k, Z m.r.n, J I m.s, J I m.l, V ca m.c.length ck, V ha m.h.length hk, V (O (A y 0 N)) m.c.length m.c.length, V (O (A aa 0 N)) m.c.length m.c.length, V (O (A F 0 N)) m.c.length m.c.length, V (O (A T 0 N)) m.c.length m.c.length, V N 0 0] 308)=WB:=a7.symm;rw[bd];clear a7 bd bb al b5 ar au av aw b2 D ak;have c6:=HW.o.meth.c6;go_wp2_with fail
  go_loopw [27] (λc W=>∃(j:Nat) (g:Nat->Nat),c= J I j/\j<=m.c.length/\WlI w W W1.heap.size w.heap.size bw y aa F T g L m pa pk ca ck ha hk j j) (λc _=>m.c.length-(ll c).toNat)
  case atStart=>exact⟨0,_,rfl,na _,HW.o⟩
  case round=>
   obtain⟨j,g,rfl,hj,hI⟩:=hrel;have HI:=A1 hI;clear hI c6;by_cases hlt:j<m.c.length
   ·have bv:=A1 (lf HI.o.low.1 (ng HI.o.walk.lt));obtain⟨pd,dp,ct,an⟩:=(C0.keep cc.o HI.o.gb) j hlt;obtain⟨i,hi⟩:=Oe (m.c[j])
    rw[<-hi]at an;have co:i∈m.c:=by rw[hi];exact nl hlt
    have cn:i=A5 m j:=by rw[hi];unfold A5;simp[hlt]
    subst dp;have y0:wr.cell? (pd.add (j*4))=O (J I i.o):=an 0 _ rfl;have y1:wr.cell? (A ((pd.add (j*4)).block) ((pd.add (j*4)).off+1) N)=O (J I i.a):=by rw[C2 pd (j*4) 0];exact an 1 _ rfl
    have y2:wr.cell? (A ((pd.add (j*4)).block) ((pd.add (j*4)).off+2) N)=O (Z i.c):=by rw[C2 pd (j*4) 1];exact an 2 _ rfl
    have y3:wr.cell? (A ((pd.add (j*4)).block) ((pd.add (j*4)).off+3) N)=O (Z i.m):=by rw[C2 pd (j*4) 2];exact an 3 _ rfl
    have b4:X (i=A5 m j/\a4M L i):=⟨cn,dk.o i co⟩
    have ea:=A1 (nf ct hl);clear an hi co cn ct;have eb:(j:Int)<(m.c.length:Int):=by omega
    go_upto_region 6 with fail
    have a':A4 (wr.alloc (H #[J I i.o, J I i.a, Z i.c, Z i.m] 120)) wr.heap.size #[J I i.o, J I i.a, Z i.c, Z i.m] 120:=nx wr _;have az:wr.grownBy (wr.alloc (H #[J I i.o, J I i.a, Z i.c, Z i.m] 120)) N:=A2 wr _ N;have a2:=A1 (HI.o.keep (A0 az (A7 _ _)));obtain⟨bi,am⟩:=Oe wr.heap.size
    have d':=A1 am;rw[<-am]at a';generalize wr.alloc (H #[J I i.o, J I i.a, Z i.c, Z i.m] 120)=W2 at a' az a2⊢;have b3:=A1 (L8 HI.o.gb az);rw[<-am];clear am y0 y1 y2 y3;have c':X (A4 W2.drew bi #[J I i.o, J I i.a, Z i.c, Z i.m] 120):=a';clear a'
    have HE:X (∀W,W2.grownBy W N->le prog 197 #[U (O (A b 0 N)), .agg (mV m pa pk (O pd) ck ha hk), .agg #[J I i.o, J I i.a, Z i.c, Z i.m]] W λe w'=>W.grownBy w' N/\∃v,e= Y v/\a7O w' W.heap.size L m i v):=λW hW=>by
     exact b0C W lim b L p cap m1 m2 m3 q (h.o.keep (L8 b3.o hW) hl) (lf hl (L8 b3.o hW).size) m pa (O pd) ha pk ck hk i b4.o.2
    refine ni (S:=(λw'=>A4 w' bw (WkV m pa pk (O pd) ck ha hk y aa F T m.c.length N 0 0).toArray 308/\A4 w' w.heap.size (mV m pa pk (O pd) ck ha hk) 102/\A4 w' bi #[J I i.o, J I i.a, Z i.c, Z i.m] 120)) Ok0 ⟨a2.o.walk,a2.o.meth,c'.o⟩ (λB=> ?_);refine A3 0 ?_;refine A3 1 ?_;refine A3 2 ?_;refine tkT 3 (v:= V (O (A y 0 N)) m.c.length m.c.length) (hv:= .inl ⟨by rfl,?h4⟩) (k:= ?r4)
    case h4=>
     intro w5 E;have q0:=E.1.cell 8 (V (O (A y 0 N)) m.c.length m.c.length) rfl;exact a4m
    try simp only[lg,lz]
    refine A3 4 ?_;refine A3 5 ?_;refine tkT 6 (v:= .agg (mV m pa pk (O pd) ck ha hk)) (hv:= .inl ⟨by rfl,?h7⟩) (k:= ?r7)
    case h7=>
     intro w5 E;obtain⟨q0,q1,q2,q3,q4,q5,q6,q7⟩:=E.2.1.q8;exact a4m
    try simp only[lg,lz]
    refine tkT 7 (v:= .agg #[J I i.o, J I i.a, Z i.c, Z i.m]) (hv:= .inl ⟨by rfl,?h8⟩) (k:= ?r8)
    case h8=>
     intro w5 E;obtain⟨q0,q1,q2,q3⟩:=E.2.2.q4;exact a4m
    try simp only[lg,lz]
    refine F3 8 λK M=> ?_;go_simp
    go_wp2_with (go_at_call 197;refine(HE.o W2.drew (A7 _ _)).mono ?_;rintro e w3 ⟨ay,v,rfl,hv⟩;dsimp only)
    refine M.o _ _ ⟨A4.grow B.1 ay,A4.grow B.2.1 ay,A4.grow B.2.2 ay⟩ (λad=> ?_);try clear M K
    obtain⟨ta,tk,ua,uk,rfl,cp,cq⟩:=hv;have bm:=A1 (a2.o.keep ay);have bk:X (w3.ownsRow W1.heap.size 98 2 (V ta (E5 L m i).length tk) (E5 L m i).length ((E5 L m i).flatMap B8)/\w3.ownsRow W1.heap.size 98 2 (V ua (C7 L i).length uk) (C7 L i).length ((C7 L i).flatMap B8)):=⟨U6 cp (lf bv.o az.size),U6 cq (lf bv.o az.size)⟩
    clear cp cq;obtain⟨cs,aj,ax,cd⟩:=bm.o.eff;have dl:j*3+3<=cs.length:=by rw[ax];omega
    obtain⟨u0,x0⟩:∃u,w3.cell? (A y (j*3) N)=O u:=⟨_,b7 aj (j*3) (cs[j*3]' Oo) (lp Oo)⟩
    obtain⟨u1,x1⟩:∃u,w3.cell? (A y (j*3+1) N)=O u:=⟨_,b7 aj (j*3+1) (cs[j*3+1]' Oo) (lp Oo)⟩
    obtain⟨u2,x2⟩:∃u,w3.cell? (A y (j*3+2) N)=O u:=⟨_,b7 aj (j*3+2) (cs[j*3+2]' Oo) (lp Oo)⟩
    have z0:=aj.frozen (j*3);have z1:=aj.frozen (j*3+1);have z2:=aj.frozen (j*3+2);have b1:X (A4 w3 y cs.toArray 315/\cs.length=m.c.length*3/\∀a,a<j->a2w w3 W1.heap.size L m cs.toArray a):=⟨aj,ax,cd⟩
    clear aj ax cd dl;try simp only[lg,lz]
    refine A3 9 ?_;refine F3 10 λK M=> ?_;go_simp
    have aq:=A1 (bm.o.effset2 hlt b4.o.1 bk.o.1 bk.o.2);have cg:w3.grownBy (((w3.setCell (A y (j*3) N) (V ta (E5 L m i).length tk)).setCell (A y (j*3+1) N) (V ua (C7 L i).length uk)).setCell (A y (j*3+2) N) (G (o4 i))) (O y):=A0 (A0 (A6 _ (A y (j*3) N) _) (A6 _ (A y (j*3+1) N) _)) (A6 _ (A y (j*3+2) N) _);refine M.o _ _ ⟨aq.o.walk,aq.o.meth,A4.keep ad.2.2 cg (λe=>G8 ad.2.2 b1.o.1 Od (ly.inj e))⟩ (λa4=> ?_);clear M K B ad a4 x0 x1 x2 z0 z1 z2 b1 bk bm ay cg;refine lv Ok0 ?_ _;generalize (((w3.setCell (A y (j*3) N) (V ta (E5 L m i).length tk)).setCell (A y (j*3+1) N) (V ua (C7 L i).length uk)).setCell (A y (j*3+2) N) (G (o4 i)))=W4 at aq⊢;go_upto_region 7 with fail
    obtain⟨st1,a0⟩:=Oe (m.s+1)
    have e7:IntKind.i64.wrap ((m.s:Int)+1)=(st1:Int):=by rw[IntKind.wrap_i64,a0];omega
    have bp:X (st1=m.s+1/\st1<=256):=⟨a0,by omega⟩
    clear a0;have ae:=A1 (aq.o.keep (A7 _ _));clear aq;refine ni (S:=(λw'=>A4 w' bw (WkV m pa pk (O pd) ck ha hk y aa F T m.c.length N 0 0).toArray 308/\A4 w' w.heap.size (mV m pa pk (O pd) ck ha hk) 102)) Ok0 ⟨ae.o.walk,ae.o.meth⟩ (λB=> ?_);refine A3 0 ?_;refine A3 1 ?_;refine A3 2 ?_;refine tkT 3 (v:= V (O (A F 0 N)) m.c.length m.c.length) (hv:= .inl ⟨by rfl,?h13⟩) (k:= ?r13)
    case h13=>
     intro w5 E;have q0:=E.1.cell 10 (V (O (A F 0 N)) m.c.length m.c.length) rfl;exact a4m
    try simp only[lg,lz]
    refine A3 4 ?_;refine A3 5 ?_;refine tkT 6 (v:= J I m.s) (hv:= .inl ⟨by rfl,?h16⟩) (k:= ?r16)
    case h16=>
     intro w5 E;have q0:=E.2.cell 4 (J I m.s) rfl;exact a4m
    try simp only[lg,lz]
    refine A3 7 ?_;refine F3 8 λK M=> ?_;refine(if_pos (by rfl)).mpr ?_;refine a6D _ (.tmp 49) (.tmp 49) 264 rfl W4.drew.heap.size 4 cz _ 1 underlying264 cv cw cx I I st1 rfl rfl (by rw[cy];have:=bp.o.2;omega) (by have:=bp.o.2;unfold lj;omega) (lh _) ?_;intro w5 cr bc;have bt:=(a1S cr).1;have b':X (A4 w5 W4.drew.heap.size (lw st1 (Value.bool false)).toArray 4):=by rw[a6V]at bt;exact bt
    clear cr bt;refine M.o _ _ ⟨A4.grow B.1 bc,A4.grow B.2 bc⟩ (λa5=> ?_);clear M K;have bn:=A1 (ae.o.keep bc);obtain⟨gn,ao⟩:=Oe W4.drew.heap.size
    have bl:X (W1.heap.size<=gn/\gn≠T/\∀a,a<j->g a≠gn):=by
     refine⟨?_,?_,λa ha=> ?_⟩
     ·rw[ao];exact lf ae.o.low.1 (ng ae.o.walk.lt)
     ·rw[ao];exact Nat.ne_of_gt ae.o.wrong.lt
     ·rw[ao];exact Nat.ne_of_lt (ae.o.rows a ha).lt
    rw[<-ao]at b';rw[<-ao];clear ao;obtain⟨ds,hds,dj,-⟩:=bn.o.seen;obtain⟨u0,x0⟩:∃u,w5.cell? (A F j N)=O u:=⟨_,b7 hds j (ds[j]' Oo) (lp Oo)⟩
    have z0:=hds.frozen j;clear hds dj ae B bc;try simp only[lg,lz]
    refine A3 9 ?_;refine F3 10 λK M=> ?_;go_simp
    have bo:=A1 (bn.o.seenset2 hlt bp.o.1 b'.o bl.o.1 bl.o.2.1 bl.o.2.2);refine M.o _ _ ⟨bo.o.walk,bo.o.meth⟩ (λa6=> ?_);clear M K a5 a6 x0 z0 bn;refine lv Ok0 ?_ _;go_wp2_with fail
    go_roundw
    case rel=>exact⟨j+1,_,by first|rfl|go_num,by omega,bo.o⟩
    case measure=>exact a0s
   ·have dm:m.c.length=j:=by omega
    subst dm;have HM:=A1 HI.o.done;obtain⟨cs,bq,dc,br⟩:=HI.o.eff
    have HE:X (a6x wr y L m):=⟨cs.toArray,bq,λa bs=>by
     obtain⟨ta,tk,ua,uk,h1,h2,h3,-⟩:=br a bs;exact⟨ta,tk,ua,uk,h1,h2,h3⟩⟩
    have bz:X (A4 wr y cs.toArray 315/\∀a,a<m.c.length->a2w wr W1.heap.size L m cs.toArray a):=⟨bq,br⟩
    clear bq dc br;have bx:=A1 (lf HI.o.low.1 (ng HI.o.walk.lt));have da:=A1 (C0.keep cc.o HI.o.gb);have db:=A1 (C0.keep df.o HI.o.gb);have cb:=c1t wr W1.heap.size bw y aa F T g L m pa pk ca ck ha hk (y7 m) rfl 0 HM HE lim (lf hl (ng a1)) bx.o da db ap.o.1 ap.o.2.1 ap.o.2.2.1 ap.o.2.2.2.1 ap.o.2.2.2.2;go_wp2_with (go_at_call 198;refine cb.mono ?_;rintro e w9 ⟨rfl,s9,d8,d9,dd,dg,de,dh,a3⟩;dsimp only)
    go_ret;have bj:=ng a1;exact⟨W1.heap.size,bw,y,aa,F,T,g,s9,d8,d9,rfl,bj,lf bx.o a3.size,dd,dg,de,dh,⟨cs.toArray,a3.eff _ _ _ bz.o.1,λa bs=>(bz.o.2 a bs).fr a3⟩,c3R HI.o.gb a3 bj⟩
def b0b(l:List Bool)(r:Int):Prop:=(r= -1/\∀i,l.getD i false=false)\/∃k:Nat,r=(k:Int)/\k<l.length/\l.getD k false=true/\∀i,i<k->l.getD i false=false
theorem b5n(w:la)(g:Nat)(l:List Bool)(T:A4 w g (l.map Value.bool).toArray 4)(hl:l.length<=65535):
 le prog 251 #[V (O (A g 0 N)) l.length l.length, G true] w λe w'=>(∃r,e= Y (J I r)/\b0b l r)/\w'=w:=by
 have HB:=A1 T;obtain⟨n,E⟩:=Oe l.length
 have K:=A1 E;rw[<-E]at hl⊢;clear T E;go_enter func251,ntmps251;go_wp2_with fail
 go_loopw [8] (λc W=>∃j:Nat,c= J I j/\j<=n/\W=w/\∀i,i<j->l.getD i false=false) (λc _=>n-(ll c).toNat)
 case atStart=>exact⟨0,rfl,na _,rfl,λi hi=>absurd hi (lo _)⟩
 case round=>
  obtain⟨j,rfl,hj,rfl,y⟩:=hrel;have d:=A1 y;clear y;by_cases hlt:j<n
  ·have aa:(j:Int)<(n:Int):=by omega
   have B:j<l.length:=by rw[<-K.o];exact hlt
   obtain⟨x,F⟩:=Oe (l.getD j false)
   have M:=A1 F;have c0:wr.cell? (A g j N)=O (G x):=b7 HB.o j _ (by rw[F];simp[B]);clear F;cases x with
   |true=>
    go_wp2_with fail
    refine lq (v:= J I j) (by simp[lr,results251,go_sem]) rfl ⟨⟨_,rfl, .inr ⟨j,rfl,B,M.o.symm,d.o⟩⟩,by first|rfl|trivial⟩
   |false=>
    go_wp2_with fail
    go_roundw
    case rel=>exact⟨j+1,by first|rfl|go_num,by omega,by first|rfl|trivial,λi hi=>by
     by_cases e:i=j
     ·rw[e];exact M.o.symm
     ·exact d.o i Oo⟩
    case measure=>exact a0s
  ·have D:n=j:=by omega
   subst D;go_wp2_with fail
   go_ret
   exact⟨⟨_,rfl, .inl ⟨rfl,λi=>by
    by_cases hi:i<n
    ·exact d.o i hi
    ·rw[lk,nu (by have:=K.o;omega)];rfl⟩⟩,by first|rfl|trivial⟩
theorem b5e(w:la)(base b eg hg sg wg:Nat)(g:Nat->Nat)(m:Me)(pa:Option lb)(pk:Nat)(ca:Option lb)(ck:Nat)(ha:Option lb)(hk:Nat)(s:Wk)(B:Option lb)(D:Nat)
 (h:X (O5 w base b eg hg sg wg g m pa pk ca ck ha hk m.c.length m.s s B D)) (d:s.wrong.length=m.c.length) (E:m.c.length<=65535):
 le prog 165 #[U (O (A b 0 N))] w λe w'=>(∃r,e= Y (.tuple #[J I r, G (decide (0<=r))])/\b0b s.wrong r)/\w'=w:=by
 have c11:w.cell? (A b 11 N)=O (V (O (A wg 0 N)) m.c.length m.c.length):=h.o.blk.cell 11 _ rfl;have i:=b5n w wg s.wrong h.o.wrong Oo;rw[d]at i;clear d;go_enter func165,ntmps165;go_wp2_with (go_at_call 251;refine i.mono ?_;rintro e w' ⟨⟨r,rfl,y⟩,rfl⟩;dsimp only)
 go_ret2
 exact⟨⟨r,rfl,y⟩,rfl⟩
theorem a6R(h:m.c.length=0\/m.l<1+m.p.length):e8 L m=O 0:=by unfold e8;rw[if_pos h]
theorem b1C(h:¬(m.c.length=0\/m.l<1+m.p.length))(B:j<m.c.length)(y:p9 L m j=true)(d:∀i,i<j->p9 L m i=false):e8 L m=O j:=by
 unfold e8;rw[if_neg h,a6B B y d]
theorem b0B{p:Nat->Bool}(d:∀i,i<n->p i=false):a0T p n=N:=by
 unfold a0T;rw[ug];intro x y;simp[d x (List.mem_range.1 y)]
theorem b3m(h:¬(m.c.length=0\/m.l<1+m.p.length))(d:∀i,i<m.c.length->p9 L m i=false)(B:j<m.h.length)(y:a0Z L m m.h[j]=true)(hh:∀i (hi:i<m.h.length),i<j->a0Z L m m.h[i]=false):e8 L m=O m.h[j].f:=by
 unfold e8;rw[if_neg h,b0B d];dsimp only
 have:m.h.find? (a0Z L m)=O m.h[j]:=by
  rw[List.find?_eq_some_iff_getElem];exact⟨y,j,B,rfl,λi hi=>by simp[hh i Oo hi]⟩
 rw[this];rfl
theorem b1B(h:¬(m.c.length=0\/m.l<1+m.p.length))(d:∀i,i<m.c.length->p9 L m i=false)(hh:∀i (hi:i<m.h.length),a0Z L m m.h[i]=false):e8 L m=N:=by
 unfold e8;rw[if_neg h,b0B d];dsimp only
 have:m.h.find? (a0Z L m)=N:=by
  rw[ug];intro x y;obtain⟨i,hi,rfl⟩:=List.getElem_of_mem y;simp[hh i hi]
 rw[this];rfl
theorem b5t(w:la)(lim b:Nat)(L:List Cl)(m:Me)(pa ca ha:Option lb)(pk ck hk:Nat)(hn:m.c.length<=65535)(p:lb)(cap m1 m2 m3:Nat)(q:Nat->Qs)(h:X (Lk w lim b L p cap m1 m2 m3 q))(hl:lim<=w.heap.size)(a6:X (C0 w lim 4 M0 ca m.c))(a7:X (C0 w lim 4 O3 ha m.h))(ba:X (∀i∈m.c,i.c.size<=lj/\i.m.size<=lj))(a':X (∀d∈m.h,d.c.size<=lj))(av:m.p.length<=65535)(bd:m.h.length<=65535):
 le prog 164 #[U (O (A b 0 N)), .agg #[Z m.n, V pa m.p.length pk, J I m.r.k, Z m.r.n, J I m.s, J I m.l, V ca m.c.length ck, V ha m.h.length hk]] w λe w'=>e= Y (.tuple #[J I ((e8 L m).getD 0:Nat), G (e8 L m).isSome])/\w.grownBy w' N:=by
 obtain⟨F,hF⟩:=Oe (e8 L m)
 have HF:=A1 hF;rw[<-hF];clear hF;have ab:X (w.grownBy (w.alloc (H #[Z m.n, V pa m.p.length pk, J I m.r.k, Z m.r.n, J I m.s, J I m.l, V ca m.c.length ck, V ha m.h.length hk] 102)) N):=A2 _ _ _;by_cases h0:m.c.length=0
 ·have HZ:=A1 (HF.o.trans (a6R (.inl h0)));rw[HZ.o];rw[h0]at ab⊢;clear hn h0;go_enter func164,ntmps164;go_wp2_with fail
  go_ret2
  exact⟨rfl,ab.o⟩
 have hz:((m.c.length:Int)==0)=false:=by rw[beq_eq_false_iff_ne];omega
 by_cases h1:m.l<1+m.p.length
 ·have HZ:=A1 (HF.o.trans (a6R (.inr h1)));have ao:(m.l:Int)<1+(m.p.length:Int):=by omega
  rw[HZ.o];go_enter func164,ntmps164;go_wp2_with fail
  go_ret2
  exact⟨rfl,ab.o⟩
 have ao:¬(m.l:Int)<1+(m.p.length:Int):=by omega
 have ak:X (¬(m.c.length=0\/m.l<1+m.p.length)):=by rintro(e|e);exact h0 e;exact h1 e
 clear h0 h1;go_enter func164,ntmps164;go_wp2_with fail
 obtain⟨W1,af⟩:=Oe (w.alloc (H #[Z m.n, V pa m.p.length pk, J I m.r.k, Z m.r.n, J I m.s, J I m.l, V ca m.c.length ck, V ha m.h.length hk] 102))
 have az:X (w.grownBy W1 N):=by rw[af];exact ab.o
 have ax:X (A4 W1 w.heap.size #[Z m.n, V pa m.p.length pk, J I m.r.k, Z m.r.n, J I m.s, J I m.l, V ca m.c.length ck, V ha m.h.length hk] 102):=by rw[af];exact A4.new w _ _
 rw[<-af];clear af ab ao hz;go_loopw [28] (λc W=>∃j:Nat,c= J I j/\j<=m.c.length/\W1.grownBy W N/\∀i,i<j->p9 L m i=false) (λc _=>m.c.length-(ll c).toNat)
 case atStart=>exact⟨0,rfl,na _,C9 _ _,λi hi=>absurd hi (lo _)⟩
 case round=>
  obtain⟨j,rfl,hj,ag,ai⟩:=hrel;have HGW:=A1 (A0 az.o ag);have HG1W:=A1 ag;have ae:=A1 (ax.o.keep ag B9);have HALL:=A1 ai;clear ag ai;by_cases hlt:j<m.c.length
  ·obtain⟨D,am,av,y⟩:=(C0.keep a6.o HGW.o) j hlt;obtain⟨i,hi⟩:=Oe (m.c[j])
   rw[<-hi]at y;have al:=ba.o i (by rw[hi];exact nl hlt);have a1:X (i=A5 m j):=by unfold X;rw[hi];unfold A5;simp[hlt]
   subst am;have y0:wr.cell? (D.add (j*4))=O (J I i.o):=y 0 _ rfl;have y1:wr.cell? (A ((D.add (j*4)).block) ((D.add (j*4)).off+1) N)=O (J I i.a):=by rw[C2 D (j*4) 0];exact y 1 _ rfl
   have y2:wr.cell? (A ((D.add (j*4)).block) ((D.add (j*4)).off+2) N)=O (Z i.c):=by rw[C2 D (j*4) 1];exact y 2 _ rfl
   have y3:wr.cell? (A ((D.add (j*4)).block) ((D.add (j*4)).off+3) N)=O (Z i.m):=by rw[C2 D (j*4) 2];exact y 3 _ rfl
   have HIT:=A1 (λW hW=>b6t W lim b L p cap m1 m2 m3 q (h.o.keep hW hl) (lf hl hW.size) m pa (O D) ha pk ck hk i al.1 al.2);have HIE:=A1 (λW=>b8P W i.o);have M:X (p9 L m j=(!K8 L m i||(decide (j+1=m.c.length)&& !a1h i.o))):=by unfold X p9;rw[<-a1.o]
   have bb:(j:Int)<(m.c.length:Int):=by omega
   have bf:=ae.o.lt;obtain⟨k0,k1,k2,k3,k4,k5,k6,k7⟩:=(ae.o).q8;clear y hi al av;obtain⟨nd,au⟩:=Oe (K8 L m i)
   obtain⟨ie,aq⟩:=Oe (a1h i.o)
   rw[<-au]at HIT M;rw[<-aq]at HIE M;clear au aq;have B:=A1 (λhb=>HF.o.trans (b1C ak.o hlt hb HALL.o));cases nd with
   |false=>
    have HFJ:=A1 (B.o (by rw[M.o];rfl));exact a2g
   |true=>
    by_cases E:j+1=m.c.length
    ·have ar:((j:Int)==(m.c.length:Int)-1)=true:=by rw[beq_iff_eq];omega
     have a2:=A1 E;clear E;cases ie with
     |false=>
      have HFJ:=A1 (B.o (by rw[M.o];simp[a2.o]));exact a2g
     |true=>
      have HCF:X (p9 L m j=false):=by unfold X;rw[M.o];simp
      go_wp2_with (first|(go_at_call 229;go_loud (refine(HIT.o _ (A0 HGW.o (A2 _ _ N))).mono ?_;rintro e w1 ⟨rfl,hg1⟩;obtain⟨hc1,hf1⟩:=S0 hg1;have hz1:wr.heap.size<w1.heap.size:=by(have:=hg1.size;simp only[ls]at this;omega)))|(go_at_call 250;go_loud (refine(HIE.o _).mono ?_;rintro e w9 ⟨rfl,rfl⟩)))
      go_roundw
      case rel=>exact a4n
      case measure=>exact a0s
    ·have ar:((j:Int)==(m.c.length:Int)-1)=false:=by rw[beq_eq_false_iff_ne];omega
     have HCF:X (p9 L m j=false):=by unfold X;rw[M.o];simp[E]
     clear E;go_wp2_with (first|(go_at_call 229;go_loud (refine(HIT.o _ (A0 HGW.o (A2 _ _ N))).mono ?_;rintro e w1 ⟨rfl,hg1⟩;obtain⟨hc1,hf1⟩:=S0 hg1;have hz1:wr.heap.size<w1.heap.size:=by(have:=hg1.size;simp only[ls]at this;omega)))|(go_at_call 250;go_loud (refine(HIE.o _).mono ?_;rintro e w9 ⟨rfl,rfl⟩)))
     go_roundw
     case rel=>exact a4n
     case measure=>exact a0s
  ·have E:j=m.c.length:=by omega
   have aa:X (∀i,i<m.c.length->p9 L m i=false):=by rw[<-E];exact HALL.o
   have k7:=(ae.o).c7;clear HALL;subst E;go_wp2_with fail
   clear k7;have ah:=A1 HGW.o;generalize wr=wq at ah HGW ae HG1W⊢;go_loopw [55] (λc W=>∃j:Nat,c= J I j/\j<=m.h.length/\wq.grownBy W N/\∀r (hr:r<m.h.length),r<j->a0Z L m m.h[r]=false) (λc _=>m.h.length-(ll c).toNat)
   case atStart=>exact c8b
   case round=>
    obtain⟨K,rfl,be,ad,ac⟩:=hrel;have HGW2:=A1 (A0 ah.o ad);have a0:=A1 ad;have HALL:=A1 ac;clear ad ac;by_cases hlt:K<m.h.length
    ·obtain⟨D,am,aw,y⟩:=(C0.keep a7.o HGW2.o) K hlt;obtain⟨d,hd⟩:=Oe (m.h[K])
     rw[<-hd]at y;have hds:=a'.o d (by rw[hd];exact nl hlt);have an:=A1 hd;subst am;have y0:wr.cell? (D.add (K*4))=O (J I d.f):=y 0 _ rfl;have y1:wr.cell? (A ((D.add (K*4)).block) ((D.add (K*4)).off+1) N)=O (J I d.to):=by rw[C2 D (K*4) 0];exact y 1 _ rfl
     have y2:wr.cell? (A ((D.add (K*4)).block) ((D.add (K*4)).off+2) N)=O (J I d.t):=by rw[C2 D (K*4) 1];exact y 2 _ rfl
     have y3:wr.cell? (A ((D.add (K*4)).block) ((D.add (K*4)).off+3) N)=O (Z d.c):=by rw[C2 D (K*4) 2];exact y 3 _ rfl
     have aj:X (∀W,w.grownBy W N->le prog 240 #[U (O (A b 0 N)), Z d.c, Z ⟨#[84,104,114,111,119]⟩] W λe w'=>e= Y (G (G5 L d.c G6))/\W.grownBy w' N):=λW hW=>b2Y W lim b L p cap m1 m2 m3 q (h.o.keep hW hl) (lf hl hW.size) d.c G6 hds
     have T:X (a0Z L m d=(decide (d.to<=d.f)||decide (m.c.length<d.to)||decide (m.c.length<=d.t)|| !G5 L d.c G6)):=rfl
     have B:X (a0Z L m d=true->F=O d.f):=λhb=>by
      rw[an.o]at hb⊢;exact HF.o.trans (b3m ak.o aa.o hlt hb HALL.o)
     have bb:(K:Int)<(m.h.length:Int):=by omega
     clear y hd hds aw;by_cases g1:d.to<=d.f
     ·have a3:(d.to:Int)<=(d.f:Int):=by omega
      have HFJ:=A1 (B.o (by rw[T.o];simp[g1]));clear g1;exact a3y
     have a3:¬(d.to:Int)<=(d.f:Int):=by omega
     by_cases g2:m.c.length<d.to
     ·have a4:(m.c.length:Int)<(d.to:Int):=by omega
      have HFJ:=A1 (B.o (by rw[T.o];simp[g2]));clear g2 g1;exact a3y
     have a4:¬(m.c.length:Int)<(d.to:Int):=by omega
     by_cases g3:m.c.length<=d.t
     ·have a5:(m.c.length:Int)<=(d.t:Int):=by omega
      have HFJ:=A1 (B.o (by rw[T.o];simp[g3]));clear g3 g2 g1;exact a3y
     have a5:¬(m.c.length:Int)<=(d.t:Int):=by omega
     obtain⟨bl,ap⟩:=Oe (G5 L d.c G6)
     rw[<-ap]at aj T;clear ap;cases bl with
     |false=>
      have HFJ:=A1 (B.o (by rw[T.o];simp));clear g3 g2 g1;go_wp2_with (go_at_call 240;go_loud (refine(aj.o _ (A0 HGW2.o (A2 _ _ N))).mono ?_;rintro e w1 ⟨rfl,hg1⟩;obtain⟨hc1,hf1⟩:=S0 hg1;have hz1:wr.heap.size<w1.heap.size:=by(have:=hg1.size;simp only[ls]at this;omega)))
      exact lq (v:= .tuple #[J I d.f, G true]) (by simp[lr,results164,go_sem]) rfl ⟨by rw[HFJ.o];rfl,A0 (A0 HGW2.o (A2 _ _ N)) hg1⟩
     |true=>
      have HCF:X (a0Z L m d=false):=by unfold X;rw[T.o];simp[g1,g2,g3]
      clear g3 g2 g1;go_wp2_with (go_at_call 240;go_loud (refine(aj.o _ (A0 HGW2.o (A2 _ _ N))).mono ?_;rintro e w1 ⟨rfl,hg1⟩;obtain⟨hc1,hf1⟩:=S0 hg1;have hz1:wr.heap.size<w1.heap.size:=by(have:=hg1.size;simp only[ls]at this;omega)))
      go_roundw
      case rel=>exact⟨K+1,by first|rfl|go_num,by omega,A0 (A0 a0.o (A2 _ _ N)) hg1,λr hr bc=>by
       by_cases e:r=K
       ·subst e;rw[<-an.o];exact HCF.o
       ·exact HALL.o r hr Oo⟩
      case measure=>exact a0s
    ·have E:K=m.h.length:=by omega
     have ay:=A1 (HF.o.trans (b1B ak.o aa.o (λr hr=>HALL.o r hr Oo)));clear HALL;subst E;go_wp2_with fail
     exact lq (v:= .tuple #[J I 0, G false]) (by simp[lr,results164,go_sem]) rfl ⟨by rw[ay.o];rfl,HGW2.o⟩
def a4I(L:List Cl)(m:Me):Int:=match e8 L m with|some a=>(a:Int)|none=> -1
theorem a5U(h:e8 L m=O a):a4I L m=a:=by unfold a4I;rw[h]
theorem b1A(h:e8 L m=N):a4I L m= -1:=by unfold a4I;rw[h]
section
variable{w:World}{jb lim wb:Nat}{L:List Cl}{p:Addr}{cap:Nat}{q:Nat->Qs}{C:ByteArray}{m:Me}{r:Qj}
theorem b8p(h:X (Jb w jb lim wb L p cap q C m r)):
 le prog 123 #[U (O (A jb 0 N))] w λe w'=>e= Y (J I (a4I L m))/\w.grownBy w' N:=by
 obtain⟨F,hF⟩:=Oe (a4I L m)
 have HF:=A1 hF;rw[<-hF];clear hF;obtain⟨j0,-,j3,-,-,-,j7,j8,j9⟩:=h.o.cs;have hn:=h.o.codeN;have bs:=h.o.l;have a6:=h.o.prmN;have bq:=h.o.hdN;have HJ:=A1 (λW (hW:w.grownBy W N)=>h.o.keep hW);have a3:=h.o.blk.lt;have bp:=A1 h.o.ins;clear h;by_cases h0:m.c.length=0
 ·have HZ:X (F=0):=HF.o.trans (a5U (a6R (.inl h0)));rw[h0]at j8;clear hn h0;exact c5v
 have hz:((m.c.length:Int)==0)=false:=by rw[beq_eq_false_iff_ne];omega
 have e1:IntKind.i64.wrap (1+(m.p.length:Int))=1+(m.p.length:Int):=IntWalk.i64_in _ Oo;by_cases h1:m.l<1+m.p.length
 ·have HZ:X (F=0):=HF.o.trans (a5U (a6R (.inr h1)));have a0:(m.l:Int)<1+(m.p.length:Int):=by omega
  clear h1 h0;exact c5v
 have a0:¬(m.l:Int)<1+(m.p.length:Int):=by omega
 have am:X (¬(m.c.length=0\/m.l<1+m.p.length)):=by rintro(e|e);exact h0 e;exact h1 e
 clear h0 h1;go_enter func123,ntmps123;go_wp2_with fail
 go_quiet (fail)
 have ax:X (w.grownBy (w.drewN nq) N):=F4 _ _ N;generalize w.drewN nq=W1 at ax⊢;go_wp2_with fail
 clear j0 j3 j7 j8 j9 a0 hz e1;go_loopw [4] (λc W=>∃j:Nat,c= J I j/\j<=m.c.length/\W1.grownBy W N/\∀i,i<j->p9 L m i=false) (λc _=>m.c.length-(ll c).toNat)
 case atStart=>exact⟨0,rfl,na _,C9 _ _,λi hi=>absurd hi (lo _)⟩
 case round=>
  obtain⟨j,rfl,hj,an,aj⟩:=hrel;have HGW:=A1 (A0 ax.o an);have HG1W:=A1 an;have HALL:=A1 aj;obtain⟨j0,-,-,-,-,-,-,j8,j9⟩:=(HJ.o _ HGW.o).cs;clear an aj;by_cases hlt:j<m.c.length
  ·obtain⟨D,af,a6,y⟩:=(HJ.o _ HGW.o).c j hlt;obtain⟨i,hi⟩:=Oe (m.c[j])
   rw[<-hi]at y;have bb:X (i=A5 m j):=by unfold X;rw[hi];unfold A5;simp[hlt]
   have y0:wr.cell? (D.add (j*4))=O (J I i.o):=y 0 _ rfl;have y1:wr.cell? (A ((D.add (j*4)).block) ((D.add (j*4)).off+1) N)=O (J I i.a):=by rw[C2 D (j*4) 0];exact y 1 _ rfl
   have y2:wr.cell? (A ((D.add (j*4)).block) ((D.add (j*4)).off+2) N)=O (Z i.c):=by rw[C2 D (j*4) 1];exact y 2 _ rfl
   have y3:wr.cell? (A ((D.add (j*4)).block) ((D.add (j*4)).off+3) N)=O (Z i.m):=by rw[C2 D (j*4) 2];exact y 3 _ rfl
   rw[af]at j8;have HIT:X (∀W,w.grownBy W N->le prog 182 #[U (O (A jb 0 N)), .agg #[J I i.o, J I i.a, Z i.c, Z i.m]] W λe w'=>e= Y (G (K8 L m i))/\W.grownBy w' N):=λW hW=>b7a (HJ.o W hW) i
   have K:X (p9 L m j=(!K8 L m i||(decide (j+1=m.c.length)&& !a1h i.o))):=by unfold X p9;rw[<-bb.o]
   have br:(j:Int)<(m.c.length:Int):=by omega
   have a4:=nf a3 HGW.o.size;clear y hi a6 af;obtain⟨nd,a5⟩:=Oe (K8 L m i)
   obtain⟨ie,ao⟩:=Oe (a1h i.o)
   rw[<-a5]at HIT K;rw[<-ao]at K;have az:=A1 ao;clear a5 ao;have e2:IntKind.i64.wrap ((m.c.length:Int)-1)=(m.c.length:Int)-1:=IntWalk.i64_in _ Oo;have B:=A1 (λhb=>HF.o.trans (a5U (b1C am.o hlt hb HALL.o)));cases nd with
   |false=>
    have HFJ:=A1 (B.o (by rw[K.o];rfl));exact a3f
   |true=>
    by_cases E:j+1=m.c.length
    ·have ak:((j:Int)==(m.c.length:Int)-1)=true:=by rw[beq_iff_eq];omega
     have bc:=A1 E;clear E;cases ie with
     |false=>
      have HFJ:=A1 (B.o (by rw[K.o];simp[bc.o]))
      have bh:i.o≠12/\i.o≠20/\i.o≠30:=by
       have:=az.o;unfold a1h at this;simp at this;omega
      have o1:((i.o:Int)==12)=false:=beq_eq_false_iff_ne.2 Oo;have aq:¬(i.o:Int)=12:=by omega
      have bi:((i.o:Int) !=12)=true:=by simp[aq]
      have o2:((i.o:Int)==20)=false:=beq_eq_false_iff_ne.2 Oo;have ar:¬(i.o:Int)=20:=by omega
      have bj:((i.o:Int) !=20)=true:=by simp[ar]
      have o3:((i.o:Int)==30)=false:=beq_eq_false_iff_ne.2 Oo;have bk:¬(i.o:Int)=30:=by omega
      have bt:((i.o:Int) !=30)=true:=by simp[bk]
      clear bh;exact a3f
     |true=>
      have HCF:X (p9 L m j=false):=by unfold X;rw[K.o];simp
      have ap:i.o=12\/i.o=20\/i.o=30:=by
       have:=az.o;unfold a1h at this;simp at this;omega
      have ab:X (∀W,wr.grownBy W N->∃j':Nat,Value.int I ((j:Int)+1)= J I j'/\j'<=m.c.length/\W1.grownBy W N/\∀i,i<j'->p9 L m i=false):=λW hW=>⟨j+1,by go_num,by omega,A0 HG1W.o hW,λr hr=>by
       by_cases e:r=j
       ·rw[e];exact HCF.o
       ·exact HALL.o r Oo⟩
      by_cases o1:i.o=12
      ·have bm:((i.o:Int)==12)=true:=by rw[o1];rfl
       have m1:((i.o:Int) !=12)=false:=by rw[o1];rfl
       clear o1 ap;go_wp2_with (go_at_call 182;go_loud (refine(HIT.o _ (A0 HGW.o (A2 _ _ N))).mono ?_;rintro e w1 ⟨rfl,hg1⟩;obtain⟨hc1,hf1⟩:=S0 hg1;have hz1:wr.heap.size<w1.heap.size:=by(have:=hg1.size;simp only[ls]at this;omega)))
       go_roundw
       case rel=>exact ab.o _ (A0 (A2 _ _ N) hg1)
       case measure=>exact a0s
      have bm:((i.o:Int)==12)=false:=beq_eq_false_iff_ne.2 Oo;have aq:¬(i.o:Int)=12:=by omega
      have bi:((i.o:Int) !=12)=true:=by simp[aq]
      by_cases o2:i.o=20
      ·have bn:((i.o:Int)==20)=true:=by rw[o2];rfl
       have m2:((i.o:Int) !=20)=false:=by rw[o2];rfl
       clear o1 o2 ap;go_wp2_with (go_at_call 182;go_loud (refine(HIT.o _ (A0 HGW.o (A2 _ _ N))).mono ?_;rintro e w1 ⟨rfl,hg1⟩;obtain⟨hc1,hf1⟩:=S0 hg1;have hz1:wr.heap.size<w1.heap.size:=by(have:=hg1.size;simp only[ls]at this;omega)))
       go_roundw
       case rel=>exact ab.o _ (A0 (A2 _ _ N) hg1)
       case measure=>exact a0s
      have bn:((i.o:Int)==20)=false:=beq_eq_false_iff_ne.2 Oo;have ar:¬(i.o:Int)=20:=by omega
      have bj:((i.o:Int) !=20)=true:=by simp[ar]
      have bu:((i.o:Int)==30)=true:=by rw[show i.o=30 by omega];rfl
      have m3:((i.o:Int) !=30)=false:=by rw[show i.o=30 by omega];rfl
      clear o1 o2 ap;go_wp2_with (go_at_call 182;go_loud (refine(HIT.o _ (A0 HGW.o (A2 _ _ N))).mono ?_;rintro e w1 ⟨rfl,hg1⟩;obtain⟨hc1,hf1⟩:=S0 hg1;have hz1:wr.heap.size<w1.heap.size:=by(have:=hg1.size;simp only[ls]at this;omega)))
      go_roundw
      case rel=>exact ab.o _ (A0 (A2 _ _ N) hg1)
      case measure=>exact a0s
    ·have ak:((j:Int)==(m.c.length:Int)-1)=false:=by rw[beq_eq_false_iff_ne];omega
     have HCF:X (p9 L m j=false):=by unfold X;rw[K.o];simp[E]
     clear E;go_wp2_with (go_at_call 182;go_loud (refine(HIT.o _ (A0 HGW.o (A2 _ _ N))).mono ?_;rintro e w1 ⟨rfl,hg1⟩;obtain⟨hc1,hf1⟩:=S0 hg1;have hz1:wr.heap.size<w1.heap.size:=by(have:=hg1.size;simp only[ls]at this;omega)))
     go_roundw
     case rel=>exact a4n
     case measure=>exact a0s
  ·have E:j=m.c.length:=by omega
   have T:X (∀i,i<m.c.length->p9 L m i=false):=by rw[<-E];exact HALL.o
   have ak:¬(j:Int)<(m.c.length:Int):=by omega
   clear HALL E;go_wp2_with fail
   clear j0 j8 j9;have ai:=A1 HGW.o;generalize wr=wq at ai HGW HG1W⊢;go_loopw [7] (λc W=>∃j:Nat,c= J I j/\j<=m.h.length/\wq.grownBy W N/\∀r (hr:r<m.h.length),r<j->a0Z L m m.h[r]=false) (λc _=>m.h.length-(ll c).toNat)
   case atStart=>exact c8b
   case round=>
    obtain⟨k,rfl,hk,ae,ad⟩:=hrel;have HGW2:=A1 (A0 ai.o ae);have ba:=A1 ae;have HALL:=A1 ad;obtain⟨j0,-,-,-,-,-,-,-,j9⟩:=(HJ.o _ HGW2.o).cs;clear ae ad;by_cases hlt2:k<m.h.length
    ·obtain⟨D,af,a7,y⟩:=(HJ.o _ HGW2.o).hds k hlt2;obtain⟨d,hd⟩:=Oe (m.h[k])
     rw[<-hd]at y;have aw:=A1 hd;rw[af]at j9;have y0:wr.cell? (D.add (k*4))=O (J I d.f):=y 0 _ rfl;have y1:wr.cell? (A ((D.add (k*4)).block) ((D.add (k*4)).off+1) N)=O (J I d.to):=by rw[C2 D (k*4) 0];exact y 1 _ rfl
     have y2:wr.cell? (A ((D.add (k*4)).block) ((D.add (k*4)).off+2) N)=O (J I d.t):=by rw[C2 D (k*4) 1];exact y 2 _ rfl
     have y3:wr.cell? (A ((D.add (k*4)).block) ((D.add (k*4)).off+3) N)=O (Z d.c):=by rw[C2 D (k*4) 2];exact y 3 _ rfl
     have av:X (∀W,w.grownBy W N->le prog 183 #[U (O (A wb 0 N)), Z d.c, Z ⟨#[84,104,114,111,119]⟩] W λe w'=>e= Y (G (G5 L d.c G6))/\W.grownBy w' N):=λW hW=>a8p W lim wb L p cap q (HJ.o W hW).rw_.wo d.c G6
     have M:X (a0Z L m d=(decide (d.to<=d.f)||decide (m.c.length<d.to)||decide (m.c.length<=d.t)|| !G5 L d.c G6)):=rfl
     have B:X (a0Z L m d=true->F=d.f):=λhb=>by
      rw[aw.o]at hb⊢;exact HF.o.trans (a5U (b3m am.o T.o hlt2 hb HALL.o))
     have bg:(k:Int)<(m.h.length:Int):=by omega
     have a4:=nf a3 HGW2.o.size;clear y hd a7 af;go_wp2_with fail
     have ag:=A4.new wr #[J I d.f, J I d.to, J I d.t, Z d.c] 202;have ah:=A2 wr (H #[J I d.f, J I d.to, J I d.t, Z d.c] 202) N;replace j0:=ah.cell j0 Os
     generalize wr.alloc (H #[J I d.f, J I d.to, J I d.t, Z d.c] 202)=W5 at ag ah j0⊢;have ay:=A1 ah;generalize wr.heap.size=hs at ag⊢;have au:=A1 ag;have HC:X (∀W',W5.grownBy W' N->W'.cell? (A jb 0 N)=O (U (O (A wb 0 N)))/\W'.cell? (A hs 3 N)=O (Z d.c)):=λW' hW=>⟨hW.cell j0 Os,hW.cell (au.o.cell 3 _ rfl) Os⟩
     clear ag ah j0 j9 y0 y1 y2 y3;refine T6 HC (C9 _ _) (λac=> ?_);refine A3 0 ?_;refine A3 1 ?_;refine A3 2 ?_;refine A3 3 ?_;refine A3 4 ?_;refine A3 5 ?_;refine F3 6 λK' hK=> ?_
     go_simp
     go_wp2_with (go_at_call 183;refine(av.o _ (A0 HGW2.o (A0 ay.o (A7 W5 N)))).mono ?_;rintro e w9 ⟨rfl,a2⟩)
     have aa:=A1 (A0 (A7 W5 N) a2);have HG9:=A1 (A0 ay.o aa.o);refine hK.o _ _ (HC.o _ aa.o) (λac=> ?_);clear hK a2;refine A3 7 ?_;refine lv Ok0 ?_ _;clear ac HC;have al:=A1 (au.o.keep aa.o Os);have c0:=al.o.c0;have c1:=al.o.c1;have c2:=al.o.c2;by_cases g1:d.to<=d.f
     ·have bd:(d.to:Int)<=(d.f:Int):=by omega
      have HFJ:=A1 (B.o (by rw[M.o];simp[g1]));clear g1;exact a3c
     have bd:¬(d.to:Int)<=(d.f:Int):=by omega
     by_cases g2:m.c.length<d.to
     ·have be:(m.c.length:Int)<(d.to:Int):=by omega
      have HFJ:=A1 (B.o (by rw[M.o];simp[g2]));clear g2 g1;exact a3c
     have be:¬(m.c.length:Int)<(d.to:Int):=by omega
     by_cases g3:m.c.length<=d.t
     ·have bf:(m.c.length:Int)<=(d.t:Int):=by omega
      have HFJ:=A1 (B.o (by rw[M.o];simp[g3]));clear g3 g2 g1;exact a3c
     have bf:¬(m.c.length:Int)<=(d.t:Int):=by omega
     obtain⟨bl,a1⟩:=Oe (G5 L d.c G6)
     rw[<-a1]at M⊢;clear a1 av;cases bl with
     |false=>
      have HFJ:=A1 (B.o (by rw[M.o];simp));clear g3 g2 g1;exact a3c
     |true=>
      have HCF:X (a0Z L m d=false):=by unfold X;rw[M.o];simp[g1,g2,g3]
      clear g3 g2 g1;go_wp2_with fail
      go_roundw
      case rel=>exact⟨k+1,by first|rfl|go_num,by omega,A0 ba.o HG9.o,λr hr bo=>by
       by_cases e:r=k
       ·subst e;rw[<-aw.o];exact HCF.o
       ·exact HALL.o r hr Oo⟩
      case measure=>exact a0s
    ·have E:k=m.h.length:=by omega
     have a':=A1 (HF.o.trans (b1A (b1B am.o T.o (λr hr=>HALL.o r hr Oo))));have bg:¬(k:Int)<(m.h.length:Int):=by omega
     clear HALL E;go_wp2_with fail
     all_goals exact lq (v:= J I (-1)) (by simp[lr,results123,go_sem]) rfl ⟨by rw[a'.o],HGW2.o⟩
end
end Kx
namespace Cf
def Z0(s:List (List Bool))(a:Nat):Nat:=(s.getD a []).countP (λx=>x)
theorem b5s(r:List Bool)(h:Nat)(hh:h<r.length)(hf:r.getD h false=false):(r.set h true).countP (λx=>x)=r.countP (λx=>x)+1:=by
 exact b0f
variable {s:List (List Bool)}{a b h n:Nat}
theorem c1g(ha:a<s.length)(hh:h<(s.getD a []).length)(d:sq s a h=false)(b:Nat):Z0 (P2 s a h) b=if a=b then Z0 s b+1 else Z0 s b:=by
 unfold Z0 P2;rw[a2j];by_cases e:a=b
 ·subst e;rw[if_pos ⟨rfl,ha⟩,if_pos rfl,b5s _ _ hh d]
 ·rw[if_neg (by simp[e]),if_neg e]
structure a2X(l:List Cl)(m:Me)(s:List (List Bool)):Prop where
 len:s.length=m.c.length
 row:∀a,a<m.c.length->(s.getD a []).length=m.s+1
 snd:∀a h,sq s a h=true->G2 l m a h
def a9B(l:List Cl)(m:Me)(s:List (List Bool))(a h:Nat):Prop:=∀p∈X6 l m a h,sq s p.1 p.2=true
def Y2(l:List Cl)(m:Me)(s:List (List Bool))(gone:List Nat)(a n:Nat):Prop:=
 gone.getD a 0<=Z0 s a/\(Z0 s a=gone.getD a 0->∀h,h<n->sq s a h=true->a9B l m s a h)
variable {l:List Cl}{m:Me}
theorem b1R(d:a2X l m s)(ha:a<m.c.length)(hh:h<=m.s)(D:G2 l m a h):a2X l m (P2 s a h):=by
 have i:a<s.length:=by rw[d.len];exact ha
 have y:h<(s.getD a []).length:=by rw[d.row a ha];omega
 refine⟨by rw[a8M];exact d.len,λb B=>by rw[a8L];exact d.row b B,λb k hk=> ?_⟩;rw[a3U i y]at hk;split at hk
 ·rename_i e;rw[<-e.1,<-e.2];exact D
 ·exact d.snd b k hk
variable {gone:List Nat}
theorem b3x(E:a2X l m s)(ha:a<m.c.length)(hh:h<=m.s)(F:sq s a h=false)(i:Y2 l m s gone b n):Y2 l m (P2 s a h) gone b n:=by
 have y:a<s.length:=by rw[E.len];exact ha
 have B:h<(s.getD a []).length:=by rw[E.row a ha];omega
 unfold Y2;rw[c1g y B F];by_cases e:a=b
 ·subst e;rw[if_pos rfl];exact⟨by have:=i.1;omega,λD=>by have:=i.1;omega⟩
 ·rw[if_neg e];refine⟨i.1,λD k hk d p K=> ?_⟩;rw[a3U y B,if_neg (by simp[e])]at d;exact a4A y B (i.2 D k hk d p K)
theorem b2E(i:Y2 l m s gone a n)(hd:sq s a n=true->a9B l m s a n):Y2 l m s gone a (n+1):=
 ⟨i.1,λy h hh d=>by
  by_cases e:h=n
  ·subst e;exact hd d
  ·exact i.2 y h Oo d⟩
theorem b3Y(ha:a<gone.length)(i:Y2 l m s gone b n)(d:a=b->n=0):Y2 l m s (gone.set a (Z0 s a)) b n:=by
 unfold Y2;rw[a2j];by_cases e:a=b
 ·subst e;rw[if_pos ⟨rfl,ha⟩];exact⟨lh _,λ_ h hh=>by have:=d rfl;omega⟩
 ·rw[if_neg (by simp[e])];exact i
theorem b9M(d:Y2 l m s gone a n):Y2 l m s gone a 0:=⟨d.1,λ_ h hh=>by omega⟩
theorem c2M(y:a2X l m s)(F:∀a,a<m.c.length->Y2 l m s gone a (m.s+1))(D:∀a,a<m.c.length->Z0 s a=gone.getD a 0)(B:sq s 0 0=true):
 ∀a h,sq s a h=true↔G2 l m a h:=λa h=>
 ⟨y.snd a h,λK=>a4T (S:=λa h=>sq s a h=true) ⟨B,λa h d p E=>by
  have i:=a7G d;rw[y.len]at i;have M:=y.row a i.1;exact(F a i.1).2 (D a i.1) h Oo d p E⟩ K⟩
theorem b9G(l:List Cl)(m:Me)(a h:Nat):X6 l m a h=((m.h.filter λd=>G0 d a&&decide (0<m.s)).map λd=>(d.t,1))++(if N5 l m a h then(E6 (A5 m a) a).map λn=>(n,a0m l m a h)else []):=by
 unfold X6;congr 1
 by_cases h0:m.s=0
 ·rw[if_pos h0];have:∀d:Hd,(G0 d a&&decide (0<m.s))=false:=λd=>by simp[h0]
  simp[this]
 ·rw[if_neg h0]
  have:∀d:Hd,(G0 d a&&decide (0<m.s))=G0 d a:=λd=>by
   have:decide (0<m.s)=true:=by simp;omega
   rw[this,Bool.and_true]
  simp only[this]
end Cf
namespace Kx
theorem b2i:(prog.info? 3).map (λi=>(i.zero,i.size,i.bytes))=O (O (J I 0),1,8):=by kernel_rfl
structure Tw(w:World)(base:Nat)(v1:Value)(n1:Nat)(v2:Value)(n2:Nat)(xs ys:List Nat):Prop where
 o1:w.ownsRow base 3 1 v1 n1 (xs.flatMap P7)
 o2:w.ownsRow base 3 1 v2 n2 (ys.flatMap P7)
 sep:∀g,v1.ownBlock=some g->v2.ownBlock≠some g
section
variable{w w':World}{base g cap n1 n2:Nat}{v1 v2:Value}{xs ys:List Nat}{x:Nat}
theorem Tw.keep(h:Tw w base v1 n1 v2 n2 xs ys)(hg:w.grownBy w' N):Tw w' base v1 n1 v2 n2 xs ys:=⟨a1P h.o1 hg,a1P h.o2 hg,h.sep⟩
theorem Tw.nil(w:la)(base:Nat):Tw w base (V N 0 0) 0 (V N 0 0) 0 [] []:=⟨ny _ _ _ _,ny _ _ _ _,λg h=>by simp[Value.ownBlock]at h⟩
theorem Tw.app1(h:Tw w base v1 n1 v2 n2 xs ys)(y:w'.ownsRow base 3 1 (V (O (A g 0 N)) (n1+1) cap) (n1+1) (xs.flatMap P7++P7 x))
 (hg:w.grownBy w' v1.ownBlock) (i:v1.ownBlock=O g\/g=w.heap.size):Tw w' base (V (O (A g 0 N)) (n1+1) cap) (n1+1) v2 n2 (xs++ [x]) ys:=by
 refine⟨by simpa using y,h.o2.kept hg ?_,λk hk=> ?_⟩
 ·cases hv:v2.ownBlock with
  |none=>exact .inl rfl
  |some k=>exact .inr (λe=>h.sep k e.symm hv)
 ·simp only[Value.ownBlock,ly.injEq]at hk;subst hk;rcases i with e|e
  ·exact h.sep _ e
  ·intro d;have:=(h.o2.lt _ d).2;omega
theorem Tw.app2(h:Tw w base v1 n1 v2 n2 xs ys)(y:w'.ownsRow base 3 1 (V (O (A g 0 N)) (n2+1) cap) (n2+1) (ys.flatMap P7++P7 x))
 (hg:w.grownBy w' v2.ownBlock) (i:v2.ownBlock=O g\/g=w.heap.size):Tw w' base v1 n1 (V (O (A g 0 N)) (n2+1) cap) (n2+1) xs (ys++ [x]):=by
 refine⟨h.o1.kept hg ?_,by simpa using y,λk hk=> ?_⟩
 ·cases hv:v1.ownBlock with
  |none=>exact .inl rfl
  |some k=>exact .inr (λe=>h.sep k hv e.symm)
 ·simp only[Value.ownBlock,ne_eq,ly.injEq];intro d;subst d;rcases i with e|e
  ·exact h.sep _ hk e
  ·have:=(h.o1.lt _ hk).2;omega
end
def g9(m:Me)(at_ k:Nat):List Hd:=(m.h.take k).filter λd=>G0 d at_&&decide (0<m.s)
variable {m:Me}{at_ k lim:Nat}
theorem c2f(hk:k<m.h.length)(d:(G0 m.h[k] at_&&decide (0<m.s))=true):g9 m at_ (k+1)=g9 m at_ k++ [m.h[k]]:=by
 unfold g9;rw[no hk,List.filter_append,List.filter_cons,if_pos d];rfl
theorem c3l(hk:k<m.h.length)(hc:(G0 m.h[k] at_&&decide (0<m.s))=false):g9 m at_ (k+1)=g9 m at_ k:=by
 unfold g9;exact c7e
theorem a7B(m:Me)(at_ k:Nat):(g9 m at_ k).length<=m.h.length:=lf (List.length_filter_le _ _) (by rw[nr];omega)
def o8(L:List Cl)(m:Me)(at_ k:Nat):List Nat:=(g9 m at_ m.h.length).map (·.t)++(E6 (A5 m at_) at_).take k
def hiK(L:List Cl)(m:Me)(at_ h k:Nat):List Nat:=(g9 m at_ m.h.length).map (λ_=>1)++((E6 (A5 m at_) at_).take k).map (λ_=>a0m L m at_ h)
theorem b2D(L:List Cl)(m:Me)(at_ h:Nat):(X6 L m at_ h).map (·.1)=o8 L m at_ (if N5 L m at_ h then(E6 (A5 m at_) at_).length else 0)/\(X6 L m at_ h).map (·.2)=hiK L m at_ h (if N5 L m at_ h then(E6 (A5 m at_) at_).length else 0):=by
 rw[b9G];unfold o8 hiK g9;rw[nw (lh m.h.length)];cases N5 L m at_ h<;>simp[Function.comp_def]
theorem c2e(L:List Cl)(m:Me)(at_ h k:Nat):(hiK L m at_ h k).length=(o8 L m at_ k).length:=by unfold hiK o8;simp
theorem b2y(L:List Cl)(m:Me)(at_:Nat):o8 L m at_ 0=(g9 m at_ m.h.length).map (·.t):=by unfold o8;simp
theorem c0H(L:List Cl)(m:Me)(at_ h:Nat):hiK L m at_ h 0=(g9 m at_ m.h.length).map λ_=>1:=by unfold hiK;simp
variable {L:List Cl}
theorem b9C(hk:k<(E6 (A5 m at_) at_).length):o8 L m at_ (k+1)=o8 L m at_ k++ [(E6 (A5 m at_) at_)[k]]:=by unfold o8;rw[no hk,uh]
theorem c0I{h:Nat}(hk:k<(E6 (A5 m at_) at_).length):hiK L m at_ h (k+1)=hiK L m at_ h k++ [a0m L m at_ h]:=by unfold hiK;rw[no hk,nz,uh];rfl
theorem a8V(i:In)(at_:Nat):(E6 i at_).length<=2:=by
 unfold E6;by_cases h1:i.o=20\/i.o=30
 ·rw[if_pos h1];simp
 rw[if_neg h1];by_cases h2:i.o=12
 ·rw[if_pos h2];simp
 rw[if_neg h2];by_cases h3:13<=i.o/\i.o<=15
 ·rw[if_pos h3];simp
 ·rw[if_neg h3];simp
variable {w:World}
theorem Tw.rd{base n:Nat}{d i:Option lb}{D E:Nat}{xs ys:List Nat}(h:Tw w base (V d n D) n (V i n E) n xs ys)(y:n=xs.length)(B:n=ys.length):C0 w w.heap.size 1 P7 d xs/\C0 w w.heap.size 1 P7 i ys:=
 ⟨V7 (λ_=>rfl) (by rw[<-y];exact h.o1),V7 (λ_=>rfl) (by rw[<-B];exact h.o2)⟩
theorem b6R:∀d,d<32->(x8 d).length<=3:=by decide
theorem b1V:∀d,d<32->(a0K d).length<=2:=by decide
theorem Rw.counts_le{wb:Nat}{p:lb}{cap:Nat}{q:Nat->Qs}(h:Rw w lim wb L p cap q)(m:Me)(i:In)(hi:i.o<32):D7 L m i<=70000/\I5 L i<=70000:=by
 by_cases h1:i.o=19
 ·have B:=h.calledN i.c i.m
  have y:D7 L m i=1+(X4 L i.c i.m).p.length:=by
   unfold D7 E5;rw[h1,a4x];simp;omega
  have d:I5 L i=if(X4 L i.c i.m).r.k=0 then 0 else 1:=by
   unfold I5 C7;rw[h1,a4x];simp[Z2];split<;>rfl
  rw[y,d];exact⟨by omega,by split<;>omega⟩
 ·have d:=b0x L i h1;have:=b1V i.o hi;refine⟨?_,by omega⟩;by_cases h3:i.o=20
  ·unfold D7 E5 Z2;rw[h3];simp;split<;>simp
  ·rw[a7W L m i h1 h3];have:=b6R i.o hi;omega
theorem a7f{α:Type}{w':la}{sz:Nat}{enc:α->List ld}{a:Option lb}{xs:List α}{row:Option Nat}(h:C0 w lim sz enc a xs)(hg:w.grownBy w' row)(d:∀p,a=O p->row≠O p.block):C0 w' lim sz enc a xs:=λj D=>by
 obtain⟨p,i,y,B⟩:=h j D;refine⟨p,i,y,λr u E=>hg.cell (B r u E) ?_⟩;rw[show(p.add (j*sz+r)).block=p.block from by unfold Addr.add;split<;>rfl];exact λe=>d p i e.symm
theorem b2s{v:ld}{g b:Nat}(d:v.ownBlock=O g\/g=w.heap.size)(i:b<w.heap.size)(hv:v.ownBlock≠O b):g≠b:=by
 rcases d with e|e
 ·rintro rfl;exact hv e
 ·omega
def RcA(w:la)(S:List (Nat×Nat))(e:Ending)(w':la):Prop:=∃a1 k1 a2 k2,e= Y (.tuple #[V a1 S.length k1, V a2 S.length k2])/\C0 w' w'.heap.size 1 P7 a1 (S.map (·.1))/\C0 w' w'.heap.size 1 P7 a2 (S.map (·.2))/\w.grownBy w' N/\(∀p,a1=O p->w.heap.size<=p.block)/\∀p,a2=O p->w.heap.size<=p.block
section
variable{w:World}{jb lim wb:Nat}{L:List Cl}{p:Addr}{cap:Nat}{q:Nat->Qs}{C:ByteArray}{m:Me}{r:Qj}
theorem b5B(h:Hid (Jb w jb lim wb L p cap q C m r))(at_ ht:Nat)(hat:at_<m.c.length)(hht:ht<=65535):
 le prog 186 #[U (O (A jb 0 N)), J I at_, J I ht] w λe w'=>RcA w (X6 L m at_ ht) e w':=by
 have hhn:=h.o.hdN;have hcn:=h.o.codeN;have hst:=h.o.s;have HJ:=A1 (λW (hW:w.grownBy W N)=>h.o.keep hW);have hjw:=h.o.blk.lt;have HIN:=A1 h.o.ins;have HS:=b2D L m at_ ht;have HSL:Hid ((X6 L m at_ ht).length=(o8 L m at_ (if N5 L m at_ ht then(E6 (A5 m at_) at_).length else 0)).length):=by unfold Hid;rw[<-HS.1,nh]
 obtain⟨S,hS⟩:=Oe (X6 L m at_ ht)
 rw[<-hS]at HS HSL⊢;have HSE:=A1 HS;clear hS HS h;obtain⟨inf,hi0,hz0,hz1,hz2⟩:=lu b2i;go_enter func186,ntmps186;go_wp2_with fail
 go_loopw [8,9,10] (λv1 v2 c W=>∃k:Nat,c= J I k/\k<=m.h.length/\(∃ln,Hid (ln=(g9 m at_ k).length)/\Hid (Tw W w.heap.size v1 ln v2 ln ((g9 m at_ k).map (·.t)) ((g9 m at_ k).map λ_=>1)))/\Hid (w.grownBy W N)) (λ_ _ c _=>m.h.length-(ll c).toNat)
 case atStart=>exact⟨0,rfl,na _,⟨0,rfl,Tw.nil _ _⟩,C9 _ _⟩
 case round=>
  obtain⟨k,rfl,hk,⟨ln,HLN,hTw⟩,hg⟩:=hrel;obtain⟨j0,-,-,-,-,j6,-,j8,j9⟩:=(HJ.o _ hg.o).cs;by_cases hlt:k<m.h.length
  ·obtain⟨pd,hpd,-,hcd⟩:=(HJ.o _ hg.o).hds k hlt;obtain⟨d,hd⟩:=Oe (m.h[k])
   rw[<-hd]at hcd;have HDE:=A1 hd;rw[hpd]at j9;have y0:wr.cell? (pd.add (k*4))=O (J I d.f):=hcd 0 _ rfl;have y1:wr.cell? (A ((pd.add (k*4)).block) ((pd.add (k*4)).off+1) N)=O (J I d.to):=by rw[C2 pd (k*4) 0];exact hcd 1 _ rfl
   have y2:wr.cell? (A ((pd.add (k*4)).block) ((pd.add (k*4)).off+2) N)=O (J I d.t):=by rw[C2 pd (k*4) 1];exact hcd 2 _ rfl
   have y3:wr.cell? (A ((pd.add (k*4)).block) ((pd.add (k*4)).off+3) N)=O (Z d.c):=by rw[C2 pd (k*4) 2];exact hcd 3 _ rfl
   have hkI:(k:Int)<(m.h.length:Int):=by omega
   have hKL:ln<=255:=by have:=a7B m at_ k;rw[<-HLN.o]at this;omega
   have hjw2:=nf hjw hg.o.size;obtain⟨a1,k1,rfl⟩:=F7 hTw.o.o1;obtain⟨a2,k2,rfl⟩:=F7 hTw.o.o2;have hwz:=hg.o.size;clear hcd hd hpd;by_cases hc:(G0 d at_&&decide (0<m.s))=true
   ·have HY:Hid (g9 m at_ (k+1)=g9 m at_ k++ [d]):=by unfold Hid;rw[HDE.o];exact c2f hlt (by rw[<-HDE.o];exact hc)
    obtain⟨hc1,hc2⟩:=Bool.and_eq_true_iff.1 hc;have hc2':=of_decide_eq_true hc2;have hs1:(0:Int)<(m.s:Int):=by omega
    have HCV:Hid (∀W,le prog 185 #[.agg #[J I d.f, J I d.to, J I d.t, Z d.c], J I at_] W λe w'=>e= .returned (G true)/\W.grownBy w' N):=by rw[<-hc1];exact λW=>a6G W d at_
    clear hc hc1 hc2;obtain⟨X,hX⟩:=Oe (((g9 m at_ k).map (·.t)))
    obtain⟨Y,hY⟩:∃Y:List Nat,Y=((g9 m at_ k).map λ_=>1):=⟨_,rfl⟩
    rw[<-hX,<-hY]at hTw;have HX:=A1 hX;have HY2:=A1 hY;clear hX hY
    go_wp2_with (first
     |(go_at_call 185;refine(HCV.o _).mono ?_;rintro e w1 ⟨rfl,hg1⟩;obtain⟨hcc1,hcf1⟩:=S0 hg1;have hzz:=hg1.size;have z2:=hg1.cell y2 Os;have HT1:=A1 (hTw.o.keep hg1))
     |(at_builtin;first
        |(go_loud (refine np _ rfl _ _ 53 rfl w.heap.size 3 inf _ 1 8 underlying53 hi0 hz0 hz1 hz2 rfl Od (V a2 ln k2) ln (Y.flatMap P7) rfl (HT2.o.keep (A2 _ _ _)).o2 (A w2.heap.size 0 N) 1 1 [J I 1] rfl rfl (O8 w2 _ _) (by simp[Value.oneCell']) Oo Om Oo Oi _ rfl ?_)
          intro g2 c2 w3 hown hgrow hlie hlt'
          go_loud (
           have HT3:=A1 ((HT2.o.keep (A2 w2 (H [J I 1].toArray 3) N)).app2 (x:=1) hown hgrow hlie);have HG3:=A1 (C6 (A0 HG2.o (A2 w2 (H [J I 1].toArray 3) N)) hgrow (λg e=> .inl (K7 HT2.o.o2 e).1));clear hown hgrow hlie hlt'))
        |(go_loud (refine np _ rfl _ _ 53 rfl w.heap.size 3 inf _ 1 8 underlying53 hi0 hz0 hz1 hz2 rfl Od (V a1 ln k1) ln (X.flatMap P7) rfl (HT1.o.keep (A2 _ _ _)).o1 (A w1.heap.size 0 N) 1 1 [J I d.t] rfl rfl (O8 w1 _ _) (by simp[Value.oneCell']) Oo Om Oo Oi _ rfl ?_)
          intro g1 c1 w2 hown hgrow hlie hlt'
          go_loud (
           have HT2:=A1 ((HT1.o.keep (A2 w1 (H [J I d.t].toArray 3) N)).app1 (x:=d.t) hown hgrow hlie);have HG2:=A1 (C6 (A0 (A0 hg.o hg1) (A2 w1 (H [J I d.t].toArray 3) N)) hgrow (λg e=> .inl (K7 HT1.o.o1 e).1));have hs2:=HG2.o.size;clear hown hgrow hlie hlt'))))
    go_roundw
    case rel=>exact⟨k+1,by first|rfl|go_num,by omega,⟨ln+1,by unfold Hid;rw[HY.o,ub,<-HLN.o];rfl,by unfold Hid;rw[HY.o,nz,nz,<-HX.o,<-HY2.o];exact HT3.o⟩,HG3.o⟩
    case measure=>exact a0s
   ·have hc':(G0 d at_&&decide (0<m.s))=false:=by simpa using hc
    have HY:=A1 (c3l hlt (by rw[<-HDE.o];exact hc'));have HCV:=A1 (λW=>a6G W d at_);have HREL:Hid (∀W,wr.grownBy W N->Hid (ln=(g9 m at_ (k+1)).length)/\Hid (Tw W w.heap.size (V a1 ln k1) ln (V a2 ln k2) ln ((g9 m at_ (k+1)).map (·.t)) ((g9 m at_ (k+1)).map λ_=>1))):=λW hW=>⟨by unfold Hid;rw[HY.o];exact HLN.o,by unfold Hid;rw[HY.o];exact hTw.o.keep hW⟩
    obtain⟨cv,hcv⟩:=Oe (G0 d at_)
    rw[<-hcv]at HCV hc';clear hcv hc;cases cv with
    |false=>
     exact c8e
    |true=>
     have hs0:¬0<m.s:=by simpa using hc'
     have hs1:¬(0:Int)<(m.s:Int):=by omega
     exact c8e
  ·have HKN:Hid (k=m.h.length):=by unfold Hid;omega
   have hkI:¬(k:Int)<(m.h.length:Int):=by omega
   obtain⟨pd,hpd,-,hcd⟩:=(HJ.o _ hg.o).c at_ hat;obtain⟨i,hi⟩:=Oe (m.c[at_])
   rw[<-hi]at hcd;have HIC:Hid (A5 m at_=i):=by unfold Hid;rw[hi];unfold A5;simp[hat]
   have HOK:Hid (R7 i):=by rw[hi];exact HIN.o _ (nl _)
   rw[hpd]at j8;have y0:wr.cell? (pd.add (at_*4))=O (J I i.o):=hcd 0 _ rfl;have y1:wr.cell? (A ((pd.add (at_*4)).block) ((pd.add (at_*4)).off+1) N)=O (J I i.a):=by rw[C2 pd (at_*4) 0];exact hcd 1 _ rfl
   have y2:wr.cell? (A ((pd.add (at_*4)).block) ((pd.add (at_*4)).off+2) N)=O (Z i.c):=by rw[C2 pd (at_*4) 1];exact hcd 2 _ rfl
   have y3:wr.cell? (A ((pd.add (at_*4)).block) ((pd.add (at_*4)).off+3) N)=O (Z i.m):=by rw[C2 pd (at_*4) 2];exact hcd 3 _ rfl
   have hatI:(at_:Int)<(m.c.length:Int):=by omega
   have hjw2:=nf hjw hg.o.size;have HCT:Hid (∀W,w.grownBy W N->le prog 184 #[U (O (A jb 0 N)), .agg #[J I i.o, J I i.a, Z i.c, Z i.m]] W λe w'=>e= .returned (.tuple #[J I (D7 L m i), J I (I5 L i)])/\W.grownBy w' N):=λW hW=>a6H W jb lim wb L p cap q C m r (HJ.o W hW) i
   obtain⟨a1,k1,rfl⟩:=F7 hTw.o.o1;obtain⟨a2,k2,rfl⟩:=F7 hTw.o.o2;have hKL:ln<=255:=by have:=a7B m at_ k;rw[<-HLN.o]at this;omega
   clear hcd hi hpd hlt;go_upto_region 11 with fail
   have hb5:=A4.new wr #[J I i.o, J I i.a, Z i.c, Z i.m] 120;have hg5:=A2 wr (H #[J I i.o, J I i.a, Z i.c, Z i.m] 120) N;have HB5:=A1 hb5;have HG5:=A1 (A0 hg.o hg5)
   have HT5:Hid (Tw (wr.alloc (H #[J I i.o, J I i.a, Z i.c, Z i.m] 120)) w.heap.size (V a1 ln k1) ln (V a2 ln k2) ln (o8 L m at_ 0) (hiK L m at_ ht 0)):=by
    have:=hTw.o.keep hg5;rw[HKN.o]at this;rw[b2y,c0H];exact this
   have HL5:Hid (ln=(o8 L m at_ 0).length):=by unfold Hid;rw[b2y,nh,HLN.o,HKN.o]
   have HEND:Hid (∀(W:la) (a1 a2:Option lb) (k1 k2 lx kk:Nat),kk=(if N5 L m at_ ht then(E6 (A5 m at_) at_).length else 0)->lx=(o8 L m at_ kk).length->Tw W w.heap.size (V a1 lx k1) lx (V a2 lx k2) lx (o8 L m at_ kk) (hiK L m at_ ht kk)->w.grownBy W N->
    RcA w S (Ending.returned (.tuple #[V a1 lx k1, V a2 lx k2])) W):=λW a1 a2 k1 k2 lx kk hkk hlx hT hgW=>by
    subst hkk;obtain⟨h1,h2⟩:=hT.rd hlx (by rw[c2e];exact hlx);exact⟨a1,k1,a2,k2,by rw[HSL.o,<-hlx],by rw[HSE.o.1];exact h1,by rw[HSE.o.2];exact h2,hgW,λp e=>(hT.o1.lt p.block (by rw[e];rfl)).1,λp e=>(hT.o2.lt p.block (by rw[e];rfl)).1⟩
   have hws:=hg.o.size;clear hb5 hg5 y0 y1 y2 y3 j8 j9 hTw;have hb0:wr.heap.size<(wr.alloc (H #[J I i.o, J I i.a, Z i.c, Z i.m] 120)).heap.size:=by simp
   generalize wr.alloc (H #[J I i.o, J I i.a, Z i.c, Z i.m] 120)=W5 at HB5 HG5 HT5 hb0⊢;generalize wr.heap.size=bi at HB5 hb0 hws⊢;have c0:=HB5.o.c0;have c1:=HB5.o.c1;have c2:=HB5.o.c2;have c3:=HB5.o.c3;obtain⟨t,ht'⟩:=Oe (D7 L m i)
   obtain⟨u,hu'⟩:=Oe (I5 L i)
   rw[<-ht',<-hu']at HCT;have HRM:Hid (N5 L m at_ ht=(decide (t<=ht)&&decide (ht-t+u<=m.s))):=by unfold Hid N5;rw[HIC.o,<-ht',<-hu']
   have HBH:Hid (a0m L m at_ ht=ht-t+u):=by unfold Hid a0m;rw[HIC.o,<-ht',<-hu']
   have htb:t<=70000/\u<=70000:=by rw[ht',hu'];exact(HJ.o _ hg.o).rw_.counts_le m i HOK.o.1
   clear ht' hu' j0 j6;go_upto_region 12 with(go_at_call 184;refine(HCT.o _ HG5.o).mono ?_;rintro e w6 ⟨rfl,hg6⟩)
   have HG6:=A1 (A0 HG5.o hg6);have HT6:=A1 (HT5.o.keep hg6);have HB6:=A1 (HB5.o.keep hg6 Os);obtain⟨-,-,-,-,-,j6,-,-,-⟩:=(HJ.o _ HG6.o).cs;clear c0 c1 c2 c3 hg6;obtain⟨c0,c1,c2,c3⟩:w6.cell? (A bi 0 N)=O (J I i.o)/\w6.cell? (A bi 1 N)=O (J I i.a)/\w6.cell? (A bi 2 N)=O (Z i.c)/\w6.cell? (A bi 3 N)=O (Z i.m):=⟨HB6.o.cell 0 _ rfl,HB6.o.cell 1 _ rfl,HB6.o.cell 2 _ rfl,HB6.o.cell 3 _ rfl⟩
   have e4:IntKind.i64.wrap ((ht:Int)-(t:Int))=(ht:Int)-(t:Int):=IntWalk.i64_in _ Oo;have e5:IntKind.i64.wrap ((ht:Int)-(t:Int)+(u:Int))=(ht:Int)-(t:Int)+(u:Int):=IntWalk.i64_in _ Oo;by_cases hr:t<=ht/\ht-t+u<=m.s
   ·have HRO:Hid (N5 L m at_ ht=true):=by unfold Hid;rw[HRM.o,decide_eq_true hr.1,decide_eq_true hr.2];rfl
    have HKK:Hid ((E6 i at_).length=(if N5 L m at_ ht then(E6 (A5 m at_) at_).length else 0)):=by unfold Hid;rw[HRO.o,HIC.o];rfl
    have r1I:(t:Int)<=(ht:Int):=by omega
    have r2I:(ht:Int)-(t:Int)+(u:Int)<=(m.s:Int):=by omega
    have HBE:Hid (((ht-t+u:Nat):Int)=(ht:Int)-(t:Int)+(u:Int)):=by unfold Hid;omega
    have HGS:Hid (∀W,le prog 203 #[.agg #[J I i.o, J I i.a, Z i.c, Z i.m], J I at_] W λe w'=>∃a k,e= .returned (V a (E6 i at_).length k)/\C0 w' w'.heap.size 1 P7 a (E6 i at_)/\W.grownBy w' N/\∀p,a=O p->W.heap.size<=p.block):=λW=>b1S W i HOK.o at_ Oo
    have hgl2:=a8V i at_;obtain⟨gs,hgs⟩:=Oe (E6 i at_)
    have HTS:Hid (∀k (hk:k<gs.length),o8 L m at_ (k+1)=o8 L m at_ k++ [gs[k]]/\hiK L m at_ ht (k+1)=hiK L m at_ ht k++ [ht-t+u]):=by
     subst hgs;intro k hk;have e1:=b9C (L:=L) (m:=m) (at_:=at_) (k:=k) (by rw[HIC.o];exact hk);have e2:=c0I (L:=L) (m:=m) (at_:=at_) (h:=ht) (k:=k) (by rw[HIC.o];exact hk);rw[HBH.o]at e2;simp only[HIC.o]at e1;exact⟨e1,e2⟩
    rw[<-hgs]at HGS HKK hgl2;clear hr hgs;go_wp2_with (go_at_call 203;refine(HGS.o _).mono ?_;rintro e w7 ⟨ga,gk,rfl,hgr,hg7,hgb⟩)
    have HG7:=A1 (A0 HG6.o hg7);have HT7:=A1 (HT6.o.keep hg7);have HGB:Hid (∀p,ga=O p->(∀g,(Value.slice a1 ln k1).ownBlock=O g->g≠p.block)/\(∀g,(Value.slice a2 ln k2).ownBlock=O g->g≠p.block)):=λp e=>⟨λg hgg=>by have:=(HT6.o.o1.lt g hgg).2;have:=hgb p e;omega,λg hgg=>by have:=(HT6.o.o2.lt g hgg).2;have:=hgb p e;omega⟩
    have HGR:=A1 hgr;obtain⟨gn,hgn⟩:=Oe gs.length
    have HGN:=A1 hgn;rw[<-hgn]at HKK hgl2⊢;clear c0 c1 c2 c3 hg7 hgb hgr hgn j6;have h7s:=HG7.o.size
    have HLIM:Hid (∀p,ga=O p->0<gn->p.block<w7.heap.size):=λp e h0=>by
     obtain⟨p2,e2,hb,-⟩:=HGR.o 0 (by rw[<-HGN.o];exact h0);exact c7p
    go_wp2_with fail
    go_loopw [8,9,16] (λv1 v2 c W=>∃k:Nat,c= J I k/\k<=gn/\(∃lx,Hid (lx=(o8 L m at_ k).length)/\Hid (Tw W w.heap.size v1 lx v2 lx (o8 L m at_ k) (hiK L m at_ ht k)))/\Hid (w.grownBy W N)/\Hid (w7.heap.size<=W.heap.size)/\Hid (C0 W w7.heap.size 1 P7 ga gs)/\Hid (∀p,ga=O p->v1.ownBlock≠O p.block/\v2.ownBlock≠O p.block)) (λ_ _ c _=>gn-(ll c).toNat)
    case atStart=>exact⟨0,rfl,na _,⟨ln,HL5.o,HT7.o⟩,HG7.o,lh _,HGR.o,λp e=>⟨λe2=>(HGB.o p e).1 _ e2 rfl,λe2=>(HGB.o p e).2 _ e2 rfl⟩⟩
    case round=>
     obtain⟨x,rfl,hx,⟨lx,HLX,hT⟩,hgw,hsz,hR,hAp⟩:=hrel;obtain⟨b1,l1,rfl⟩:=F7 hT.o.o1;obtain⟨b2,l2,rfl⟩:=F7 hT.o.o2;by_cases hltg:x<gn
     ·have hxl:x<gs.length:=by rw[<-HGN.o];exact hltg
      obtain⟨pg,rfl,hpb,hpc⟩:=hR.o x hxl;have hpb':=HLIM.o pg rfl Oo;obtain⟨ty,hty⟩:=Oe (gs[x])
      have v0:wr.cell? (pg.add x)=O (J I ty):=by have:=hpc 0 _ rfl;rw[Nat.mul_one,Nat.add_zero]at this;rw[hty];exact this
      obtain⟨E1,E2⟩:=HTS.o x hxl;rw[<-hty]at E1;have HE1:=A1 E1;have HE2:=A1 E2
      have hlxb:lx<=300:=by
       have h1:=HLX.o;unfold o8 at h1;rw[ub,nh,nr]at h1;have:=a7B m at_ m.h.length;omega
      obtain⟨X,hX⟩:=Oe (o8 L m at_ x)
      obtain⟨Y,hY⟩:=Oe (hiK L m at_ ht x)
      rw[<-hX]at HE1 HLX;rw[<-hY]at HE2;have HTX:Hid (Tw wr w.heap.size (V b1 lx l1) lx (V b2 lx l2) lx X Y):=by rw[hX,hY];exact hT.o
      have hwz:=hgw.o.size;have hwz2:=hsz.o;clear hpc hpb hty E1 E2 hX hY hT
      go_wp2_with (at_builtin;first
       |(go_loud (refine np _ rfl _ _ 53 rfl w.heap.size 3 inf _ 1 8 underlying53 hi0 hz0 hz1 hz2 rfl Od (V b2 lx l2) lx (Y.flatMap P7) rfl (HT2.o.keep (A2 _ _ _)).o2 (A w2.heap.size 0 N) 1 1 [J I ((ht:Int)-(t:Int)+(u:Int):Int)] rfl rfl (O8 w2 _ _) (by simp[Value.oneCell']) Oo Om Oo Oi _ rfl ?_)
         intro g2 c2 w3 hown hgrow hlie hlt'
         go_loud (
          have HT3:=A1 ((HT2.o.keep (A2 w2 (H [J I ((ht:Int)-(t:Int)+(u:Int))].toArray 3) N)).app2 (x:=ht-t+u) (by unfold P7;rw[HBE.o];exact hown) hgrow hlie);have HG3:=A1 (C6 (A0 HG2.o (A2 w2 (H [J I ((ht:Int)-(t:Int)+(u:Int))].toArray 3) N)) hgrow (λg e=> .inl (K7 HT2.o.o2 e).1));have HR3:=A1 (a7f (HR2.o.keep (A2 w2 (H [J I ((ht:Int)-(t:Int)+(u:Int))].toArray 3) N)) hgrow (λp e=>by cases e;exact(hAp.o pg rfl).2));have HN2:=b2s hlie Oi (hAp.o pg rfl).2;have hs3:w7.heap.size<=w3.heap.size:=by have:=hgrow.size;simp at this;omega
          clear hown hgrow hlie hlt'))
       |(go_loud (refine np _ rfl _ _ 53 rfl w.heap.size 3 inf _ 1 8 underlying53 hi0 hz0 hz1 hz2 rfl Od (V b1 lx l1) lx (X.flatMap P7) rfl (HTX.o.keep (A2 _ _ _)).o1 (A wr.heap.size 0 N) 1 1 [J I (ty:Int)] rfl rfl (O8 wr _ _) (by simp[Value.oneCell']) Oo Om Oo Oi _ rfl ?_)
         intro g1 c1 w2 hown hgrow hlie hlt'
         go_loud (
          have HT2:=A1 ((HTX.o.keep (A2 wr (H [J I (ty:Int)].toArray 3) N)).app1 (x:=ty) hown hgrow hlie);have HG2:=A1 (C6 (A0 hgw.o (A2 wr (H [J I (ty:Int)].toArray 3) N)) hgrow (λg e=> .inl (K7 HTX.o.o1 e).1));have HR2:=A1 (a7f (hR.o.keep (A2 wr (H [J I (ty:Int)].toArray 3) N)) hgrow (λp e=>by cases e;exact(hAp.o pg rfl).1));have HN1:=b2s hlie Oi (hAp.o pg rfl).1;have hs2:=HG2.o.size;have hs2':w7.heap.size<=w2.heap.size:=by have:=hgrow.size;simp at this;omega
          clear hown hgrow hlie hlt')))
      go_roundw
      case rel=>exact⟨x+1,by first|rfl|go_num,by omega,⟨lx+1,by unfold Hid;rw[HE1.o,ub,<-HLX.o];rfl,by unfold Hid;rw[HE1.o,HE2.o];exact HT3.o⟩,HG3.o,hs3,HR3.o,λp e=>by cases e;exact⟨λe2=>HN1 (ly.inj e2),λe2=>HN2 (ly.inj e2)⟩⟩
      case measure=>exact a0s
     ·have HXE:Hid (x=(if N5 L m at_ ht then(E6 (A5 m at_) at_).length else 0)):=by unfold Hid;rw[<-HKK.o];omega
      have hxI:¬(x:Int)<(gn:Int):=by omega
      go_wp2_with fail
      all_goals exact lq (v:= .tuple #[V b1 lx l1, V b2 lx l2]) (by simp[lr,results186,go_sem]) rfl (HEND.o _ _ _ _ _ _ x HXE.o HLX.o hT.o hgw.o)
   ·have HRO:Hid (N5 L m at_ ht=false):=by
     unfold Hid;rw[HRM.o];by_cases r1:t<=ht
     ·rw[decide_eq_false (λr2=>hr ⟨r1,r2⟩),Bool.and_false]
     ·rw[decide_eq_false r1,Bool.false_and]
    have HKK:Hid (0=(if N5 L m at_ ht then(E6 (A5 m at_) at_).length else 0)):=by unfold Hid;rw[HRO.o];rfl
    by_cases r1:t<=ht
    ·have r1I:(t:Int)<=(ht:Int):=by omega
     have r2I:¬(ht:Int)-(t:Int)+(u:Int)<=(m.s:Int):=by omega
     exact c5s
    ·have r1I:¬(t:Int)<=(ht:Int):=by omega
     exact c5s
end
def a1H(L:List Cl)(i:In)(top vars:List Ty)(c:UInt8):Ty:=
 if c=73 then O4 else if c=86 then vars.getD i.a.toNat A8 else if c=49 then top.getD 0 A8 else if c=50 then top.getD 1 A8 else if c=48 then a0X
 else if c=67 then C5 i.c else if c=70 then fdT L i.c i.m else if c=74 then⟨3,D4⟩else if c=82 then⟨4,i.c⟩else N7 (top.getD 0 A8)
theorem b9T:∀d,d<32->∀c∈a0K d,c=73\/c=48\/c=74\/c=82\/c=67\/c=86\/c=49\/c=50\/c=70\/c=69:=by decide
theorem c2P:∀d,d<32->(86∈a0K d->d=2)/\(49∈a0K d->d=5\/d=6)/\(50∈a0K d->d=6)/\(69∈a0K d->d=26):=by decide
section
variable{w:World}{jb lim wb:Nat}{L:List Cl}{p:Addr}{cap:Nat}{q:Nat->Qs}{C:ByteArray}{m:Me}{r:Qj}
theorem b9U(h:X (Jb w jb lim wb L p cap q C m r))(K:Nat)(a:Int)(cls F:ByteArray)(ao:K<32)(ho:K≠19)(B D:List Ty)(sa va:Option lb)(sk vk li:Nat)(hs:X (C0 w li 2 B8 sa B))(hv:X (C0 w li 2 B8 va D))
 (hi:K=2->0<=a/\a.toNat<D.length) (ht:(K=5\/K=6\/K=26->0<B.length)/\(K=6->1<B.length)) (bo:B.length<=65535) (bp:D.length<=65535):
 le prog 202 #[U (O (A jb 0 N)), .agg #[J I K, J I a, Z cls, Z F], .slice sa B.length sk, .slice va D.length vk] w λe w'=>∃b l,e= Y (.slice b (a0K K).length l)/\C0 w' w'.heap.size 2 B8 b ((a0K K).map (a1H L ⟨K,a,cls,F⟩ B D))/\w.grownBy w' N:=by
 have HJ:=A1 (λW (hW:w.grownBy W N)=>h.o.keep hW);have ad:X (w.grownBy (w.alloc (H #[J I K, J I a, Z cls, Z F] 120)) N):=A2 _ _ _;have hb:=A4.new w #[J I K, J I a, Z cls, Z F] 120;have br:((K:Int)==19)=false:=beq_eq_false_iff_ne.2 Oo;obtain⟨cs,ah⟩:=Oe (a0K K)
 have bf:X (∀W',le prog 263 #[J I K] W' λe w'=>e= Y (Z ⟨cs.toArray⟩)/\W'=w'):=by rw[ah];exact λW'=>b1N K W'
 have bc:X (∀c∈cs,c=73\/c=48\/c=74\/c=82\/c=67\/c=86\/c=49\/c=50\/c=70\/c=69):=by rw[ah];exact b9T K ao
 have ac:=c2P K ao;rw[<-ah]at ac⊢
 have am:X ((86∈cs->0<=a/\a.toNat<D.length)/\(49∈cs->0<B.length)/\(50∈cs->1<B.length)/\(69∈cs->0<B.length)):=
  ⟨λe=>hi (ac.1 e),λe=>ht.1 (by rcases ac.2.1 e with e|e<;>omega),λe=>ht.2 (ac.2.2.1 e),λe=>ht.1 (.inr (.inr (ac.2.2.2 e)))⟩
 have bl:cs.length<=2:=by rw[ah];exact b1V K ao
 obtain⟨V,hV⟩:=Oe (cs.map (a1H L ⟨K,a,cls,F⟩ B D))
 have ay:=A1 hV;rw[<-hV];obtain⟨nc,a1⟩:=Oe cs.length
 have av:=A1 a1;rw[<-a1]at bl⊢;obtain⟨b5,bs,b2,b3,b4⟩:=lu a2n;obtain⟨tl,aj⟩:=Oe B.length
 have ax:=A1 aj;obtain⟨vl,ak⟩:=Oe D.length
 have bi:=A1 ak;rw[<-aj]at bo⊢;rw[<-ak]at bp⊢;clear ah hV a1 ac hi ht ho ao aj ak h;go_enter func202,ntmps202;go_upto_region 1 with fail
 generalize w.alloc (H #[J I K, J I a, Z cls, Z F] 120)=W1 at ad hb⊢;have a3:=A1 hb;have b0:=hb.c0;clear hb;have bz:=a3.o.lt;go_wp2_with (go_at_call 263;refine(bf.o _).mono ?_;rintro e w' ⟨rfl,rfl⟩)
 clear b0;go_loopw [12,14] (λo c W=>∃k:Nat,c= J I k/\k<=nc/\X (W.ownsRow W1.heap.size 98 2 o k ((V.take k).flatMap B8))/\X (W1.grownBy W N)) (λ_ c _=>nc-(ll c).toNat)
 case atStart=>exact⟨0,rfl,na _,ny _ _ _ _,C9 _ _⟩
 case round=>
  obtain⟨k,rfl,hk,ab,hg⟩:=hrel;obtain⟨oa,ok,rfl⟩:=F7 ab.o;by_cases hlt:k<nc
  ·have a0:k<cs.length:=by rw[<-av.o];exact hlt
   obtain⟨c,hc⟩:=Oe (cs[k])
   have ag:c∈cs:=by rw[hc];exact nl _
   have bn:k<(⟨cs.toArray⟩:ByteArray).size:=a0;have bv:(⟨cs.toArray⟩:ByteArray)[k]=c:=by rw[hc];rfl
   obtain⟨x,hx⟩:=Oe (a1H L ⟨K,a,cls,F⟩ B D c)
   have HX:=A1 hx
   have bh:X (V.take (k+1)=V.take k++ [x]):=by
    unfold X;have bm:k<V.length:=by rw[ay.o,nh];exact a0
    rw[no bm];congr 2
    simp only[ay.o,List.getElem_map,hx,hc]
   clear hx hc a0;have al:=a3.o.keep hg.o Os;have HC:X (∀W',wr.grownBy W' N->W'.cell? (A jb 0 N)=O (U (O (A wb 0 N)))/\W'.cell? (A w.heap.size 1 N)=O (J I a)/\W'.cell? (A w.heap.size 2 N)=O (Z cls)/\W'.cell? (A w.heap.size 3 N)=O (Z F)):=λW' hW=>⟨(HJ.o _ (A0 (A0 ad.o hg.o) hW)).cs.1,(al.keep hW Os).cell 1 _ rfl,(al.keep hW Os).cell 2 _ rfl,(al.keep hW Os).cell 3 _ rfl⟩
   go_upto_block 2 with fail
   have hb2:=A4.new wr #[J I 0, Z ⟨#[]⟩] 98;have HG2:X (wr.grownBy (wr.alloc (H #[J I 0, Z ⟨#[]⟩] 98)) N):=A2 _ _ _;have hbx:=lh wr.heap.size;generalize wr.alloc (H #[J I 0, Z ⟨#[]⟩] 98)=W2 at hb2 HG2⊢;obtain⟨bx,a'⟩:=Oe wr.heap.size
   rw[<-a']at hb2⊢;replace hbx:wr.heap.size<=bx:=by omega
   clear a' al;go_cut []from 40 to 109 (λW=>A4 W bx #[J I x.k, Z x.n] 98/\wr.grownBy W N)
   case first=>
    obtain⟨j0,i1,i2,i3⟩:=HC.o _ HG2.o;have bu:jb<W2.heap.size:=ui W2 _ j0;have bt:w.heap.size<W2.heap.size:=ui W2 _ i1;have ba:=hb2.lt;obtain⟨r0,r1,z0,z1⟩:=O7 hb2;have bj:=C0.keep (C0.keep hv.o (A0 ad.o hg.o)) HG2.o;have aw:=C0.keep (C0.keep hs.o (A0 ad.o hg.o)) HG2.o
    have ap:∀{pa:Option lb} {xs:List Ty} {li i:Nat},C0 W2 li 2 B8 pa xs->(hi:i<xs.length)->∃M,pa=O M/\W2.cell? (M.add (i*2))=O (J I xs[i].k)/\W2.cell? (A ((M.add (i*2)).block) ((M.add (i*2)).off+1) N)=O (Z xs[i].n):=λhr hi=>by
     obtain⟨M,e,-,h2⟩:=hr _ hi;exact⟨M,e,h2 0 _ rfl,by rw[C2 M _ 0];exact h2 1 _ rfl⟩
    rcases bc.o c ag with rfl|rfl|rfl|rfl|rfl|rfl|rfl|rfl|rfl|rfl
    ·have e:x=O4:=HX.o;exact c6j
    ·have e:x=a0X:=HX.o;exact c6j
    ·have e:x=⟨3,D4⟩:=HX.o;exact c6j
    ·have e:=HX.o;simp[a1H]at e;subst e;go_wp2_with fail
     go_meet
     exact⟨(hb2.set 0 _).set 1 _,a0l HG2.o hbx⟩
    ·have e:=HX.o;simp[a1H]at e;subst e;go_wp2_with (go_at_call 131;refine(a2N _ _).mono ?_;rintro e w5 ⟨rfl,T⟩;have E:=hb2.keep T Os;have ae:=G7 E;have ar:=G7 (A0 HG2.o T);replace ba:=E.lt;obtain⟨r0,r1,z0,z1⟩:=O7 E)
     go_meet
     exact⟨(ae.o.set 0 _).set 1 _,a0l ar.o hbx⟩
    ·obtain⟨bk,d⟩:=am.o.1 ag;obtain⟨an,rfl⟩:∃an:Nat,a=an:=⟨a.toNat,by omega⟩
     rw[Int.toNat_natCast]at d;have e:x=D[an]:=by rw[HX.o];simp[a1H,lk,lp d]
     obtain⟨M,rfl,v0,v1⟩:=ap bj d;have a2:an<vl:=by rw[bi.o];exact d
     rw[<-e]at v0 v1;clear e bk d;go_wp2_with fail
     go_meet
     exact⟨(hb2.set 0 _).set 1 _,a0l HG2.o hbx⟩
    ·have d:=am.o.2.1 ag;have e:x=B[0]:=by rw[HX.o];simp[a1H,lk,lp d]
     obtain⟨M,rfl,v0,v1⟩:=ap aw d;have a2:0<tl:=by rw[ax.o];exact d
     rw[<-e]at v0 v1;replace v0:W2.cell? M=O (J I x.k):=v0
     replace v1:W2.cell? (A M.block (M.off+1) N)=O (Z x.n):=v1
     clear e d;go_wp2_with fail
     go_meet
     exact⟨(hb2.set 0 _).set 1 _,a0l HG2.o hbx⟩
    ·have d:=am.o.2.2.1 ag;have e:x=B[1]:=by rw[HX.o];simp[a1H,lk,lp d]
     obtain⟨M,rfl,v0,v1⟩:=ap aw d;have a2:1<tl:=by rw[ax.o];exact d
     rw[<-e]at v0 v1;replace v1:W2.cell? (A M.block (M.off+2+1) N)=O (Z x.n):=v1
     replace v0:W2.cell? (M.add 2)=O (J I x.k):=v0
     have v2:W2.cell? (A M.block (M.off+2) N)=O (J I x.k):=v0;clear e d;go_wp2_with fail
     go_meet
     exact⟨(hb2.set 0 _).set 1 _,a0l HG2.o hbx⟩
    ·have HF:X (∀W,wr.grownBy W N->le prog 262 #[U (O (A wb 0 N)), Z cls, Z F] W λe w'=>e= Y (.tuple #[J I (fdI L cls F),M7 x])/\W.grownBy w' N):=by
      have e:=HX.o;simp[a1H]at e;rw[e];exact λW hW=>by have hj:=HJ.o W (A0 (A0 ad.o hg.o) hW);exact a8n W lim wb L p cap q hj.rw_.wo hj.rw_.pf hj.rw_.few cls F
     go_upto_region 26 with fail
     refine T6 HC HG2.o (λaf=> ?_);refine A3 0 ?_;refine A3 1 ?_;refine A3 2 ?_;refine A3 3 ?_;refine A3 4 ?_;refine A3 5 ?_;refine A3 6 ?_;refine A3 7 ?_;refine F3 8 λK' hK=> ?_
     go_simp
     go_wp2_with (go_at_call 262;refine(HF.o _ (A0 HG2.o (A7 _ N))).mono ?_;rintro e w5 ⟨rfl,T⟩;dsimp only[M7])
     have az:=A0 (A7 _ N) T;refine hK.o _ _ (HC.o _ (A0 HG2.o az)) (λaf=> ?_);clear hK;refine A3 9 ?_;refine A3 10 ?_;refine A3 11 ?_;have E:=hb2.keep az Os;have ae:=G7 E;have bq:=E.lt;obtain⟨r0,r1,z0,z1⟩:=O7 E;refine F3 12 λK' hK=> ?_
     go_simp
     have aa:=a0l (A0 HG2.o az) hbx (i:=0) (j:=1) (x:= J I x.k) (y:= Z x.n);refine hK.o _ _ (HC.o _ aa) (λaf=> ?_);clear hK;refine lv Ok0 ?_ _;go_wp2_with fail
     go_meet
     exact⟨(ae.o.set 0 _).set 1 _,aa⟩
    ·have d:=am.o.2.2.2 ag;have e:x=N7 B[0]:=by rw[HX.o];simp[a1H,lk,lp d]
     obtain⟨M,rfl,v0,v1⟩:=ap aw d;have a2:0<tl:=by rw[ax.o];exact d
     have a4:X (∀W,le prog 264 #[.agg #[J I B[0].k, Z B[0].n]] W λe w'=>e= Y (.agg #[J I x.k, Z x.n])/\W.grownBy w' N):=by rw[e];exact λW=>b1U W _
     clear e;generalize B[0]=y at v0 v1 a4;replace v0:W2.cell? M=O (J I y.k):=v0
     replace v1:W2.cell? (A M.block (M.off+1) N)=O (Z y.n):=v1
     go_wp2_with (go_at_call 264;refine(a4.o _).mono ?_;rintro e w5 ⟨rfl,T⟩;have E:=hb2.keep T Os;have ae:=G7 E;have ar:=G7 (A0 HG2.o T);replace ba:=E.lt;obtain⟨r0,r1,z0,z1⟩:=O7 E)
     go_meet
     exact⟨(ae.o.set 0 _).set 1 _,a0l ar.o hbx⟩
   obtain⟨a7,aa⟩:=hcut;obtain⟨t0,t1⟩:=a7.q2;have bb:=A1 aa;have b1:=lf hg.o.size aa.size;have bd:=A1 (a1P ab.o aa);clear a7 aa hb2;go_wp2_with (at_builtin;go_loud (refine a5z rfl _ _ rfl W1.heap.size oa k ok (V.take k) rfl (a1P bd.o (A2 wc (H #[J I x.k, Z x.n] 98) N)) (O (A wc.heap.size 0 N)) 1 1 _ [x] rfl rfl (b4a (A4.new wc #[J I x.k, Z x.n] 98)) Oo Oi ?_;intro a6 k6 w6 aq ai _;have be:=G7 aq;have au:=G7 (C6 (A0 (A0 hg.o bb.o) (A2 wc (H #[J I x.k, Z x.n] 98) N)) ai (λg e=> .inl (K7 ab.o e).1));clear aq ai))
   go_roundw
   case rel=>exact⟨k+1,by first|rfl|go_num,by omega,by unfold X;rw[bh.o];exact be.o,au.o⟩
   case measure=>exact a0s
  ·have a5:X (k=nc):=by unfold X;omega
   have bn:¬k<(⟨cs.toArray⟩:ByteArray).size:=by
    show¬k<cs.length;rw[<-av.o];exact hlt
   have bg:X (C0 wr wr.heap.size 2 B8 oa V):=by
    have h1:=ab.o;have h2:V.length=k:=by rw[ay.o,nh,a5.o,av.o]
    rw[nw Oo]at h1;exact V7 (λ_=>rfl) (by rw[h2];exact h1)
   have au:=A1 (A0 ad.o hg.o);go_wp2_with fail
   all_goals exact lq (v:= .slice oa k ok) (by simp[lr,results202,go_sem]) rfl ⟨oa,ok,by rw[a5.o],bg.o,au.o⟩
end
section
variable{w:World}{jb lim wb:Nat}{L:List Cl}{p:Addr}{cap:Nat}{q:Nat->Qs}{C:ByteArray}{m:Me}{r:Qj}
theorem b9V(h:X (Jb w jb lim wb L p cap q C m r))(a:Int)(cls d:ByteArray)(sa va:Option lb)(sk vk nt nv:Nat):
 le prog 202 #[.pointer (O (A jb 0 N)), .agg #[.int I (19:Nat), .int I a, Z cls, Z d], V sa nt sk, V va nv vk] w λe w'=>∃b l,e= Y (V b (Z2 (X4 L cls d).r).length l)/\C0 w' w'.heap.size 2 B8 b (Z2 (X4 L cls d).r)/\w.grownBy w' N:=by
 have B:=A1 (λW' hW=>a7e W' lim wb L p cap q (h.o.keep hW).rw_ cls d);obtain⟨n,hn⟩:=Oe ((X4 L cls d).p.length)
 obtain⟨P,hP⟩:=Oe ((X4 L cls d).p)
 obtain⟨T,hT⟩:=Oe ((X4 L cls d).r)
 rw[<-hn,<-hP,<-hT]at B;rw[<-hT];obtain⟨U,hU⟩:=Oe (Z2 T)
 have HU:X (U=if T.k=0 then []else [T]):=hU;rw[<-hU];obtain⟨j0,-⟩:=h.o.cs;have y:X (w.grownBy (w.alloc (H #[.int I (19:Nat), .int I a, Z cls, Z d] 120)) N):=A2 _ _ _;have hb:=A4.new w #[.int I (19:Nat), .int I a, Z cls, Z d] 120;have HS:X (∀w',(w.alloc (H #[.int I (19:Nat), .int I a, Z cls, Z d] 120)).grownBy w' N->w'.cell? (A jb 0 N)=O (.pointer (O (A wb 0 N)))/\w'.cell? (A w.heap.size 2 N)=O (Z cls)/\w'.cell? (A w.heap.size 3 N)=O (Z d)):=λw' hw=>⟨hw.cell (y.o.cell j0 Os) Os,hw.cell (hb.cell 2 _ rfl) Os,hw.cell (hb.cell 3 _ rfl) Os⟩
 clear hn hP hT hU h;go_enter func202,ntmps202;go_upto_region 1 with fail
 generalize w.alloc (H #[.int I (19:Nat), .int I a, Z cls, Z d] 120)=W1 at y HS hb⊢;have b0:=hb.c0;clear hb;obtain⟨J,hJ⟩:∃J:Act->la->Prop,J=λa' W'=>∃pa pn pk g,W'.cell? (A g 0 N)=O (.int I T.k)/\W'.cell? (A g 1 N)=O (Z T.n)/\W1.grownBy W' N/\∃t:Nat->ld,a'={tmps:= #[.pointer (O (A jb 0 N)), .agg #[.int I (19:Nat), .int I a, Z cls, Z d], V sa nt sk, V va nv vk,undef, .pointer (O (A w.heap.size 0 N)),undef,undef, V N 0 0, V pa pn pk, .pointer (O (A g 0 N)),t 11,t 12,t 13,t 14,t 15,t 16,t 17,t 18,t 19,t 20,t 21,t 22,t 23,t 24,t 25,t 26,t 27,t 28,t 29,t 30,t 31,t 32,t 33,t 34,t 35,t 36,t 37,t 38,t 39,t 40,t 41,t 42,t 43,t 44,t 45,t 46,t 47,t 48,t 49,t 50,t 51,t 52,t 53,t 54,t 55,t 56,t 57,t 58,t 59,t 60,t 61,t 62,t 63,t 64,t 65,t 66,t 67,t 68,t 69,t 70,t 71,t 72,t 73,t 74,t 75,t 76,t 77,t 78,t 79,t 80,t 81,t 82,t 83,t 84,t 85,t 86,t 87,t 88,t 89,t 90,t 91,t 92,t 93,t 94,t 95,t 96,t 97,t 98,t 99,t 100,t 101,t 102,t 103,t 104,t 105,t 106,t 107,t 108,t 109,t 110],defers:=[]}:=⟨_,rfl⟩
 have HJJ:=A1 hJ;clear hJ;go_upto_region 2 with fail
 clear b0 j0;refine a5B J ?_ ?_
 ·refine T6 HS (C9 _ _) (λhHeld=> ?_);refine A3 0 ?_;refine A3 1 ?_;refine A3 2 ?_;refine A3 3 ?_;refine A3 4 ?_;refine A3 5 ?_;refine A3 6 ?_;refine A3 7 ?_;refine wpAnyH_ready (rs:=[8,13]) Ok0 Os ?_;refine AllReadyH.cons rfl (λK' hK=> ?_) (AllReadyH.cons rfl (λK' hK=> ?_) AllReadyH.nil)
  ·go_simp
   go_wp2_with (go_at_call 188;refine(B.o _ (A0 y.o (A7 W1 N))).mono ?_;rintro e w6 ⟨pa,pk,rfl,-,D⟩;try dsimp only[M7])
   have F:=A0 (A7 W1 N) D;refine hK.o _ _ (HS.o _ F) (λhHeld=> ?_);clear hK;refine A3 9 ?_;refine A3 10 ?_;refine A3 11 ?_;refine A3 12 ?_;refine F3 13 λK' hK=> ?_
   go_simp
   have hb7:=A4.new w6 #[.int I 0, Z ⟨#[]⟩] 98;have i:=A0 F (A2 w6 (H #[.int I 0, Z ⟨#[]⟩] 98) N);have E:=F.size;refine hK.o _ _ (HS.o _ i) (λhHeld=> ?_);clear hK;try simp only[lg,lz]
   generalize w6.alloc (H #[.int I 0, Z ⟨#[]⟩] 98)=W7 at hb7 i hHeld⊢;generalize w6.heap.size=g at hb7 E⊢;obtain⟨r0,r1,z0,z1⟩:=O7 hb7;refine A3 14 ?_;refine F3 15 λK' hK=> ?_
   go_simp
   have hg8:=C6 i (A0 (A6 W7 (A g 0 N) (.int I T.k)) (A6 _ (A g 1 N) (Z T.n))) (λk e=>by cases e;exact .inl E);exact a4o
  ·go_simp
   refine hK.o _ _ (HS.o _ (A0 (A2 W1 (H #[.int I 0, Z ⟨#[]⟩] 98) N) (A7 _ N))) (λhHeld=> ?_);clear hK;try simp only[lg,lz]
   refine F3 8 λK' hK=> ?_
   go_simp
   go_wp2_with (go_at_call 188;refine(B.o _ (A0 y.o (A0 (A2 W1 (H #[.int I 0, Z ⟨#[]⟩] 98) N) (A7 _ N)))).mono ?_;rintro e W7 ⟨pa,pk,rfl,-,D⟩;try dsimp only[M7])
   have hb7:A4 W7 W1.heap.size #[.int I 0, Z ⟨#[]⟩] 98:=A4.keep (A4.new W1.drew #[.int I 0, Z ⟨#[]⟩] 98) D Os;have i:=A0 (A0 (A2 W1 (H #[.int I 0, Z ⟨#[]⟩] 98) N) (A7 _ N)) D;have E:=lh W1.heap.size;refine hK.o _ _ (HS.o _ i) (λhHeld=> ?_);clear hK;obtain⟨r0,r1,z0,z1⟩:=O7 hb7;refine A3 9 ?_;refine A3 10 ?_;refine A3 11 ?_;refine A3 12 ?_;refine A3 14 ?_;refine F3 15 λK' hK=> ?_
   go_simp
   have hg8:=C6 i (A0 (A6 W7 (A W1.heap.size 0 N) (.int I T.k)) (A6 _ (A W1.heap.size 1 N) (Z T.n))) (λk e=>by cases e;exact .inl E);exact a4o
 intro a' W hJ;rw[HJJ.o]at hJ;obtain⟨pa,pn,pk,g,g0,g1,hg,t,rfl⟩:=hJ;clear HJJ B HS;have M:=A1 (A0 y.o hg);by_cases hk:T.k=0
 ·have d0:((T.k:Int)==0)=true:=by rw[hk];rfl
  have K:X (U=[]):=by unfold X;rw[HU.o,if_pos hk]
  clear hk HU;go_wp2_with fail
  all_goals exact lq (v:= V N 0 0) (by simp[lr,results202,go_sem]) rfl ⟨N,0,by rw[K.o];rfl,a7z K.o,M.o⟩
 ·have d0:((T.k:Int)==0)=false:=beq_eq_false_iff_ne.2 Oo;have K:X (U=[T]):=by unfold X;rw[HU.o,if_neg hk]
  clear hk HU;have hB:=A4.new W #[.int I T.k, Z T.n] 98
  have hR:C0 (W.alloc (H #[.int I T.k, Z T.n] 98)) (W.alloc (H #[.int I T.k, Z T.n] 98)).heap.size 2 B8 (O (A W.heap.size 0 N)) U:=by
   rw[K.o];intro j hj;have:j=0:=by simp at hj;exact hj
   subst this
   exact⟨_,rfl,hB.lt,λr u hu=>by
    rcases r with _|_|r
    ·exact hB.cell 0 u (by simpa[B8]using hu)
    ·exact hB.cell 1 u (by simpa[B8]using hu)
    ·simp[B8]at hu⟩
  have HR:=A1 hR;clear hR hB;go_wp2_with fail
  exact lq (v:= V (O (A W.heap.size 0 N)) 1 1) (by simp[lr,results202,go_sem]) rfl ⟨_,1,by rw[K.o];rfl,HR.o,A0 M.o (A2 _ _ _)⟩
end
variable {L:List Cl}
theorem c1C(T:C1 L)(M:a4L L)(i:In)(y:i.o<32)(B:i.o≠19)(d st:List Ty)(n:Nat)(hi:i.o=2->i.a.toNat<d.length):(a0K i.o).map (a1H L i (st.drop n) d)=U8 L i (d++st) (d.length+n):=by
 have D:(d++st).getD (d.length+n) A8=(st.drop n).getD 0 A8:=by simp[lk,uj (show d.length<=d.length+n by omega)]
 have E:(d++st).getD (d.length+n+1) A8=(st.drop n).getD 1 A8:=by rw[Nat.add_assoc];simp[lk,uj (show d.length<=d.length+(n+1)by omega)]
 have F:i.o=2->(d++st).getD i.a.toNat A8=d.getD i.a.toNat A8:=λe=>by simp[lk,List.getElem?_append_left (hi e)]
 have K:=(a9R T M i).symm;unfold U8;rw[D,E];by_cases h2:i.o=2
 ·rw[if_pos h2,F h2];unfold a0K;simp[h2,a1H]
 rw[if_neg h2];unfold C7;rw[K];obtain⟨op,a,cls,aa⟩:=i;dsimp only at y B h2⊢;rcases a9N y with rfl|rfl|rfl|rfl|rfl|rfl|rfl|rfl|rfl|rfl|rfl|rfl|rfl|rfl|rfl|rfl|rfl|rfl|rfl|rfl|rfl|rfl|rfl|rfl|rfl|rfl|rfl|rfl|rfl|rfl|rfl|rfl
 all_goals first|exact absurd rfl B|exact absurd rfl h2|simp[a0K,a1H]
theorem b9N{w:la}{jb lim wb:Nat}{p:lb}{cap:Nat}{q:Nat->Qs}{C:ByteArray}{m:Me}{r:Qj}(h:X (Jb w jb lim wb L p cap q C m r))(i:In)(y:i.o<32)(d st:List Ty)(n:Nat)(D E:Option lb)(sk vk K:Nat)(hs:X (C0 w K 2 B8 D (st.drop n)))(hv:X (C0 w K 2 B8 E d))
 (hi:i.o=2->0<=i.a/\i.a.toNat<d.length) (ht:st.length=n+D7 L m i) (aa:st.length<=65535) (F:d.length<=65535):
 le prog 202 #[U (O (A jb 0 N)),inV i, V D (st.drop n).length sk, V E d.length vk] w λe w'=>∃b l,e= Y (V b (U8 L i (d++st) (d.length+n)).length l)/\C0 w' w'.heap.size 2 B8 b (U8 L i (d++st) (d.length+n))/\w.grownBy w' N:=by
 by_cases ho:i.o=19
 ·have e:U8 L i (d++st) (d.length+n)=Z2 (X4 L i.c i.m).r:=by
   unfold U8 C7;rw[a4x];simp[ho]
  rw[e];obtain⟨M,a,cls,B⟩:=i;dsimp only at ho;subst ho;exact b9V h a cls B D E sk vk _ _
 ·have T:D7 L m i=(E5 L m i).length:=rfl;rw[<-c1C h.o.rw_.wld h.o.rw_.mems i y ho d st n (λe=>(hi e).2),nh];obtain⟨M,a,cls,B⟩:=i;dsimp only at ho y hi;refine b9U h M a cls B y ho (st.drop n) d D E sk vk K hs hv hi ?_ Oi F;rw[List.length_drop,ht,Nat.add_sub_cancel_left,T];exact⟨λe=>by rcases e with rfl|rfl|rfl<;>simp[E5],λe=>by subst e;simp[E5]⟩
end Kx
end
end Go.Proofs.YtdhophglnhcjbaaGreatDoor
