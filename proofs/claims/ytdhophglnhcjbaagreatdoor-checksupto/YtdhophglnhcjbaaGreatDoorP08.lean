/- P08: a part of the proof that the last text tells. -/
import Derived.Test.YtdhophglnhcjbaaGreatDoorP07
import Derived.Deep.LoopGhost
import Derived.WalkMore
import Derived.Lib.Mul64
import Derived.Laws.Bits64b
import Derived.Shelf.Bits.Mul64
import Derived.Laws.CopyOwn
set_option linter.all false
set_option maxRecDepth 100000
set_option maxHeartbeats 40000000
open Go.Proofs.Tryz
open Go renaming Addr->lb,World->ld,Calls->lf,Value->lg,bodyPost_ret->lj,results->ll,maxLen->lm,undef->ln,TypeId->lo,wp_region_held_drew->lq,wpAnyH_done->lr,splice->na
open Nat renaming le_trans->le,le_refl->lp,zero_le->lu,le_succ->lx,eq_zero_or_pos->nd,min->nj,add_zero->nk,not_lt_zero->nq,lt_of_lt_of_le->nv,le_of_ble_eq_true->nx,succ_mul->uf
open Go.Act renaming put->lh
open Option renaming some->li
open List renaming getD_eq_getElem?_getD->lv,replicate->lw,mem_map->ly,mem_filter->nf,flatMap_append->ng,length_set->nh,getElem?_replicate->ni,length_cons->nm,getD_cons_zero->nn,getElem_mem->np,take_of_length_le->nr,map_cons->ns,length_nil->nt,mem_append->nu,length_map->ny,getElem?_map->nz,getElem?_eq_none->ub,sum_cons->uc,length_append->ud,mem_append_left->ue,getElem?_append_right->ug,getElem_of_mem->uh,take_append_of_le_length->ui
open Bool renaming true_and->no
open Go.World renaming size_alloc->nw
open Option renaming none→N,some→O
open Go.IntKind renaming i64→I
open Go.Value renaming int→J,string→Z,slice→V,pointer→U,bool→G
open Go.Ending renaming returned→Y
open Go.RowKit renaming Hid→X
open Go.Obj renaming cells→H
open Go.Addr renaming mk→A
namespace Go.Proofs.YtdhophglnhcjbaaGreatDoor
theorem _root_.Go.Aside.o{p:Prop}(h:Go.Aside p):p:=h
section
theorem c8i{P:Prop}(h:P:=by
 simpa[Addr.add_lit]using this):P:=h
theorem a1a{P:Prop}(h:P:=by
 have I1:=(HIb.o _ HGW.o).c1;have I2:=(HIb.o _ HGW.o).c2;have I3:=(HIb.o _ HGW.o).c3;have htz:tn=0:=by omega
 subst htz;have hTn:=List.eq_nil_of_length_eq_zero HTN.o.symm
 have hA:Hid (ans=V5 L i []):=by
  unfold Hid;rw[HA.o,hTn];have:(xs.map ty).drop s=[]:=List.eq_nil_of_length_eq_zero (by rw[List.length_drop,List.length_map,<-HSN.o];omega);rw[this];rfl
 go_wp2_with fail
 go_loopw [16,56] (λtv c wr=>tv= .slice none 0 0/\c= .int .i64 0/\wr=w2) (λ_ _ _=>0)
 case atStart=>exact⟨rfl,rfl,rfl⟩
 case round=>
  obtain⟨rfl,rfl,hwr⟩:=hrel;subst hwr;go_wp2_with (go_at_call 296;refine(HF.o _ [] none 0 HW2.o (.inl ⟨rfl,rfl⟩) (Nat.zero_le _) (λt ht=>by cases ht) (λe=>absurd (HL3.o e) (Nat.lt_irrefl 0)) (λe=>absurd (HL27.o e) (Nat.not_lt_zero 2))).mono ?_;rintro e w8 ⟨rfl,hg8⟩)
  all_goals exact bodyPost_ret (v:= .bool (V5 L i [])) (by simp[results,results252,go_sem]) rfl ⟨by rw[hA.o],A0 HW2.o hg8⟩):P:=h
theorem a1r{P:Prop}(h:P:=by
 rw[if_pos c];exact Nat.le_of_ble_eq_true rfl):P:=h
theorem b0f{P:Prop}(h:P:=by
 induction r generalizing h with
 |nil=>simp at hh
 |cons x r ih=>
  cases h with
  |zero=>
   have:x=false:=by simpa using hf
   subst this;simp
  |succ h=>
   have h1:=ih h (by simpa using hh) (by simpa using hf);rw[List.set_cons_succ,List.countP_cons,List.countP_cons];omega):P:=h
theorem c5k{P:Prop}(h:P:=by
 rw[List.flatMap_cons,List.length_append,ih,List.length_cons];simp only[U4,List.length_cons,List.length_nil];omega):P:=h
theorem c5m{P:Prop}(h:P:=by
 have:=hown.kept hs (.inr (N4 hown hb7 Od));simp only[List.length_append,List.length_cons,List.length_nil,Nat.zero_add,List.flatMap_append,List.flatMap_cons,List.flatMap_nil,List.append_nil];exact this):P:=h
theorem c6h{P:Prop}(h:P:=by
 exact⟨(A6 _ ⟨wg,p.1,none⟩ _).cell Q0 (λe=>nB3 (Option.some.inj e)),(A6 _ ⟨wg,p.1,none⟩ _).cell Q1 (λe=>nb (Option.some.inj e))⟩):P:=h
theorem c6t{P:Prop}(h:P:=by
 exact⟨hg3.cell Q8 B9,hg3.cell Q4 B9,hg3.cell Q30 B9,hg3.cell Q31 B9,hg3.cell QE0 B9,hg3.cell QE1 B9,hg3.cell QE2 B9⟩):P:=h
theorem c7c{P:Prop}(h:P:=by
 rcases List.mem_append.1 hp with hp|hp
 ·exact a4A h1 h2 (hs.work p hp)
 ·rw[List.mem_singleton.1 hp,hq];simp):P:=h
theorem c7h{P:Prop}(h:P:=by
 rcases hwork.2 with⟨e1,-⟩|⟨q',cap,cur,e1,-,-,-,h6,-⟩
 ·cases e1
 ·injection e1 with _ _ e3;omega):P:=h
theorem c7m{P:Prop}(h:P:=by
 subst e;rw[if_pos ⟨rfl,by omega⟩];have:=hr.set k (.bool true);rw[a3V]at this;exact this):P:=h
theorem c7s{P:Prop}(h:P:=by
 simp only[List.length_append,List.length_cons,List.length_nil,Nat.zero_add];exact this):P:=h
theorem c7u{P:Prop}(h:P:=by
 exact⟨hg5.cell Q0 B9,hg5.cell Q1 B9,hg5.cell Q2 B9,hg5.cell Q3 B9,hg5.cell Q4 B9⟩):P:=h
theorem c7x{P:Prop}(h:P:=by
 rw[hq]at hk;split at hk
 ·rename_i e;rw[<-e.1,<-e.2];exact hr
 ·exact hs.snd b k hk):P:=h
end
section
open Go.RowKit Go.Shelf Cf
namespace Kx
variable {w:World}
theorem b9o{g b o:Nat}{j q v:lg}(h:w.cell? (A b o N)=O v)(d:b≠g):((w.setCell (A g 0 N) j).setCell (A g 1 N) q).cell? (A b o N)=O v:=
 (A6 _ (A g 1 N) q).cell ((A6 w (A g 0 N) j).cell h (λe=>d (li.inj e))) (λe=>d (li.inj e))
theorem c2V(w:ld)(b:Nat)(n:ByteArray):
 lf prog 332 #[U (O (A b 0 N)), .agg #[J I 3, Z n]] w λe w'=>e= Y (.agg #[J I 2, Z D5])/\w.grownBy w' N:=by
 have B:X (w.grownBy ((w.alloc (H #[J I 3, Z n] 98)).alloc (H #[J I 0, Z ⟨#[]⟩] 98)) N):=A0 (A2 _ _ _) (A2 _ _ _)
 have D:X (A4 ((w.alloc (H #[J I 3, Z n] 98)).alloc (H #[J I 0, Z ⟨#[]⟩] 98)) (w.heap.size+1) #[J I 0, Z ⟨#[]⟩] 98):=by
  have:=A4.new (w.alloc (H #[J I 3, Z n] 98)) #[J I 0, Z ⟨#[]⟩] 98;exact a2f
 go_enter func332,ntmps332;go_wp2_with (go_at_call 267;refine(y9 _ _).mono ?_)
 rintro e C ⟨rfl,q⟩;have d:=D.o.keep q B9;obtain⟨F,M⟩:=d.q2;obtain⟨S,T⟩:=d.z2;go_wp2_with fail
 all_goals
  have j:=(d.set 0 (J I 2)).set 1 (Z ⟨#[79,98,106,101,99,116]⟩);have y:=C6 (A0 B.o q) (A0 (A6 C (A (w.heap.size+1) 0 N) (J I 2)) (A6 _ (A (w.heap.size+1) 1 N) (Z ⟨#[79,98,106,101,99,116]⟩))) (λk e=>by cases e;exact .inl (lx _));generalize (C.setCell (A (w.heap.size+1) 0 N) (J I 2)).setCell (A (w.heap.size+1) 1 N) (Z ⟨#[79,98,106,101,99,116]⟩)=W6 at j y⊢;have q0:=j.c0;have E:=j.c1;exact lj (v:= .agg #[(J I 2),(Z ⟨#[79,98,106,101,99,116]⟩)]) (by simp[ll,results332,go_sem,q0,E]) rfl ⟨rfl,y⟩
theorem c2U(w:ld)(b:Nat)(n:ByteArray):
 lf prog 332 #[U (O (A b 0 N)), .agg #[J I 4, Z n]] w λe w'=>e= Y (.agg #[J I 2, Z D5])/\w.grownBy w' N:=by
 have B:X (w.grownBy ((w.alloc (H #[J I 4, Z n] 98)).alloc (H #[J I 0, Z ⟨#[]⟩] 98)) N):=A0 (A2 _ _ _) (A2 _ _ _)
 have D:X (A4 ((w.alloc (H #[J I 4, Z n] 98)).alloc (H #[J I 0, Z ⟨#[]⟩] 98)) (w.heap.size+1) #[J I 0, Z ⟨#[]⟩] 98):=by
  have:=A4.new (w.alloc (H #[J I 4, Z n] 98)) #[J I 0, Z ⟨#[]⟩] 98;exact a2f
 go_enter func332,ntmps332;go_wp2_with (go_at_call 267;refine(y9 _ _).mono ?_)
 rintro e C ⟨rfl,q⟩;have d:=D.o.keep q B9;obtain⟨F,M⟩:=d.q2;obtain⟨S,T⟩:=d.z2;go_wp2_with fail
 all_goals
  have j:=(d.set 0 (J I 2)).set 1 (Z ⟨#[79,98,106,101,99,116]⟩);have y:=C6 (A0 B.o q) (A0 (A6 C (A (w.heap.size+1) 0 N) (J I 2)) (A6 _ (A (w.heap.size+1) 1 N) (Z ⟨#[79,98,106,101,99,116]⟩))) (λk e=>by cases e;exact .inl (lx _));generalize (C.setCell (A (w.heap.size+1) 0 N) (J I 2)).setCell (A (w.heap.size+1) 1 N) (Z ⟨#[79,98,106,101,99,116]⟩)=W6 at j y⊢;have q0:=j.c0;have E:=j.c1;exact lj (v:= .agg #[(J I 2),(Z ⟨#[79,98,106,101,99,116]⟩)]) (by simp[ll,results332,go_sem,q0,E]) rfl ⟨rfl,y⟩
theorem c0h(w:ld)(lim b:Nat)(L:List Cl)(p:lb)(cap m1 m2 m3:Nat)(q:Nat->Qs)(h:X (Lk w lim b L p cap m1 m2 m3 q))(hl:lim<=w.heap.size)(n:ByteArray)(hc:n.size<=lm)(hn:n≠D5)(i:Nat)(hf:C8 L n=O i):
 lf prog 332 #[U (O (A b 0 N)), .agg #[J I 2, Z n]] w λe w'=>e= Y (.agg #[J I 2, Z (a0y L n)])/\w.grownBy w' N:=by
 have y:X (w.grownBy ((w.alloc (H #[J I 2, Z n] 98)).alloc (H #[J I 0, Z ⟨#[]⟩] 98)) N):=A0 (A2 _ _ _) (A2 _ _ _)
 have HB:X (A4 ((w.alloc (H #[J I 2, Z n] 98)).alloc (H #[J I 0, Z ⟨#[]⟩] 98)) (w.heap.size+1) #[J I 0, Z ⟨#[]⟩] 98):=by
  have:=A4.new (w.alloc (H #[J I 2, Z n] 98)) #[J I 0, Z ⟨#[]⟩] 98;exact a2f
 obtain⟨D,F⟩:=Oe ((cl L i).s)
 have aa:=M8 hf;have ad:=aa.1;have af:L.length<=65536:=by have:=h.o.kls.small;omega
 have ae:(n.toList==[79,98,106,101,99,116])=false:=by rw[<-a7h];exact l6 hn
 have HS:X (∀W,w.grownBy W N->W.cell? (A b 0 N)=O (V (O p) L.length cap)/\W.cell? (A b 1 N)=O (.map (O m1))/\W.cell? (A ((p.add (i*4)).block) ((p.add (i*4)).off+1) N)=O (Z D)/\(Instr.lookup 148 (.map (O m1)) (Z n) false).run prog W= .ok (J I (i:Int)) W):=λW hW=>by
  have HK:=(h.o.keep hW hl).kls;refine⟨HK.c0,HK.c1,?_,?_⟩
  ·rw[C2 p (i*4) 0,F];exact HK.row i ad 1 _ rfl
  ·have:=a8B HK.n1 n hc;rw[hf]at this;exact this
 have HQ:X (∀W,((w.alloc (H #[J I 2, Z n] 98)).alloc (H #[J I 0, Z ⟨#[]⟩] 98)).drew.grownBy W N->W.cell? (A w.heap.size 1 N)=O (Z n)):=λW hW=>hW.cell (((A4.new w #[J I 2, Z n] 98).keep (A2 _ _ N) B9).cell 1 _ rfl) B9
 have ab:X (D=a0y L n):=by unfold X a0y;rw[hf,F];rfl
 clear F aa h hf;rw[<-ab.o];go_enter func332,ntmps332;go_upto_region 4 with fail
 refine lq (S:=(λw'=>w'.cell? (A b 0 N)=O (V (O p) L.length cap)/\w'.cell? (A b 1 N)=O (.map (O m1))/\w'.cell? (A w.heap.size 1 N)=O (Z n)/\w'.cell? (A ((p.add (i*4)).block) ((p.add (i*4)).off+1) N)=O (Z D)/\(Instr.lookup 148 (.map (O m1)) (Z n) false).run prog w'= .ok (J I (i:Int)) w')) Ok0 ?hS0 (λj=> ?rest0)
 case hS0=>
  have h1:=HS.o _ (A0 y.o (A7 _ _));exact⟨h1.1,h1.2.1,HQ.o _ (C9 _ _),h1.2.2.1,h1.2.2.2⟩
 refine A3 0 ?_;refine A3 1 ?_;refine A3 2 ?_;refine A3 3 ?_;refine A3 4 ?_;refine A3 5 ?_;refine A3 6 ?_;refine A3 7 ?_;refine A3 8 ?_;refine A3 9 ?_;refine A3 10 ?_;refine A3 11 ?_;refine A3 12 ?_;refine A3 13 ?_;refine F3 14 λK M=> ?_;go_simp
 go_wp2_with (go_at_call 267;refine(y9 _ _).mono ?_;rintro e w1 ⟨rfl,d⟩;have B:=HS.o _ (A0 (A0 y.o (A7 _ _)) d);have C:=HB.o.keep (A0 (A7 _ N) d) B9;obtain⟨r0,r1⟩:=C.q2;obtain⟨z0,z1⟩:=C.z2)
 refine M.o _ _ ?_ (λj=> ?_)
 case refine_1=>exact⟨B.1,B.2.1,HQ.o _ d,B.2.2.1,B.2.2.2⟩
 try clear M K
 try simp only[lh,lz]
 refine F3 15 λK M=> ?_;go_simp
 refine M.o _ _ ?_ (λj=> ?_)
 case refine_1=>
  have ac:w.grownBy ((w1.setCell (A (w.heap.size+1) 0 N) (J I 2)).setCell (A (w.heap.size+1) 1 N) (Z D)) N:=C6 (A0 (A0 y.o (A7 _ _)) d) (A0 (A6 _ (A (w.heap.size+1) 0 N) _) (A6 _ (A (w.heap.size+1) 1 N) _)) (λk e=>by cases e;exact .inl (lx _));have h2:=HS.o _ ac;exact⟨h2.1,h2.2.1,b9o (HQ.o _ d) Oo,h2.2.2.1,h2.2.2.2⟩
 try clear M K
 try simp only[lh,lz]
 refine lr Ok0 ?_ _;go_wp2_with fail
 all_goals
  have C:=HB.o.keep (A0 (A7 _ N) d) B9;have E:=(C.set 0 (J I 2)).set 1 (Z D);have T:=C6 (A0 (A0 y.o (A7 _ _)) d) (A0 (A6 w1 (A (w.heap.size+1) 0 N) (J I 2)) (A6 _ (A (w.heap.size+1) 1 N) (Z D))) (λk e=>by cases e;exact .inl (lx _));generalize (w1.setCell (A (w.heap.size+1) 0 N) (J I 2)).setCell (A (w.heap.size+1) 1 N) (Z D)=W6 at E T⊢;have q0:=E.c0;have q1:=E.c1;exact lj (v:= .agg #[(J I 2),(Z D)]) (by simp[ll,results332,go_sem,q0,q1]) rfl ⟨rfl,T⟩
theorem c0i(w:ld)(b:Nat):
 lf prog 332 #[U (O (A b 0 N)), .agg #[J I 2, Z D5]] w λe w'=>e= Y (.agg #[J I 0, Z ⟨#[]⟩])/\w.grownBy w' N:=by
 have q:=a7h;have d:X (w.grownBy ((w.alloc (H #[J I 2, Z D5] 98)).alloc (H #[J I 0, Z ⟨#[]⟩] 98)) N):=A0 (A2 _ _ _) (A2 _ _ _)
 have j:X (A4 ((w.alloc (H #[J I 2, Z D5] 98)).alloc (H #[J I 0, Z ⟨#[]⟩] 98)) (w.heap.size+1) #[J I 0, Z ⟨#[]⟩] 98):=by
  have:=A4.new (w.alloc (H #[J I 2, Z D5] 98)) #[J I 0, Z ⟨#[]⟩] 98;exact a2f
 go_enter func332,ntmps332;go_wp2_with fail
 all_goals
  obtain⟨q0,y⟩:=j.o.q2;exact lj (v:= .agg #[J I 0, Z ⟨#[]⟩]) (by simp[ll,results332,go_sem,q0,y]) rfl ⟨rfl,d.o⟩
theorem b8C(w:ld)(b k:Nat)(n:ByteArray)(y:¬(k:Int)=3)(B:¬(k:Int)=4)(q:¬(k:Int)=2):
 lf prog 332 #[U (O (A b 0 N)), .agg #[J I k, Z n]] w λe w'=>e= Y (.agg #[J I 0, Z ⟨#[]⟩])/\w.grownBy w' N:=by
 have d:X (w.grownBy ((w.alloc (H #[J I k, Z n] 98)).alloc (H #[J I 0, Z ⟨#[]⟩] 98)) N):=A0 (A2 _ _ _) (A2 _ _ _)
 have j:X (A4 ((w.alloc (H #[J I k, Z n] 98)).alloc (H #[J I 0, Z ⟨#[]⟩] 98)) (w.heap.size+1) #[J I 0, Z ⟨#[]⟩] 98):=by
  have:=A4.new (w.alloc (H #[J I k, Z n] 98)) #[J I 0, Z ⟨#[]⟩] 98;exact a2f
 have E:((k:Int)==3)=false:=by simp[y]
 have F:((k:Int)==4)=false:=by simp[B]
 have D:((k:Int)==2)=false:=by simp[q]
 go_enter func332,ntmps332;go_wp2_with fail
 all_goals
  obtain⟨q0,C⟩:=j.o.q2;exact lj (v:= .agg #[J I 0, Z ⟨#[]⟩]) (by simp[ll,results332,go_sem,q0,C]) rfl ⟨rfl,d.o⟩
theorem b8D(w:ld)(lim b:Nat)(L:List Cl)(p:lb)(cap v y B:Nat)(q:Nat->Qs)(h:X (Lk w lim b L p cap v y B q))(C:lim<=w.heap.size)(t:Ty)(d:t.n.size<=lm)(j:t.k=2->t.n≠D5->∃i,C8 L t.n=O i):
 lf prog 332 #[U (O (A b 0 N)), .agg #[J I t.k, Z t.n]] w λe w'=>e= Y (.agg #[J I (P1 L t).k, Z (P1 L t).n])/\w.grownBy w' N:=by
 obtain⟨k,n⟩:=t;dsimp only at d j⊢;by_cases h3:k=3
 ·subst h3;exact c2V w b n
 ·by_cases h4:k=4
  ·subst h4;exact c2U w b n
  ·by_cases h2:k=2
   ·subst h2;by_cases hn:n=D5
    ·subst hn;have e:P1 L ⟨2,D5⟩=A8:=by simp[P1]
     rw[e];exact c0i w b
    ·obtain⟨i,hi⟩:=j rfl hn;have e:P1 L ⟨2,n⟩=C5 (a0y L n):=by simp[P1,hn]
     rw[e];exact c0h w lim b L p cap v y B q h C n d hn i hi
   ·have e:P1 L ⟨k,n⟩=A8:=by simp[P1,h3,h4,h2]
    rw[e];exact b8C w b k n Oo Oo Oo
def muT(L:List Cl)(B:Nat)(W:ld):Nat:=match W.cell? (A B 0 N),W.cell? (A B 1 N)with|some (.int _ v),O (Z n)=>P9 L ⟨v.toNat,n⟩|_,_=>0
variable {L:List Cl}
theorem b4g{B:Nat}{W:ld}{c:Ty}{t:lo}(h:A4 W B #[J I c.k, Z c.n] t):muT L B W=P9 L c:=by
 unfold muT;rw[h.cell 0 _ rfl,h.cell 1 _ rfl];simp
theorem c0A(w:ld)(lim b:Nat)(L:List Cl)(p:lb)(cap m1 m2 m3:Nat)(q:Nat->Qs)(h:X (Lk w lim b L p cap m1 m2 m3 q))(hl:lim<=w.heap.size)(hW:C1 L)(t o:Ty)(ht:D9 L t)(ho:D9 L o)(hts:t.n.size<=lm)(ai:o.n.size<=lm):
 lf prog 319 #[U (O (A b 0 N)), .agg #[.int I t.k, Z t.n], .agg #[.int I o.k, Z o.n]] w λe w'=>e= Y (.agg #[.int I (X7 L t o).k, Z (X7 L t o).n])/\w.grownBy w' N:=by
 have HU:X (∀W (s u:Ty),w.grownBy W N->s.n.size<=lm->lf prog 295 #[U (O (A b 0 N)), .agg #[.int I s.k, Z s.n], .agg #[.int I u.k, Z u.n]] W λe w'=>e= Y (G (C4 L s u))/\W.grownBy w' N):=
  λW s u hg hs=>a8v W lim b L p cap m1 m2 m3 q (h.o.keep hg hl) (le hl hg.size) s u hs
 have HN:X (∀W (s:Ty),w.grownBy W N->s.n.size<=lm->D9 L s->lf prog 332 #[U (O (A b 0 N)), .agg #[.int I s.k, Z s.n]] W λe w'=>e= Y (.agg #[.int I (P1 L s).k, Z (P1 L s).n])/\W.grownBy w' N):=
  λW s hg hs hk=>b8D W lim b L p cap m1 m2 m3 q (h.o.keep hg hl) (le hl hg.size) s hs (λh2 _=>by have:=hk.2;rw[if_pos (.inl h2)]at this;exact this)
 have HZ:X (∀s:Ty,D9 L s->s.n.size<=lm->(P1 L s).n.size<=lm):=λs hs hz=>by
  unfold P1;split
  ·exact(by decide:D5.size<=lm)
  ·split
   ·rename_i h2;have h3:=hs.2;rw[if_pos (.inl h2.1)]at h3;obtain⟨i,hi⟩:=h3;show(a0y L s.n).size<=lm;unfold a0y;rw[hi];exact(h.o.kls.names i (M8 hi).1).2
   ·exact(by decide:D4.size<=lm)
 clear h hl;have aa:X (w.grownBy (((w.alloc (H #[.int I t.k, Z t.n] 98)).alloc (H #[.int I o.k, Z o.n] 98)).alloc (H #[.int I 0, Z ⟨#[]⟩] 98)) N):=A0 (A0 (A2 _ _ _) (A2 _ _ _)) (A2 _ _ _);have av:X (A4 (((w.alloc (H #[.int I t.k, Z t.n] 98)).alloc (H #[.int I o.k, Z o.n] 98)).alloc (H #[.int I 0, Z ⟨#[]⟩] 98)) w.heap.size #[.int I t.k, Z t.n] 98):=((A4.new w #[.int I t.k, Z t.n] 98).keep (A2 _ _ N) B9).keep (A2 _ _ N) B9
 have aj:X (A4 (((w.alloc (H #[.int I t.k, Z t.n] 98)).alloc (H #[.int I o.k, Z o.n] 98)).alloc (H #[.int I 0, Z ⟨#[]⟩] 98)) (w.heap.size+1) #[.int I o.k, Z o.n] 98):=by
  have:=(A4.new (w.alloc (H #[.int I t.k, Z t.n] 98)) #[.int I o.k, Z o.n] 98).keep (A2 _ (H #[.int I 0, Z ⟨#[]⟩] 98) N) B9;exact a2f
 have al:X (A4 (((w.alloc (H #[.int I t.k, Z t.n] 98)).alloc (H #[.int I o.k, Z o.n] 98)).alloc (H #[.int I 0, Z ⟨#[]⟩] 98)) (w.heap.size+2) #[.int I 0, Z ⟨#[]⟩] 98):=by
  have:=A4.new ((w.alloc (H #[.int I t.k, Z t.n] 98)).alloc (H #[.int I o.k, Z o.n] 98)) #[.int I 0, Z ⟨#[]⟩] 98;simp only[nw]at this;exact this
 by_cases hu:C4 L t o=true
 ·have HJ:X (X7 L t o=o):=by unfold X X7;rw[if_pos hu]
  rw[HJ.o]
  have ae:X (lf prog 295 #[U (O (A b 0 N)), .agg #[.int I t.k, Z t.n], .agg #[.int I o.k, Z o.n]] (((w.alloc (H #[.int I t.k, Z t.n] 98)).alloc (H #[.int I o.k, Z o.n] 98)).alloc (H #[.int I 0, Z ⟨#[]⟩] 98)) λe w'=>e= Y (G true)/\((((w.alloc (H #[.int I t.k, Z t.n] 98)).alloc (H #[.int I o.k, Z o.n] 98)).alloc (H #[.int I 0, Z ⟨#[]⟩] 98))).grownBy w' N):=by
   have:=HU.o _ t o aa.o hts;rw[hu]at this;exact this
  clear hu ht ho hts ai;go_enter func319,ntmps319;go_wp2_with (go_at_call 295;refine ae.o.mono ?_)
  rintro e w1 ⟨rfl,d⟩;have ax:=aj.o.keep d B9;obtain⟨c0,c1⟩:=ax.q2;have j:=al.o.keep d B9;obtain⟨r0,r1⟩:=j.q2;obtain⟨z0,z1⟩:=j.z2;go_wp2_with fail
  all_goals
   have y:A4 _ (w.heap.size+1+1) #[(.int I o.k),(Z o.n)] 98:=(j.set 0 (.int I o.k)).set 1 (Z o.n);have S:=C6 (A0 aa.o d) (A0 (A6 w1 (A (w.heap.size+1+1) 0 N) (.int I o.k)) (A6 _ (A (w.heap.size+1+1) 1 N) (Z o.n))) (λk e=>by cases e;exact .inl (by show w.heap.size<=w.heap.size+1+1;omega));generalize (w1.setCell (A (w.heap.size+1+1) 0 N) (.int I o.k)).setCell (A (w.heap.size+1+1) 1 N) (Z o.n)=W6 at y S⊢;have q0:=y.c0;have q1:=y.c1;exact lj (v:= .agg #[(.int I o.k),(Z o.n)]) (by simp[ll,results319,go_sem,q0,q1]) rfl ⟨rfl,S⟩
 ·have T:C4 L t o=false:=by simpa using hu
  have HJ:X (a2W L (P9 L t+1) t o=X7 L t o):=by unfold X X7;rw[if_neg hu]
  obtain⟨J,hJ⟩:=Oe (X7 L t o)
  rw[<-hJ]at HJ⊢;clear hJ
  have ae:X (lf prog 295 #[U (O (A b 0 N)), .agg #[.int I t.k, Z t.n], .agg #[.int I o.k, Z o.n]] (((w.alloc (H #[.int I t.k, Z t.n] 98)).alloc (H #[.int I o.k, Z o.n] 98)).alloc (H #[.int I 0, Z ⟨#[]⟩] 98)) λe w'=>e= Y (G false)/\((((w.alloc (H #[.int I t.k, Z t.n] 98)).alloc (H #[.int I o.k, Z o.n] 98)).alloc (H #[.int I 0, Z ⟨#[]⟩] 98))).grownBy w' N):=by
   have:=HU.o _ t o aa.o hts;rw[T]at this;exact this
  have HT:X (D9 L t/\t.n.size<=lm/\o.n.size<=lm):=⟨ht,hts,ai⟩
  clear hu T ht ho hts ai;go_enter func319,ntmps319;go_wp2_with (go_at_call 295;refine ae.o.mono ?_)
  rintro e w1 ⟨rfl,d⟩;go_wp2_with fail
  go_loopw [] (λwr=>∃(k:Nat) (c:Ty),a2W L k c o=J/\P9 L c<k/\D9 L c/\c.n.size<=lm/\A4 wr w.heap.size #[.int I c.k, Z c.n] 98/\A4 wr (w.heap.size+1) #[.int I o.k, Z o.n] 98/\A4 wr (w.heap.size+2) #[.int I 0, Z ⟨#[]⟩] 98/\w.grownBy wr N) (λwr=>muT L w.heap.size wr)
  case atStart=>exact⟨_,t,HJ.o,Nat.lt_succ_self _,HT.o.1,HT.o.2.1,av.o.keep d B9,aj.o.keep d B9,al.o.keep d B9,A0 aa.o d⟩
  case round=>
   obtain⟨k,c,an,au,hok,ao,ag,ah,am,aq⟩:=hrel;have ak:=A1 ah;have ac:=A1 am;have D:=A1 ag;have E:=A1 aq;have HC:X (a2W L k c o=J/\P9 L c<k/\D9 L c/\c.n.size<=lm):=⟨an,au,hok,ao⟩
   obtain⟨c0,c1⟩:=ag.q2;obtain⟨o0,o1⟩:=ah.q2;clear an au hok ao ag ah am aq;by_cases hu:C4 L o c=true
   ·have ay:X (c=J):=by
     obtain⟨h1,h2,-,-⟩:=HC.o;obtain⟨C,rfl⟩:∃C,k=C+1:=⟨k-1,by omega⟩
     unfold a2W at h1;rw[if_pos hu]at h1;exact h1
    have af:X (lf prog 295 #[U (O (A b 0 N)), .agg #[.int I o.k, Z o.n], .agg #[.int I c.k, Z c.n]] wr λe w'=>e= Y (G true)/\wr.grownBy w' N):=by
     have:=HU.o _ o c E.o HT.o.2.2;rw[hu]at this;exact this
    clear hu;go_wp2_with (go_at_call 295;refine af.o.mono ?_)
    rintro e w2 ⟨rfl,B⟩;have F:=D.o.keep B B9;obtain⟨d0,d1⟩:=F.q2;have j:=ac.o.keep B B9;obtain⟨r0,r1⟩:=j.q2;obtain⟨z0,z1⟩:=j.z2;go_wp2_with fail
    all_goals
     have y:A4 _ (w.heap.size+1+1) #[(.int I c.k),(Z c.n)] 98:=(j.set 0 (.int I c.k)).set 1 (Z c.n);have S:=C6 (A0 E.o B) (A0 (A6 w2 (A (w.heap.size+1+1) 0 N) (.int I c.k)) (A6 _ (A (w.heap.size+1+1) 1 N) (Z c.n))) (λk e=>by cases e;exact .inl (by show w.heap.size<=w.heap.size+1+1;omega));generalize (w2.setCell (A (w.heap.size+1+1) 0 N) (.int I c.k)).setCell (A (w.heap.size+1+1) 1 N) (Z c.n)=W6 at y S⊢;have q0:=y.c0;have q1:=y.c1;exact lj (v:= .agg #[(.int I c.k),(Z c.n)]) (by simp[ll,results319,go_sem,q0,q1]) rfl ⟨by rw[ay.o],S⟩
   ·have T:C4 L o c=false:=by simpa using hu
    have ad:X (∃C,a2W L C (P1 L c) o=J/\P9 L (P1 L c)<C/\D9 L (P1 L c)/\(P1 L c).n.size<=lm/\P9 L (P1 L c)<P9 L c):=by
     obtain⟨h1,h2,h3,h4⟩:=HC.o;obtain⟨C,rfl⟩:∃C,k=C+1:=⟨k-1,by omega⟩
     unfold a2W at h1;rw[if_neg hu]at h1
     have h0:c.k≠0:=λe=>by
      apply hu;unfold C4;simp[e]
     have:=hW.next_rank h3 h0;exact⟨C,h1,by omega,hW.next_ok h3,HZ.o c h3 h4,this⟩
    have af:X (lf prog 295 #[U (O (A b 0 N)), .agg #[.int I o.k, Z o.n], .agg #[.int I c.k, Z c.n]] wr λe w'=>e= Y (G false)/\wr.grownBy w' N):=by
     have:=HU.o _ o c E.o HT.o.2.2;rw[T]at this;exact this
    clear hu T;go_wp2_with (go_at_call 295;refine af.o.mono ?_)
    rintro e w2 ⟨rfl,B⟩;have F:=D.o.keep B B9;obtain⟨d0,d1⟩:=F.q2;go_wp2_with (go_at_call 332;refine(HN.o _ c (A0 E.o B) HC.o.2.2.2 HC.o.2.2.1).mono ?_)
    rintro e w3 ⟨rfl,ap⟩;obtain⟨nc,ar⟩:=Oe (P1 L c)
    rw[<-ar]at ad⊢;clear ar;have ab:=F.keep ap B9;obtain⟨e0,e1⟩:=ab.q2;obtain⟨z0,z1⟩:=ab.z2;have aw:=A1 ab;clear ab F;go_wp2_with fail
    have M:=A0 B ap;have hs:w3.grownBy ((w3.setCell (A w.heap.size 0 N) (.int I nc.k)).setCell (A w.heap.size 1 N) (Z nc.n)) (O w.heap.size):=A0 (A6 w3 (A w.heap.size 0 N) _) (A6 _ (A w.heap.size 1 N) _);have n0:A4 ((w3.setCell (A w.heap.size 0 N) (.int I nc.k)).setCell (A w.heap.size 1 N) (Z nc.n)) w.heap.size #[.int I nc.k, Z nc.n] 98:=(aw.o.set 0 _).set 1 _;have n1:=(ak.o.keep M B9).keep hs Os;have n2:=(ac.o.keep M B9).keep hs Os;have n3:=C6 (A0 E.o M) hs (λk e=>by cases e;exact .inl (lp _))
    have HM:X (muT L w.heap.size ((w3.setCell (A w.heap.size 0 N) (.int I nc.k)).setCell (A w.heap.size 1 N) (Z nc.n))<muT L w.heap.size wr):=by
     unfold X;rw[b4g n0,b4g D.o];obtain⟨C,-,-,-,-,h5⟩:=ad.o;exact h5
    clear c0 c1 o0 o1 d0 d1 e0 e1 z0 z1;go_roundw
    case rel=>
     obtain⟨C,g1,g2,g3,g4,g5⟩:=ad.o;exact⟨C,nc,g1,g2,g3,g4,n0,n1,n2,n3⟩
    case measure=>exact HM.o
def a6u(w:ld)(a:Option lb)(tk:List Ty):Prop:=(a=N/\tk=[])\/∃g,a=O (A g 0 N)/\∀j,j<tk.length->w.cell? (A g (j*2) N)=O (J I (tk.getD j A8).k)/\w.cell? (A g (j*2+1) N)=O (Z (tk.getD j A8).n)
theorem a6u.of{base n k:Nat}{a:Option lb}{q:List Ty}(h:w.ownsRow base 98 2 (V a n k) q.length (q.flatMap B8)):a6u w a q:=by
 rcases nd q.length with e|e
 ·have:=List.eq_nil_of_length_eq_zero e;subst this;rcases h.2 with⟨y,-⟩|⟨g,B,cur,d,-⟩
  ·injection y with y _ _
   exact .inl ⟨y,rfl⟩
  ·injection d with d _ _
   exact .inr ⟨g,d,λj v=>by simp at v⟩
 ·obtain⟨g,B,d,-,hg⟩:=h.form e;injection d with d _ _
  refine .inr ⟨g,d,λj v=> ?_⟩;subst d
  have D:=h.cells (g:=g) rfl (j*2) (J I (q.getD j A8).k) (by
   have:=a1U B8 2 (λ_=>rfl) q j v 0 Oo;rw[nk]at this;rw[this];simp[B8,v])
  have y:=h.cells (g:=g) rfl (j*2+1) (Z (q.getD j A8).n) (by
   have:=a1U B8 2 (λ_=>rfl) q j v 1 Oo;rw[this];simp[B8,v])
  exact⟨by rcases nd (j*2)with C|C<;>simpa[Addr.add_lit]using D,by simpa[Addr.add_lit]using y⟩
theorem c4N(w:ld)(b:Nat)(a:Int)(cs ms:ByteArray)(g n k:Nat)(C:0<n)(B:n<=65536)(j:Nat)(y:w.cell? (A g 0 N)=O (J I j)):
 lf prog 296 #[U (O (A b 0 N)), .agg #[J I 3, J I a, Z cs, Z ms], V (O (A g 0 N)) n k] w λe w'=>e= Y (G (decide (j≠0)))/\w.grownBy w' N:=by
 have d:X (w.grownBy (w.alloc (H #[J I 3, J I a, Z cs, Z ms] 120)) N):=A2 _ _ _;have c0:=d.o.cell y B9;by_cases hk:(j:Int)=0
 ·have e:decide (j≠0)=false:=by simp;omega
  rw[e];obtain rfl:j=0:=by omega
  clear e hk;go_enter func296,ntmps296;go_wp2_with fail
  all_goals exact lj (v:= G false) (by simp[ll,results296,go_sem]) rfl ⟨rfl,d.o⟩
 ·have e:decide (j≠0)=true:=by simp;omega
  rw[e];have q:¬j=0:=by omega
  go_enter func296,ntmps296;go_wp2_with fail
  all_goals exact lj (v:= G true) (by simp[ll,results296,go_sem,hk,q]) rfl ⟨rfl,d.o⟩
theorem c3V(w:ld)(b:Nat)(a:Int)(cs ms:ByteArray)(g n k:Nat)(C:0<n)(B:n<=65536)(j:Nat)(y:w.cell? (A g 0 N)=O (J I j)):
 lf prog 296 #[U (O (A b 0 N)), .agg #[J I 23, J I a, Z cs, Z ms], V (O (A g 0 N)) n k] w λe w'=>e= Y (G (decide (j≠2)))/\w.grownBy w' N:=by
 have d:X (w.grownBy (w.alloc (H #[J I 23, J I a, Z cs, Z ms] 120)) N):=A2 _ _ _;have c0:=d.o.cell y B9;by_cases hk:(j:Int)=2
 ·have e:decide (j≠2)=false:=by simp;omega
  rw[e];obtain rfl:j=2:=by omega
  clear e hk;go_enter func296,ntmps296;go_wp2_with fail
  all_goals exact lj (v:= G false) (by simp[ll,results296,go_sem]) rfl ⟨rfl,d.o⟩
 ·have e:decide (j≠2)=true:=by simp;omega
  rw[e];have q:¬j=2:=by omega
  go_enter func296,ntmps296;go_wp2_with fail
  all_goals exact lj (v:= G true) (by simp[ll,results296,go_sem,hk,q]) rfl ⟨rfl,d.o⟩
theorem c3U(w:ld)(b:Nat)(a:Int)(cs ms:ByteArray)(g n k:Nat)(F:0<n)(D:n<=65536)(t0:Ty)(C:t0.k=5->t0.n=⟨#[]⟩)(B:w.cell? (A g 0 N)=O (J I t0.k))(j:w.cell? (A g 1 N)=O (Z t0.n)):
 lf prog 296 #[U (O (A b 0 N)), .agg #[J I 26, J I a, Z cs, Z ms], V (O (A g 0 N)) n k] w λe w'=>e= Y (G (a1G t0).isSome)/\w.grownBy w' N:=by
 have d:X (w.grownBy (w.alloc (H #[J I 26, J I a, Z cs, Z ms] 120)) N):=A2 _ _ _;have c0:=d.o.cell B B9;have c1:=d.o.cell j B9;have y:=A1 (λW=>a8h W t0 C);unfold a4H at y;cases he:a1G t0 with
 |none=>
  rw[he]at y;clear he C B j;go_enter func296,ntmps296;go_wp2_with (go_at_call 271;refine(y.o _).mono ?_;rintro e E ⟨q,rfl⟩)
  all_goals try go_wp2_with fail
  all_goals exact lj (v:= G false) (by simp[ll,results296,go_sem]) rfl ⟨rfl,A0 (A0 d.o q) (A2 _ _ _)⟩
 |some u=>
  rw[he]at y;clear he C B j;go_enter func296,ntmps296;go_wp2_with (go_at_call 271;refine(y.o _).mono ?_;rintro e E ⟨q,rfl⟩)
  all_goals exact lj (v:= G true) (by simp[ll,results296,go_sem]) rfl ⟨rfl,A0 (A0 d.o q) (A2 _ _ _)⟩
theorem c3T(w:ld)(b:Nat)(a:Int)(cs ms:ByteArray)(g n k:Nat)(hn:2<n)(aa:n<=65536)(t0 q:Ty)(ht:t0.k=5->t0.n=⟨#[]⟩)(hc:w.cell? (A g 0 N)=O (J I t0.k))(F:w.cell? (A g 1 N)=O (Z t0.n))(hd:w.cell? (A g 4 N)=O (J I q.k))(M:w.cell? (A g 5 N)=O (Z q.n))(L:List Cl)(HU:X (∀W (u:Ty),w.grownBy W N->lf prog 295 #[U (O (A b 0 N)), .agg #[J I q.k, Z q.n], .agg #[J I u.k, Z u.n]] W λe w'=>e= Y (G (C4 L q u))/\W.grownBy w' N)):
 lf prog 296 #[U (O (A b 0 N)), .agg #[J I 27, J I a, Z cs, Z ms], V (O (A g 0 N)) n k] w λe w'=>e= Y (G (match a1G t0 with|none=>false|some e=>decide (e.k=5)||C4 L q e))/\w.grownBy w' N:=by
 have y:X (w.grownBy (w.alloc (H #[J I 27, J I a, Z cs, Z ms] 120)) N):=A2 _ _ _;have c0:=y.o.cell hc B9;have c1:=y.o.cell F B9;have E:=A1 (λW=>a8h W t0 ht);unfold a4H at E;cases he:a1G t0 with
 |none=>
  rw[he]at E;dsimp only at E⊢;clear he ht hc F hd M HU;go_enter func296,ntmps296;go_upto_region 11 with(go_at_call 271;refine(E.o _).mono ?_;rintro e D ⟨B,rfl⟩)
  have d:w.grownBy (D.alloc (H #[J I 0, Z ⟨#[]⟩] 98)).drew N:=A0 (A0 (A0 y.o B) (A2 _ _ _)) (A7 _ _);refine lq (S:=(λw'=>True)) Ok0 trivial (λj=> ?_);refine A3 0 ?_;refine A3 1 ?_;refine tkT 2 (v:=ln) (hv:= .inr ⟨by rfl,rfl⟩) (k:= ?r4);try simp only[lh,lz]
  refine tkT 3 (v:=ln) (hv:= .inr ⟨by rfl,rfl⟩) (k:= ?r5);try simp only[lh,lz]
  refine tkT 4 (v:=ln) (hv:= .inr ⟨by rfl,rfl⟩) (k:= ?r6);try simp only[lh,lz]
  refine tkT 5 (v:=ln) (hv:= .inr ⟨by rfl,rfl⟩) (k:= ?r7);try simp only[lh,lz]
  refine tkT 6 (v:=ln) (hv:= .inr ⟨by rfl,rfl⟩) (k:= ?r8);try simp only[lh,lz]
  refine tkT 7 (v:=ln) (hv:= .inr ⟨by rfl,rfl⟩) (k:= ?r9);try simp only[lh,lz]
  refine tkT 8 (v:=ln) (hv:= .inr ⟨by rfl,rfl⟩) (k:= ?r10);try simp only[lh,lz]
  refine tkT 9 (v:=ln) (hv:= .inr ⟨by rfl,rfl⟩) (k:= ?r11);try simp only[lh,lz]
  refine tkT 10 (v:=ln) (hv:= .inr ⟨by rfl,rfl⟩) (k:= ?r12);try simp only[lh,lz]
  refine tkT 11 (v:=ln) (hv:= .inr ⟨by rfl,rfl⟩) (k:= ?r13);try simp only[lh,lz]
  refine tkT 12 (v:=ln) (hv:= .inr ⟨by rfl,rfl⟩) (k:= ?r14);try simp only[lh,lz]
  refine A3 13 ?_;refine A3 14 ?_;refine lr Ok0 ?_ _;go_wp2_with fail
  all_goals exact lj (v:= G false) (by simp[ll,results296,go_sem]) rfl ⟨rfl,d⟩
 |some u=>
  rw[he]at E;dsimp only at E⊢;clear he ht hc F;by_cases h5:(u.k:Int)=5
  ·have e:(decide (u.k=5)||C4 L q u)=true:=by
    have:u.k=5:=by omega
    simp[this]
   rw[e];have T:((u.k:Int)==5)=true:=by simp[h5]
   obtain⟨uk,un⟩:=u;obtain rfl:uk=5:=by dsimp only at h5;omega
   clear h5 e T;dsimp only at E;go_enter func296,ntmps296;go_upto_region 11 with(go_at_call 271;refine(E.o _).mono ?_;rintro e D ⟨B,rfl⟩)
   have hq:=(A4.new D #[J I 5, Z un] 98).keep (A7 _ N) B9;obtain⟨Q0,Q1⟩:=hq.q2;have d:w.grownBy (D.alloc (H #[J I 5, Z un] 98)).drew N:=A0 (A0 (A0 y.o B) (A2 _ _ _)) (A7 _ _);have Q2:=d.cell hd B9;have Q3:=d.cell M B9;clear hq;refine lq (S:=(λw'=>w'.cell? (A D.heap.size 0 N)=O (J I 5)/\w'.cell? (A D.heap.size 1 N)=O (Z un)/\w'.cell? (A g 4 N)=O (J I q.k)/\w'.cell? (A g 5 N)=O (Z q.n))) Ok0 (⟨Q0,Q1,Q2,Q3⟩) (λj=> ?_);refine A3 0 ?_;refine A3 1 ?_;refine A3 2 ?_;refine A3 3 ?_;refine A3 4 ?_;refine A3 5 ?_;refine tkT 6 (v:=ln) (hv:= .inr ⟨by rfl,rfl⟩) (k:= ?r24);try simp only[lh,lz]
   refine tkT 7 (v:=ln) (hv:= .inr ⟨by rfl,rfl⟩) (k:= ?r25);try simp only[lh,lz]
   refine tkT 8 (v:=ln) (hv:= .inr ⟨by rfl,rfl⟩) (k:= ?r26);try simp only[lh,lz]
   refine tkT 9 (v:=ln) (hv:= .inr ⟨by rfl,rfl⟩) (k:= ?r27);try simp only[lh,lz]
   refine tkT 10 (v:=ln) (hv:= .inr ⟨by rfl,rfl⟩) (k:= ?r28);try simp only[lh,lz]
   refine tkT 11 (v:=ln) (hv:= .inr ⟨by rfl,rfl⟩) (k:= ?r29);try simp only[lh,lz]
   refine A3 12 ?_;refine A3 13 ?_;refine A3 14 ?_;refine lr Ok0 ?_ _;go_wp2_with fail
   all_goals exact lj (v:= G true) (by simp[ll,results296,go_sem]) rfl ⟨rfl,d⟩
  ·have e:(decide (u.k=5)||C4 L q u)=C4 L q u:=by
    have:¬u.k=5:=by omega
    simp[this]
   rw[e];have T:((u.k:Int)==5)=false:=by simp[h5]
   have ab:(2:Int)<(n:Int):=by omega
   clear e;go_enter func296,ntmps296;go_upto_region 11 with(go_at_call 271;refine(E.o _).mono ?_;rintro e D ⟨B,rfl⟩)
   have hq:=(A4.new D #[J I u.k, Z u.n] 98).keep (A7 _ N) B9;obtain⟨Q0,Q1⟩:=hq.q2;have d:w.grownBy (D.alloc (H #[J I u.k, Z u.n] 98)).drew N:=A0 (A0 (A0 y.o B) (A2 _ _ _)) (A7 _ _);have Q2:=d.cell hd B9;have Q3:=d.cell M B9;clear hq;refine lq (S:=(λw'=>w'.cell? (A D.heap.size 0 N)=O (J I u.k)/\w'.cell? (A D.heap.size 1 N)=O (Z u.n)/\w'.cell? (A g 4 N)=O (J I q.k)/\w'.cell? (A g 5 N)=O (Z q.n))) Ok0 (⟨Q0,Q1,Q2,Q3⟩) (λj=> ?_);refine A3 0 ?_;refine A3 1 ?_;refine A3 2 ?_;refine A3 3 ?_;refine A3 4 ?_;refine A3 5 ?_;refine A3 6 ?_;refine A3 7 ?_;refine A3 8 ?_;refine A3 9 ?_;refine A3 10 ?_;refine F3 11 λK hK=> ?_;go_simp
   go_wp2_with (go_at_call 295;refine(HU.o _ u d).mono ?_;rintro e w2 ⟨rfl,C⟩)
   refine hK.o _ _ ?_ (λj=> ?_)
   case refine_1=>exact⟨C.cell Q0 B9,C.cell Q1 B9,C.cell Q2 B9,C.cell Q3 B9⟩
   try clear hK K
   try simp only[lh,lz]
   refine A3 12 ?_;refine A3 13 ?_;refine A3 14 ?_;refine lr Ok0 ?_ _;go_wp2_with fail
   all_goals exact lj (v:= G (C4 L q u)) (by simp[ll,results296,go_sem]) rfl ⟨rfl,A0 d C⟩
theorem c2r(w:ld)(b:Nat)(a:Int)(cs ms:ByteArray)(d:Nat)(v:lg)(C:¬(d:Int)=3)(q:¬(d:Int)=23)(y:¬(d:Int)=26)(B:¬(d:Int)=27):
 lf prog 296 #[U (O (A b 0 N)), .agg #[J I d, J I a, Z cs, Z ms],v] w λe w'=>e= Y (G true)/\w.grownBy w' N:=by
 have j:X (w.grownBy (w.alloc (H #[J I d, J I a, Z cs, Z ms] 120)) N):=A2 _ _ _;go_enter func296,ntmps296;go_wp2_with fail
 all_goals exact lj (v:= G true) (by simp[ll,results296,go_sem]) rfl ⟨rfl,j.o⟩
theorem b5g(w:ld)(lim b:Nat)(L:List Cl)(p:lb)(cap m1 m2 m3:Nat)(q:Nat->Qs)(h:X (Lk w lim b L p cap m1 m2 m3 q))(hl:lim<=w.heap.size)(i:In)(v:List Ty)(S:Option lb)(k:Nat)(hr:a6u w S v)(C:v.length<=65536)(M:∀t∈v,t.n.size<=lm/\(t.k=5->t.n=⟨#[]⟩))(F:i.o=3\/i.o=23\/i.o=26->0<v.length)(h3:i.o=27->2<v.length):
 lf prog 296 #[U (O (A b 0 N)), .agg #[J I i.o, J I i.a, Z i.c, Z i.m], V S v.length k] w λe w'=>e= Y (G (V5 L i v))/\w.grownBy w' N:=by
 obtain⟨E,a,cs,ms⟩:=i;dsimp only at F h3⊢
 have row:0<v.length->∃g,S=O (A g 0 N)/\∀j,j<v.length->w.cell? (A g (j*2) N)=O (J I (v.getD j A8).k)/\w.cell? (A g (j*2+1) N)=O (Z (v.getD j A8).n):=λd=>by
  rcases hr with⟨-,D⟩|D
  ·subst D;simp at d
  ·exact D
 have y:∀j,j<v.length->v.getD j A8∈v:=λj hj=>by simp[hj]
 by_cases e3:E=3
 ·subst e3;have d:=F (.inl rfl);obtain⟨g,rfl,B⟩:=row d;exact c4N w b a cs ms g _ k d C _ (B 0 d).1
 ·by_cases e23:E=23
  ·subst e23;have d:=F (.inr (.inl rfl));obtain⟨g,rfl,B⟩:=row d;exact c3V w b a cs ms g _ k d C _ (B 0 d).1
  ·by_cases e26:E=26
   ·subst e26;have d:=F (.inr (.inr rfl));obtain⟨g,rfl,B⟩:=row d;exact c3U w b a cs ms g _ k d C _ (M _ (y 0 d)).2 (B 0 d).1 (B 0 d).2
   ·by_cases e27:E=27
    ·subst e27;have d:=h3 rfl;obtain⟨g,rfl,B⟩:=row Oo;have T:=B 0 Oo;have D:=B 2 d;exact c3T w b a cs ms g _ k d C _ (v.getD 2 A8) (M _ (y 0 Oo)).2 T.1 T.2 D.1 D.2 L (λW u hW=>a8v W lim b L p cap m1 m2 m3 q (h.o.keep hW hl) (le hl hW.size) _ u (M _ (y 2 d)).1)
    ·have:V5 L ⟨E,a,cs,ms⟩ v=true:=by simp[V5,e3,e23,e26,e27]
     rw[this];exact c2r w b a cs ms E _ Oo Oo Oo Oo
structure a2R(L:List Cl)(i:In):Prop where
 ok:a4M L i
 few:(O2 L i).p.length<=1000
 okin:R7 i
theorem b0m(t:Ty):(Z2 t).length<=1:=by
 unfold Z2;by_cases c:t.k=0
 ·exact a1r
 ·rw[if_neg c];exact lp _
variable {i:In}
theorem b2B{m:Me}(h:a2R L i):D7 L m i<=1001:=by
 unfold D7 E5;have d:=h.few;by_cases c:i.o=3\/i.o=4\/i.o=5
 ·exact a1r
 rw[if_neg c];clear c;by_cases c:i.o=6
 ·exact a1r
 rw[if_neg c];clear c;by_cases c:(7<=i.o/\i.o<=11)\/i.o=14
 ·exact a1r
 rw[if_neg c];clear c;by_cases c:i.o=13\/i.o=21\/i.o=22\/i.o=31
 ·exact a1r
 rw[if_neg c];clear c;by_cases c:i.o=15
 ·exact a1r
 rw[if_neg c];clear c;by_cases c:i.o=17
 ·exact a1r
 rw[if_neg c];clear c;by_cases c:i.o=18
 ·exact a1r
 rw[if_neg c];clear c;by_cases c:i.o=19
 ·rw[if_pos c];simp only[nm];omega
 rw[if_neg c];clear c;by_cases c:i.o=20
 ·rw[if_pos c];exact le (b0m _) Oo
 rw[if_neg c];clear c;by_cases c:i.o=23\/i.o=28\/i.o=29
 ·exact a1r
 rw[if_neg c];clear c;by_cases c:i.o=24
 ·exact a1r
 rw[if_neg c];clear c;by_cases c:i.o=25
 ·exact a1r
 rw[if_neg c];clear c;by_cases c:i.o=26
 ·exact a1r
 rw[if_neg c];clear c;by_cases c:i.o=27
 ·exact a1r
 rw[if_neg c];clear c;by_cases c:i.o=30
 ·exact a1r
 rw[if_neg c];clear c;exact nx rfl
theorem b3z:I5 L i<=2:=by
 unfold I5 C7;by_cases c:i.o=0\/(7<=i.o/\i.o<=11)\/i.o=23\/i.o=24\/i.o=29
 ·exact a1r
 rw[if_neg c];clear c;by_cases c:i.o=1
 ·exact a1r
 rw[if_neg c];clear c;by_cases c:i.o=2\/i.o=26
 ·exact a1r
 rw[if_neg c];clear c;by_cases c:i.o=5\/i.o=6
 ·exact a1r
 rw[if_neg c];clear c;by_cases c:i.o=16\/i.o=28
 ·exact a1r
 rw[if_neg c];clear c;by_cases c:i.o=17
 ·exact a1r
 rw[if_neg c];clear c;by_cases c:i.o=19
 ·rw[if_pos c];exact le (b0m _) Oo
 rw[if_neg c];clear c;by_cases c:i.o=21
 ·exact a1r
 rw[if_neg c];clear c;by_cases c:i.o=22
 ·exact a1r
 rw[if_neg c];clear c;exact nx rfl
theorem b3j(h:o4 i=true):I5 L i=0:=by
 unfold o4 at h;have:i.o=20\/i.o=30:=by simpa using h
 unfold I5 C7;rcases this with e|e<;>simp[e]
theorem c2n(k:Int)(n:ByteArray)(w:ld):(Instr.field 98 (.agg #[J I k, Z n]) 0).run prog w= .ok (J I k) w:=by kernel_rfl
theorem c1k(p:lb)(a b:Nat):(p.add a).add b=p.add (a+b):=by
 unfold Addr.add;by_cases h:a=0
 ·subst h;simp
 ·by_cases h2:b=0
  ·subst h2;simp
  ·simp[h,h2,Nat.add_assoc]
theorem b0Z:∀{a b:List Ty},a.length=b.length->(∀r,r<a.length->C4 L (a.getD r A8) (b.getD r A8)=true)->T3 L a b=true
 | [],[],_,_=>rfl
 | [],_::_,h,_=>by simp at h
 |_::_,[],h,_=>by simp at h
 |x::a,y::b,h,hu=>by
  have d:=hu 0 Os;simp only[nn]at d;simp only[T3,d,no];exact b0Z (by simpa using h) (λr e=>by have:=hu (r+1) Oi;simpa using this)
theorem b0D{L:List Cl}:∀{a b:List Ty} (r:Nat),r<a.length->r<b.length->C4 L (a.getD r A8) (b.getD r A8)=false->T3 L a b=false
 | [],_,r,h,_,_=>by simp at h
 |_::_,[],r,_,h,_=>by simp at h
 |x::a,y::b,0,_,_,hu=>by
  simp only[nn]at hu;simp[T3,hu]
 |x::a,y::b,r+1,h1,h2,hu=>by
  have:=b0D (L:=L) (a:=a) (b:=b) r (by simpa using h1) (by simpa using h2) (by simpa using hu);simp[T3,this]
theorem b6z(w:ld)(lim b:Nat)(L:List Cl)(p:lb)(cap m1 m2 m3:Nat)(q:Nat->Qs)(h:X (Lk w lim b L p cap m1 m2 m3 q))(hl:lim<=w.heap.size)(m:Me)(pa ca ha:Option lb)(pk ck hk:Nat)(i:In)(hi:a2R L i)(fv:lg)(cq:fv= .func (.func 253) #[] #[])(ty:Ty->Ty)(xs ys:List (Ty))(sa la:Option lb)(sk lk:Nat)(l2:Nat)(dy:l2<=w.heap.size)(hs:X (C0 w l2 2 B8 sa xs))(cu:X (C0 w l2 2 B8 la ys))
 (c':xs.length<=1000) (d5:ys.length<=1000) (cy:xs.length<=sk) (cz:xs.length<=m.s) (d0:m.s<=1000) (dz:m.l<=1000)
 (be:X (∀x,x∈xs\/x∈ys->(ty x).n.size<=lm/\((ty x).k=5->(ty x).n=⟨#[]⟩)/\∀W,w.grownBy W N->lf prog 253 #[.agg #[J I (x).k, Z (x).n]] W λe w'=>e= Y (.agg #[J I (ty x).k, Z (ty x).n])/\W.grownBy w' N)) (am:i.o=2->i.a.toNat<ys.length):
 lf prog 252 #[U (O (A b 0 N)), .agg (mV m pa pk ca ck ha hk), .agg #[J I i.o, J I i.a, Z i.c, Z i.m], V sa xs.length sk, V la ys.length lk,fv] w λe w'=>e= Y (G (Z5 L m i (xs.map ty) (ys.map ty)))/\w.grownBy w' N:=by
 subst cq;have bd:X (w.grownBy ((w.alloc (H (mV m pa pk ca ck ha hk) 102)).alloc (H #[J I i.o, J I i.a, Z i.c, Z i.m] 120)) N):=A0 (A2 _ _ _) (A2 _ _ _);have HE:=A1 (λW hW=>b0C W lim b L p cap m1 m2 m3 q (h.o.keep hW hl) (le hl hW.size) m pa ca ha pk ck hk i hi.ok)
 have HU:X (∀W (s u:Ty),w.grownBy W N->s.n.size<=lm->lf prog 295 #[U (O (A b 0 N)), .agg #[J I s.k, Z s.n], .agg #[J I u.k, Z u.n]] W λe w'=>e= Y (G (C4 L s u))/\W.grownBy w' N):=
  λW s u hg hs=>a8v W lim b L p cap m1 m2 m3 q (h.o.keep hg hl) (le hl hg.size) s u hs
 have HF:X (∀W (E:List Ty) (ta:Option lb) (k:Nat),w.grownBy W N->a6u W ta E->E.length<=65536->(∀t∈E,t.n.size<=lm/\(t.k=5->t.n=⟨#[]⟩))->(i.o=3\/i.o=23\/i.o=26->0<E.length)->(i.o=27->2<E.length)->lf prog 296 #[U (O (A b 0 N)), .agg #[J I i.o, J I i.a, Z i.c, Z i.m], V ta E.length k] W λe w'=>e= Y (G (V5 L i E))/\W.grownBy w' N):=
  λW E ta k hg h1 h2 h3 h4 h5=>b5g W lim b L p cap m1 m2 m3 q (h.o.keep hg hl) (le hl hg.size) i E ta k h1 h2 h3 h4 h5
 have bs:=A1 (λW (hW:((w.alloc (H (mV m pa pk ca ck ha hk) 102)).alloc (H #[J I i.o, J I i.a, Z i.c, Z i.m] 120)).grownBy W N)=>((A4.new w (mV m pa pk ca ck ha hk) 102).keep (A2 _ _ N) B9).keep hW B9)
 have HIb:X (∀W,((w.alloc (H (mV m pa pk ca ck ha hk) 102)).alloc (H #[J I i.o, J I i.a, Z i.c, Z i.m] 120)).grownBy W N->A4 W (w.heap.size+1) #[J I i.o, J I i.a, Z i.c, Z i.m] 120):=λW hW=>by
  have:=A4.new (w.alloc (H (mV m pa pk ca ck ha hk) 102)) #[J I i.o, J I i.a, Z i.c, Z i.m] 120;rw[nw]at this;exact this.keep hW B9
 have cc:D7 L m i<=1001:=b2B hi;have b5:I5 L i<=2:=b3z;have M:o4 i=true->I5 L i=0:=b3j;have al:=hi.okin
 have HL3:X (i.o=3\/i.o=23\/i.o=26->0<D7 L m i):=λe=>by
  unfold D7 E5;rcases e with e|e|e<;>simp[e]
 have HL27:X (i.o=27->2<D7 L m i):=λe=>by
  unfold D7 E5;simp[e]
 unfold Z5 a4E a1k;rw[ny];obtain⟨TT,ax⟩:=Oe (E5 L m i)
 obtain⟨PP,bg⟩:=Oe (C7 L i)
 have cd:D7 L m i=TT.length:=by rw[ax];rfl
 have b':I5 L i=PP.length:=by rw[bg];rfl
 unfold a7O at HE;rw[<-ax,<-bg]at HE;rw[<-ax];rw[cd]at cc HL3 HL27⊢;rw[b']at b5 M⊢;clear ax bg cd b' h hl hi;obtain⟨tn,ap⟩:=Oe TT.length
 obtain⟨pn,bc⟩:=Oe PP.length
 have HTN:=A1 ap;rw[<-ap]at cc HL3 HL27 HE⊢;rw[<-bc]at b5 M HE⊢;clear ap bc;obtain⟨n,ak⟩:=Oe xs.length
 have HN:=A1 ak;rw[<-ak]at c' cy cz⊢;clear ak;obtain⟨eb,bx⟩:=Oe (o4 i)
 rw[<-bx]at M HE;clear bx;have cj:=A1 M;clear M;obtain⟨ans,af⟩:=Oe ((decide (tn<=n)&&decide (n-tn+pn<=m.s)&&(if i.o=2 then decide (((ys.map ty).getD i.a.toNat A8).k≠0)else T3 L ((xs.map ty).drop (n-tn)) TT&&V5 L i ((xs.map ty).drop (n-tn)))))
 have ae:=A1 af;rw[<-af];clear af;go_enter func252,ntmps252;have cx:=(bs.o _ (C9 _ _)).cell 4 _ rfl;go_wp2_with (go_at_call 197;refine(HE.o _ bd.o).mono ?_)
 rintro e w1 ⟨ah,v1,rfl,ta,E,ua,uk,rfl,cv,cw⟩;have M4:=(bs.o _ ah).c4;have db:=(HIb.o _ ah).lt;have d4:=Nat.lt_of_succ_lt db;clear cx;have ar:=A1 (λW=>b1G W ta ua tn E pn uk n m.s eb Oo Oo Oo Oo);by_cases hroom:tn<=n/\n-tn+pn<=m.s
 ·have bi:∃bh,a1o tn pn n m.s eb= .tuple #[bh, G true]:=by
   unfold a1o;cases eb with
   |true=>exact⟨_,by simp[hroom.1];rfl⟩
   |false=>exact⟨_,by simp[hroom.1,show(n:Int)-tn+pn<=m.s by omega];rfl⟩
  obtain⟨bh,ag⟩:=bi;rw[ag]at ar;have C:(decide (tn<=n)&&decide (n-tn+pn<=m.s))=true:=by simp[hroom]
  clear ag;have dl:=hroom.1;clear hroom;go_upto_region 5 with(go_at_call 275;refine(ar.o _).mono ?_;rintro e w2 ⟨rfl,ad⟩)
  have bw:=A0 (A0 (A0 bd.o ah) (A2 _ _ _)) ad;have HW2:=A1 bw;have b3:=A0 (A0 ah (A2 _ _ _)) ad;have HGW:=A1 b3;obtain⟨I0,I1⟩:=(HIb.o _ b3).q2;by_cases h2:i.o=2
  ·have bv:(i.o:Int)=2:=by omega
   obtain⟨k,hk⟩:∃k:Nat,i.a=(k:Int):=⟨i.a.toNat,by have:=al.2 Oo;omega⟩
   have bn:k<ys.length:=by have:=am h2;rw[hk]at this;simpa using this
   obtain⟨pl,rfl,-,bj⟩:=cu.o.keep bw k bn;have L0:w2.cell? (pl.add (k*2))=O (J I (ys[k]).k):=bj 0 _ rfl;have L1:w2.cell? (A ((pl.add (k*2)).block) ((pl.add (k*2)).off+1) N)=O (Z (ys[k]).n):=by rw[C2 pl (k*2) 0];exact bj 1 _ rfl
   have hT:=(be.o (ys[k]) (.inr (np bn))).2.2;have HT:=A1 hT
   have hA:X (ans=decide ((ty (ys[k])).k≠0)):=by
    unfold X;rw[ae.o,C,no,if_pos h2,hk];simp[bn]
   have dx:(k:Int)<(ys.length:Int):=by omega
   generalize ty (ys[k])=t at HT hA;generalize ys[k]=y at L0 L1 HT;obtain⟨y1,y2⟩:=y;dsimp only at L0 L1 HT;clear bj hT C h2 am al;rw[hk]at I1;have dv:=c2n;by_cases hk0:(t.k:Int)=0
   ·have T:t.k=0:=by omega
    obtain⟨d6,d7⟩:=t;dsimp only at T;subst T;clear hk0;go_wp2_with (go_at_call 253;refine(HT.o _ HW2.o).mono ?_;rintro e w3 ⟨rfl,bk⟩)
    all_goals exact lj (v:= G false) (by simp[ll,results252,go_sem]) rfl ⟨by rw[hA.o];simp,A0 HW2.o bk⟩
   ·have T:¬t.k=0:=by omega
    go_wp2_with (go_at_call 253;refine(HT.o _ HW2.o).mono ?_;rintro e w3 ⟨rfl,bk⟩)
    all_goals exact lj (v:= G true) (by simp[ll,results252,go_sem,hk0,T]) rfl ⟨by rw[hA.o];simp[T],A0 HW2.o bk⟩
  ·have bv:¬(i.o:Int)=2:=by omega
   have du:((i.o:Int)==2)=false:=by simp[bv]
   obtain⟨s,cb⟩:=Oe (n-tn)
   have d3:(n:Int)-(tn:Int)=(s:Int):=by omega
   have hst:n-s=tn:=by omega
   have dk:s<=n:=by omega
   have dj:s<=sk:=by omega
   have HA:X (ans=(T3 L ((xs.map ty).drop s) TT&&V5 L i ((xs.map ty).drop s))):=by
    unfold X;rw[ae.o,C,no,if_neg h2,cb]
   have HSN:X (s+tn=xs.length):=by unfold X;rw[<-HN.o];omega
   have hE:=(A4.new w1 #[V ta tn E, V ua pn uk, G eb] 315).keep ad B9;have dm:=A1 hE;have E0:=hE.c0;have ba:=A1 ((cv.kept (A2 _ _ N) (by cases hv:(Value.slice ta tn E).ownBlock<;>simp)).kept ad (by cases hv:(Value.slice ta tn E).ownBlock<;>simp));clear cb C hE cw al am I1;cases sa with
   |none=>
    have ak:n=0:=by
     rw[HN.o];cases a0:xs with
     |nil=>rfl
     |cons x xs'=>
      obtain⟨p',e',-⟩:=hs.o 0 (by rw[a0];simp);cases e'
    subst ak;exact a1a
   |some p0=>
    by_cases hcap:sk=s
    ·have cp:=hcap;exact a1a
    ·have a4:∀j:Nat,(p0.add (s*2)).add (j*2)=p0.add ((s+j)*2):=λj=>by rw[c1k,Nat.add_mul]
     have HX:X (∀W,w.grownBy W N->∀j (hj:s+j<xs.length),W.cell? ((p0.add (s*2)).add (j*2))=O (J I (xs[s+j]).k)/\W.cell? (A (((p0.add (s*2)).add (j*2)).block) (((p0.add (s*2)).add (j*2)).off+1) N)=O (Z (xs[s+j]).n)):=λW hW j hj=>by
      obtain⟨p',e',-,hc⟩:=hs.o.keep hW (s+j) hj;cases e';rw[a4];exact⟨hc 0 _ rfl,by rw[C2 p0 ((s+j)*2) 0];exact hc 1 _ rfl⟩
     clear a4 hs;obtain⟨de,dd,df,dg,dh⟩:=info_parts a2n;obtain⟨F,aq⟩:=Oe ((xs.map ty).drop s)
     have cf:F.length=tn:=by rw[aq,List.length_drop,ny,<-HSN.o];omega
     have D:=A1 cf
     have HZ:X (∀r (hr:s+r<xs.length),F.getD r A8=ty (xs[s+r])):=λr hr=>by
      rw[aq,lv,List.getElem?_drop,nz,List.getElem?_eq_getElem hr];rfl
     have cn:X (∀t∈F,t.n.size<=lm/\(t.k=5->t.n=⟨#[]⟩)):=λt ht=>by
      rw[aq]at ht;obtain⟨x,hx,rfl⟩:=ly.1 (List.mem_of_mem_drop ht);have:=be.o x (.inl hx);exact⟨this.1,this.2.1⟩
     have br:X (ans=(T3 L F TT&&V5 L i F)):=by unfold X;rw[HA.o,aq]
     clear aq HA cf;go_wp2_with fail
     go_loopw [16,56] (λtv c wr=>∃(j:Nat) (a':Option lb) (k':Nat),c= J I j/\tv= V a' j k'/\j<=tn/\wr.ownsRow w2.heap.size 98 2 (V a' j k') j ((F.take j).flatMap B8)/\(∀r,r<j->C4 L (F.getD r A8) (TT.getD r A8)=true)/\w2.grownBy wr N) (λ_ c _=>tn-(intOf c).toNat)
     case atStart=>exact⟨0,N,0,rfl,rfl,lu _,by simpa using World.ownsRow_nil _ _ _ _,λr hr=>absurd hr (nq r),C9 _ _⟩
     case round=>
      obtain⟨j,a',k',rfl,rfl,hj,bb,a5,az⟩:=hrel;have a3:=A1 bb;have a2:=A1 a5;have aa:=A1 az;have ac:=A1 (A0 HW2.o az);have bq:=az.cell E0 B9;clear bb a5 az E0;have E0:=bq;clear bq;by_cases hlt:j<tn
      ·have bm:s+j<xs.length:=by rw[<-HSN.o];omega
       have hX:=HX.o wr ac.o j bm;obtain⟨X0,X1⟩:=hX;have aw:=be.o (xs[s+j]) (.inl (np bm));have av:=A1 (HZ.o j bm);obtain⟨B,ce⟩:=Oe (ty (xs[s+j]))
       rw[<-ce]at aw av;have au:=A1 aw.2.2;have a0:=aw.1;clear aw ce;generalize xs[s+j]=x at X0 X1 au;obtain⟨x1,x2⟩:=x;dsimp only at X0 X1 au;obtain⟨gt,di,ai,-,-⟩:=ba.o.form Oo;injection ai with ai b1 b2
       have an:=ba.o.kept aa.o (by cases hv:(Value.slice ta tn E).ownBlock<;>simp);obtain⟨yt,a1⟩:=Oe (TT.getD j A8)
       have bu:=A1 a1;have aj:j<TT.length:=by rw[<-HTN.o];exact hlt
       have Y0:wr.cell? (A gt (j*2) N)=O (J I yt.k):=by
        have h5:=a1U B8 2 (λ_=>rfl) TT j aj 0 Oo;have h6:=an.cells (g:=gt) (by rw[ai];rfl) (j*2) (J I yt.k) (by rw[nk]at h5;rw[h5,a1];simp[B8,aj]);rcases nd (j*2)with e2|e2<;>simpa[Addr.add_lit]using h6
       have Y1:wr.cell? (A gt (j*2+1) N)=O (Z yt.n):=by
        have h5:=a1U B8 2 (λ_=>rfl) TT j aj 1 Oo;have h6:=an.cells (g:=gt) (by rw[ai];rfl) (j*2+1) (Z yt.n) (by rw[h5,a1];simp[B8,aj]);simpa[Addr.add_lit]using h6
       clear a1 an b1 b2;subst ai;have b0:w.grownBy (wr.alloc (H #[J I ((⟨x1,x2⟩:Ty)).k, Z ((⟨x1,x2⟩:Ty)).n] 98)) N:=A0 ac.o (A2 _ _ _);have dw:(j:Int)<(tn:Int):=by omega
       by_cases hu:C4 L B yt=true
       ·have bf:X (∀W,w.grownBy W N->lf prog 295 #[U (O (A b 0 N)), .agg #[J I B.k, Z B.n], .agg #[J I yt.k, Z yt.n]] W λe w'=>e= Y (G true)/\W.grownBy w' N):=λW hW=>by
         have:=HU.o W B yt hW a0;rw[hu]at this;exact this
        have cm:X (∀r,r<j+1->C4 L (F.getD r A8) (TT.getD r A8)=true):=λr hr=>by
         by_cases e:r=j
         ·subst e;rw[av.o,<-bu.o];exact hu
         ·exact a2.o r Oo
        clear hu;go_upto_region 12 with(go_at_call 253;refine(au.o _ b0).mono ?_;rintro e w4 ⟨rfl,bl⟩)
        have d:wr.grownBy (w4.alloc (H #[J I B.k, Z B.n] 98)).drew N:=A0 (A0 (A0 (A2 _ _ N) bl) (A2 _ _ _)) (A7 _ _);have ay:=A0 ac.o d;have hq:=(A4.new w4 #[J I B.k, Z B.n] 98).keep (A7 _ N) B9;obtain⟨Q0,Q1⟩:=hq.q2;have Q2:=d.cell E0 B9;have Q3:=d.cell Y0 B9;have Q4:=d.cell Y1 B9;clear hq;refine lq (S:=(λw'=>w'.cell? (A w4.heap.size 0 N)=O (J I B.k)/\w'.cell? (A w4.heap.size 1 N)=O (Z B.n)/\w'.cell? (A w1.heap.size 0 N)=O (V (O (A gt 0 N)) tn E)/\w'.cell? (A gt (j*2) N)=O (J I yt.k)/\w'.cell? (A gt (j*2+1) N)=O (Z yt.n))) Ok0 (⟨Q0,Q1,Q2,Q3,Q4⟩) (λab=> ?_);refine A3 0 ?_;refine A3 1 ?_;refine A3 2 ?_;refine A3 3 ?_;refine A3 4 ?_;refine A3 5 ?_;refine A3 6 ?_;refine F3 7 λK hK=> ?_;go_simp
        go_wp2_with (go_at_call 295;refine(bf.o _ ay).mono ?_;rintro e w5 ⟨rfl,hg5⟩)
        refine hK.o _ _ ?_ (λab=> ?_)
        case refine_1=>exact c7u
        try clear hK K
        try simp only[lh,lz]
        refine A3 8 ?_;refine lr Ok0 ?_ _;have a6:=A0 d hg5;have r0:=hg5.cell Q0 B9;have r1:=hg5.cell Q1 B9;have dc:=(A0 aa.o (A0 d hg5)).size;have bt:X ((w5.alloc (H #[J I B.k, Z B.n] 98)).ownsRow w2.heap.size 98 2 (V a' j k') j ((F.take j).flatMap B8)):=(a3.o.kept a6 (by cases hv:(Value.slice a' j k').ownBlock<;>simp)).kept (A2 _ _ N) (by cases hv:(Value.slice a' j k').ownBlock<;>simp)
        have da:(F.take (j+1)).flatMap B8=(F.take j).flatMap B8++ [J I B.k, Z B.n]:=by
         have b4:j<F.length:=by rw[D.o];exact hlt
         have hz:F[j]=B:=by have:=av.o;simpa[b4]using this
         rw[List.take_succ_eq_append_getElem b4,hz,ng];rfl
        go_wp2_with (at_builtin;go_loud (refine b4W rfl _ _ 96 rfl w2.heap.size 98 de _ 2 24 underlying96 dd df dg dh rfl Od a' j k' ((F.take j).flatMap B8) rfl bt.o (O (A w5.heap.size 0 N)) 1 1 [J I B.k, Z B.n] rfl rfl (λjj u hu=>⟨_,rfl,O8 w5 _ _ jj u hu⟩) (by simp[Value.oneCell']) Om Oo (le dc (A2 w5 _ N).size) ?_;intro a7 k7 w7 bo cr))
        have bz:=C6 (A0 (A0 aa.o a6) (A2 _ _ _)) cr (λk e=> .inl (K7 bt.o e).1);go_roundw
        case rel=>exact⟨j+1,a7,k7,by go_num,rfl,by omega,by rw[da];exact bo,cm.o,bz⟩
        case measure=>simp[intOf];omega
       ·have bp:C4 L B yt=false:=by simpa using hu
        have bf:X (∀W,w.grownBy W N->lf prog 295 #[U (O (A b 0 N)), .agg #[J I B.k, Z B.n], .agg #[J I yt.k, Z yt.n]] W λe w'=>e= Y (G false)/\W.grownBy w' N):=λW hW=>by
         have:=HU.o W B yt hW a0;rw[bp]at this;exact this
        have hA:X (ans=false):=by
         unfold X;rw[br.o,b0D j (by rw[D.o];exact hlt) aj (by rw[av.o,<-bu.o];exact bp)];rfl
        clear hu bp;go_upto_region 12 with(go_at_call 253;refine(au.o _ b0).mono ?_;rintro e w4 ⟨rfl,bl⟩)
        have d:wr.grownBy (w4.alloc (H #[J I B.k, Z B.n] 98)).drew N:=A0 (A0 (A0 (A2 _ _ N) bl) (A2 _ _ _)) (A7 _ _);have ay:=A0 ac.o d;have hq:=(A4.new w4 #[J I B.k, Z B.n] 98).keep (A7 _ N) B9;obtain⟨Q0,Q1⟩:=hq.q2;have Q2:=d.cell E0 B9;have Q3:=d.cell Y0 B9;have Q4:=d.cell Y1 B9;clear hq;refine lq (S:=(λw'=>w'.cell? (A w4.heap.size 0 N)=O (J I B.k)/\w'.cell? (A w4.heap.size 1 N)=O (Z B.n)/\w'.cell? (A w1.heap.size 0 N)=O (V (O (A gt 0 N)) tn E)/\w'.cell? (A gt (j*2) N)=O (J I yt.k)/\w'.cell? (A gt (j*2+1) N)=O (Z yt.n))) Ok0 (⟨Q0,Q1,Q2,Q3,Q4⟩) (λab=> ?_);refine A3 0 ?_;refine A3 1 ?_;refine A3 2 ?_;refine A3 3 ?_;refine A3 4 ?_;refine A3 5 ?_;refine A3 6 ?_;refine F3 7 λK hK=> ?_;go_simp
        go_wp2_with (go_at_call 295;refine(bf.o _ ay).mono ?_;rintro e w5 ⟨rfl,hg5⟩)
        refine hK.o _ _ ?_ (λab=> ?_)
        case refine_1=>exact c7u
        try clear hK K
        try simp only[lh,lz]
        refine A3 8 ?_;refine lr Ok0 ?_ _;go_wp2_with fail
        all_goals exact lj (v:= G false) (by simp[ll,results252,go_sem]) rfl ⟨by rw[hA.o],A0 ay hg5⟩
      ·have ct:j=tn:=by omega
       subst ct
       have hA:X (ans=V5 L i F):=by
        unfold X;rw[br.o,b0Z (by rw[D.o,<-HTN.o]) (λr hr=>a2.o r (by rw[D.o]at hr;exact hr))];rfl
       have ao:=a3.o;rw[nr (by rw[D.o];exact lp _)]at ao
       have cg:X (lf prog 296 #[U (O (A b 0 N)), .agg #[J I i.o, J I i.a, Z i.c, Z i.m], V a' j k'] wr λe w'=>e= Y (G (V5 L i F))/\wr.grownBy w' N):=by
        have h8:=a6u.of (base:=w2.heap.size) (n:=j) (k:=k') (by rw[D.o];exact ao);have:=HF.o wr F a' k' ac.o h8 (by rw[D.o];omega) cn.o (by rw[D.o];exact HL3.o) (by rw[D.o];exact HL27.o);rw[D.o]at this;exact this
       have dp:=(HIb.o _ (A0 HGW.o aa.o)).cell 0 _ rfl;have dq:=(HIb.o _ (A0 HGW.o aa.o)).cell 1 _ rfl;have dr:=(HIb.o _ (A0 HGW.o aa.o)).cell 2 _ rfl;have dt:=(HIb.o _ (A0 HGW.o aa.o)).cell 3 _ rfl;go_wp2_with (go_at_call 296;refine cg.o.mono ?_;rintro e w8 ⟨rfl,hg8⟩)
       all_goals exact lj (v:= G (V5 L i F)) (by simp[ll,results252,go_sem]) rfl ⟨by rw[hA.o],A0 ac.o hg8⟩
 ·have bi:∃bh,a1o tn pn n m.s eb= .tuple #[bh, G false]:=by
   unfold a1o;cases eb with
   |true=>
    have:=cj.o rfl;exact⟨_,by simp[show¬tn<=n by omega];rfl⟩
   |false=>exact⟨_,by
    have:(decide (tn<=n)&&decide ((n:Int)-tn+pn<=m.s))=false:=by simp;omega
    simp only[this];rfl⟩
  obtain⟨bh,ag⟩:=bi;rw[ag]at ar;have C:(decide (tn<=n)&&decide (n-tn+pn<=m.s))=false:=by simp;omega
  have co:w.grownBy (w1.alloc (H #[V ta tn E, V ua pn uk, G eb] 315)) N:=A0 (A0 bd.o ah) (A2 _ _ _);have hA:X (ans=false):=by unfold X;rw[ae.o,C,Bool.false_and]
  clear ag hroom C;go_wp2_with (go_at_call 275;refine(ar.o _).mono ?_;rintro e w2 ⟨rfl,ad⟩)
  all_goals exact lj (v:= G false) (by simp[ll,results252,go_sem]) rfl ⟨by rw[hA.o],A0 co ad⟩
end Kx
namespace Cf
def sq(s:List (List Bool))(a h:Nat):Bool:=(s.getD a []).getD h false
def wq(s:List Bool)(a:Nat):Bool:=s.getD a false
def P2(s:List (List Bool))(a h:Nat):List (List Bool):=s.set a ((s.getD a []).set h true)
theorem a2j{α:Type}(l:List α)(n j:Nat)(x d:α):(l.set n x).getD j d=if n=j/\j<l.length then x else l.getD j d:=by
 simp only[lv,List.getElem?_set];by_cases h:n=j
 ·subst h;by_cases h2:n<l.length
  ·simp[h2]
  ·simp[h2]
 ·simp[h]
variable {a h:Nat}
theorem a7G{s:List (List Bool)}(e:sq s a h=true):a<s.length/\h<(s.getD a []).length:=by
 unfold sq at e
 have d:h<(s.getD a []).length:=by
  apply Classical.byContradiction;intro j;rw[lv,ub Oo]at e;cases e
 refine⟨?_,d⟩;apply Classical.byContradiction;intro j;rw[lv,ub Oo]at d;exact absurd d Os
theorem a8L(s:List (List Bool))(a h b:Nat):((P2 s a h).getD b []).length=(s.getD b []).length:=by
 unfold P2;rw[a2j];split
 ·rename_i e;rw[nh,e.1]
 ·rfl
theorem a8M(s:List (List Bool))(a h:Nat):(P2 s a h).length=s.length:=by unfold P2;simp
theorem a3U{s:List (List Bool)}(ha:a<s.length)(hh:h<(s.getD a []).length)(b k:Nat):sq (P2 s a h) b k=if a=b/\h=k then true else sq s b k:=by
 unfold sq P2;rw[a2j];by_cases e:a=b
 ·subst e;rw[if_pos ⟨rfl,ha⟩,a2j];by_cases e2:h=k
  ·subst e2;rw[if_pos ⟨rfl,hh⟩,if_pos ⟨rfl,rfl⟩]
  ·rw[if_neg (by simp[e2]),if_neg (by simp[e2])]
 ·rw[if_neg (by simp[e]),if_neg (by simp[e])]
theorem a4A{s:List (List Bool)}(ha:a<s.length)(hh:h<(s.getD a []).length){b k:Nat}(d:sq s b k=true):sq (P2 s a h) b k=true:=by
 rw[a3U ha hh];split<;>simp[d]
def a0W(s:List (List Bool)):Nat:=(s.map λr=>r.countP (λx=> !x)).sum
theorem b7K(r:List Bool)(h:Nat)(hh:h<r.length)(hf:r.getD h false=false):(r.set h true).countP (λx=> !x)+1=r.countP (λx=> !x):=by
 exact b0f
theorem b0G{s:List (List Bool)}(ha:a<s.length)(hh:h<(s.getD a []).length)(d:sq s a h=false):a0W (P2 s a h)+1=a0W s:=by
 unfold a0W P2;induction s generalizing a with
 |nil=>simp at ha
 |cons r s ih=>
  cases a with
  |zero=>
   have:=b7K r h (by simpa using hh) (by simpa[sq]using d);simp only[nn,List.set_cons_zero,ns,uc];omega
  |succ a=>
   have:=ih (a:=a) (by simpa using ha) (by simpa using hh) (by simpa[sq]using d);simp only[List.getD_cons_succ,List.set_cons_succ,ns,uc]at this⊢;omega
structure Wk where
 seen:List (List Bool)
 wrong:List Bool
 heights:List Int
 work:List (Nat×Nat)
structure Z7(l:List Cl)(m:Me)(s:Wk):Prop where
 len1:s.seen.length=m.c.length
 row:∀a,a<m.c.length->(s.seen.getD a []).length=m.s+1
 len2:s.wrong.length=m.c.length
 len3:s.heights.length=m.c.length
 snd:∀a h,sq s.seen a h=true->G2 l m a h
 wrs:∀a,wq s.wrong a=true->a0F l m a
 none_:∀a,s.heights.getD a (-1)= -1->∀h,sq s.seen a h=false
 some_:∀a,s.heights.getD a (-1)≠-1->∃h:Nat,s.heights.getD a (-1)=h/\sq s.seen a h=true
 two:∀a h k,h≠k->sq s.seen a h=true->sq s.seen a k=true->wq s.wrong a=true
 work:∀p∈s.work,sq s.seen p.1 p.2=true
def a5t(l:List Cl)(m:Me)(s:Wk)(a h:Nat):Prop:=
 (∀p∈X6 l m a h,sq s.seen p.1 p.2=true)/\(N5 l m a h=false->wq s.wrong a=true)/\((∃d∈m.h,G0 d a=true)->m.s=0->wq s.wrong a=true)
def a0H(l:List Cl)(m:Me)(s:Wk)(cur:Option (Nat×Nat)):Prop:=∀a h,sq s.seen a h=true->(a,h)∈s.work\/cur=O (a,h)\/a5t l m s a h
structure a4l(s t:Wk):Prop where
 seen:∀a h,sq s.seen a h=true->sq t.seen a h=true
 wrong:∀a,wq s.wrong a=true->wq t.wrong a=true
theorem a4l.refl(s:Wk):a4l s s:=⟨λ_ _ h=>h,λ_ h=>h⟩
variable {l:List Cl}{m:Me}{s t:Wk}
theorem a5t.up(d:a4l s t)(hd:a5t l m s a h):a5t l m t a h:=
 ⟨λp q=>d.seen _ _ (hd.1 p q),λe=>d.wrong _ (hd.2.1 e),λe j=>d.wrong _ (hd.2.2 e j)⟩
theorem a5s{s:List Bool}(ha:a<s.length)(b:Nat):wq (s.set a true) b=if a=b then true else wq s b:=by
 unfold wq;rw[a2j];by_cases e:a=b
 ·subst e;simp[ha]
 ·simp[e]
def Y5(s:Wk)(a h:Nat):Wk:=
 if sq s.seen a h then s else
  {seen:=P2 s.seen a h,work:=s.work++ [(a,h)]
   heights:=if s.heights.getD a (-1)= -1 then s.heights.set a h else s.heights
   wrong:=if s.heights.getD a (-1)= -1 then s.wrong else s.wrong.set a true}
def a2T(s:Wk)(a:Nat):Wk:={s with wrong:=s.wrong.set a true}
def a1Y(s:Wk):Nat:=2*a0W s.seen+s.work.length
theorem a6J(e:Z7 l m s)(ha:a<m.c.length)(hh:h<=m.s):a4l s (Y5 s a h):=by
 unfold Y5;split
 ·exact a4l.refl s
 ·have j:a<s.seen.length:=by rw[e.len1];exact ha
  have q:h<(s.seen.getD a []).length:=by rw[e.row a ha];omega
  refine⟨λb k d=>a4A j q d,λb d=> ?_⟩;dsimp only;split
  ·exact d
  ·rw[a5s (by rw[e.len2];exact ha)];split<;>simp[d]
theorem a7Y(d:Z7 l m s)(ha:a<m.c.length)(hh:h<=m.s):sq (Y5 s a h).seen a h=true:=by
 unfold Y5;split
 ·assumption
 ·have e:a<s.seen.length:=by rw[d.len1];exact ha
  have j:h<(s.seen.getD a []).length:=by rw[d.row a ha];omega
  dsimp only;rw[a3U e j];simp
theorem b1a(d:Z7 l m s)(ha:a<m.c.length)(hh:h<=m.s):a1Y (Y5 s a h)<=a1Y s:=by
 unfold Y5;split
 ·exact lp _
 ·rename_i hn;have e:a<s.seen.length:=by rw[d.len1];exact ha
  have j:h<(s.seen.getD a []).length:=by rw[d.row a ha];omega
  have:=b0G e j (by simpa using hn);unfold a1Y;simp only[ud,nm,nt];omega
theorem b0F(hs:Z7 l m s)(ha:a<m.c.length)(hh:h<=m.s)(hr:G2 l m a h):Z7 l m (Y5 s a h):=by
 unfold Y5;split
 ·exact hs
 ·rename_i hn;have h1:a<s.seen.length:=by rw[hs.len1];exact ha
  have h2:h<(s.seen.getD a []).length:=by rw[hs.row a ha];omega
  have hq:=a3U h1 h2;have h3:a<s.wrong.length:=by rw[hs.len2];exact ha
  have M:a<s.heights.length:=by rw[hs.len3];exact ha
  by_cases hz:s.heights.getD a (-1)= -1
  ·rw[if_pos hz,if_pos hz];have E:=hs.none_ a hz;refine⟨by rw[a8M];exact hs.len1,λb d=>by rw[a8L];exact hs.row b d,hs.len2,by rw[nh];exact hs.len3,λb k hk=> ?_,hs.wrs,λb d k=> ?_,λb d=> ?_,λb k j y hk v=> ?_,λp hp=> ?_⟩
   ·exact c7x
   ·dsimp only at d⊢;rw[a2j]at d;by_cases e:a=b
    ·subst e;rw[if_pos ⟨rfl,M⟩]at d;omega
    ·rw[if_neg (by simp[e])]at d;rw[hq,if_neg (by simp[e])];exact hs.none_ b d k
   ·dsimp only at d⊢;rw[a2j]at d⊢;by_cases e:a=b
    ·subst e;rw[if_pos ⟨rfl,M⟩];exact⟨h,rfl,by rw[hq];simp⟩
    ·rw[if_neg (by simp[e])]at d⊢;obtain⟨k,hk,B⟩:=hs.some_ b d;exact⟨k,hk,by rw[hq,if_neg (by simp[e])];exact B⟩
   ·dsimp only at hk v⊢;rw[hq]at hk v;by_cases e:a=b
    ·subst e
     have T:h=k:=by
      apply Classical.byContradiction;intro n1;rw[if_neg (by simp[n1]),E k]at hk;cases hk
     have W:h=j:=by
      apply Classical.byContradiction;intro n1;rw[if_neg (by simp[n1]),E j]at v;cases v
     exact absurd (T.symm.trans W) y
    ·rw[if_neg (by simp[e])]at hk v;exact hs.two b k j y hk v
   ·exact c7c
  ·rw[if_neg hz,if_neg hz];obtain⟨F,aa,q⟩:=hs.some_ a hz;have D:F≠h:=λe=>by rw[e]at q;exact hn q
   have C:a0F l m a:= .inr (.inr ⟨F,h,D,hs.snd a F q,hr⟩);have S:=a5s h3;refine⟨by rw[a8M];exact hs.len1,λb d=>by rw[a8L];exact hs.row b d,by rw[nh];exact hs.len2,hs.len3,λb k hk=> ?_,λb d=> ?_,λb d k=> ?_,λb d=> ?_,λb k j y hk v=> ?_,λp hp=> ?_⟩
   ·exact c7x
   ·dsimp only at d;rw[S]at d;split at d
    ·rename_i e;rw[<-e];exact C
    ·exact hs.wrs b d
   ·dsimp only at d⊢;have e:a≠b:=λe=>by subst e;exact hz d
    rw[hq,if_neg (by simp[e])];exact hs.none_ b d k
   ·dsimp only at d⊢;obtain⟨k,hk,B⟩:=hs.some_ b d;exact⟨k,hk,a4A h1 h2 B⟩
   ·dsimp only at hk v⊢;rw[S];by_cases e:a=b
    ·simp[e]
    ·rw[if_neg e];rw[hq,if_neg (by simp[e])]at hk v;exact hs.two b k j y hk v
   ·exact c7c
variable {cur:Option (Nat×Nat)}
theorem b0w(j:Z7 l m s)(ha:a<m.c.length)(hh:h<=m.s)(hg:a0H l m s cur):a0H l m (Y5 s a h) cur:=by
 have q:=a6J j ha hh;intro b k hk;by_cases hn:sq s.seen b k=true
 ·rcases hg b k hn with d|d|d
  ·refine .inl ?_;unfold Y5;split
   ·exact d
   ·exact ue _ d
  ·exact .inr (.inl d)
  ·exact .inr (.inr (d.up q))
 ·refine .inl ?_;unfold Y5 at hk⊢;split at hk
  ·exact absurd hk hn
  ·rename_i h0;rw[if_neg h0];have d:a<s.seen.length:=by rw[j.len1];exact ha
   have v:h<(s.seen.getD a []).length:=by rw[j.row a ha];omega
   dsimp only at hk⊢;rw[a3U d v]at hk;split at hk
   ·rename_i e;rw[e.1,e.2];simp
   ·exact absurd hk hn
theorem b2w(e:Z7 l m s)(ha:a<m.c.length):a4l s (a2T s a):=
 ⟨λ_ _ h=>h,λb d=>by unfold a2T;dsimp only;rw[a5s (by rw[e.len2];exact ha)];split<;>simp[d]⟩
theorem b7U(d:Z7 l m s)(ha:a<m.c.length)(B:a0F l m a):Z7 l m (a2T s a):=by
 have C:=a5s (s:=s.wrong) (a:=a) (by rw[d.len2];exact ha);refine⟨d.len1,d.row,by unfold a2T;rw[nh];exact d.len2,d.len3,d.snd,λb j=> ?_,d.none_,d.some_,λb h k q v y=> ?_,d.work⟩
 ·unfold a2T at j;dsimp only at j;rw[C]at j;split at j
  ·rename_i e;rw[<-e];exact B
  ·exact d.wrs b j
 ·exact(b2w d ha).wrong b (d.two b h k q v y)
theorem a0H.up(hg:a0H l m s cur)(v:a4l s t)(j:t.seen=s.seen)(q:t.work=s.work):a0H l m t cur:=λa h d=>by
 rw[j]at d;rw[q];rcases hg a h d with e|e|e
 ·exact .inl e
 ·exact .inr (.inl e)
 ·exact .inr (.inr (e.up v))
def a2S(s:Wk):Wk:={s with work:=s.work.dropLast}
theorem b7T(d:Z7 l m s):Z7 l m (a2S s):=
 ⟨d.len1,d.row,d.len2,d.len3,d.snd,d.wrs,d.none_,d.some_,d.two,λp e=>d.work p (List.dropLast_subset _ e)⟩
theorem b6J{xs:List (Nat×Nat)}{p:Nat×Nat}(d:s.work=xs++ [p])(hg:a0H l m s N):a0H l m (a2S s) (O p):=λa h j=>by
 have q:a4l s (a2S s):=⟨λ_ _ h=>h,λ_ h=>h⟩
 rcases hg a h j with e|e|e
 ·rw[d]at e;rcases nu.1 e with e|e
  ·refine .inl ?_;unfold a2S;rw[d];simpa using e
  ·exact .inr (.inl (by rw[List.mem_singleton.1 e]))
 ·cases e
 ·exact .inr (.inr (e.up q))
theorem b9v(h:s.work≠ []):a1Y (a2S s)+1=a1Y s:=by
 unfold a1Y a2S;have:=List.length_pos_iff.2 h;simp only[List.length_dropLast];omega
theorem a0H.close(hg:a0H l m s (O (a,h)))(hd:a5t l m s a h):a0H l m s N:=λb k d=>by
 rcases hg b k d with e|e|e
 ·exact .inl e
 ·cases e;exact .inr (.inr hd)
 ·exact .inr (.inr e)
theorem c2E(B:Z7 l m s)(hg:a0H l m s N)(C:sq s.seen 0 0=true)(M:s.work=[]):
 (∀a h,sq s.seen a h=true↔G2 l m a h)/\(∀a,wq s.wrong a=true↔a0F l m a):=by
 have hd:∀a h,sq s.seen a h=true->a5t l m s a h:=λa h y=>by
  rcases hg a h y with e|e|e
  ·rw[M]at e;cases e
  ·cases e
  ·exact e
 have d:=λa h (d:G2 l m a h)=>a4T (S:=λa h=>sq s.seen a h=true) ⟨C,λa h y p F=>(hd a h y).1 p F⟩ d
 refine⟨λa h=>⟨B.snd a h,d a h⟩,λa=>⟨B.wrs a,λE=> ?_⟩⟩;rcases E with⟨h,j,q⟩|⟨j,⟨h,q⟩,D⟩|⟨h,k,v,j,q⟩
 ·exact(hd a h (d a h j)).2.1 q
 ·exact(hd a h (d a h q)).2.2 j D
 ·exact B.two a h k v (d a h j) (d a k q)
def y7(m:Me):Wk:={seen:=lw m.c.length (lw (m.s+1) false),wrong:=lw m.c.length false,heights:=lw m.c.length (-1),work:=[]}
theorem a7y(m:Me)(a h:Nat):sq (y7 m).seen a h=false:=by
 unfold sq y7;dsimp only;simp only[lv,ni];by_cases h1:a<m.c.length
 ·by_cases h2:h<m.s+1<;>simp[h1,h2]
 ·simp[h1]
theorem c1m(l:List Cl)(m:Me):Z7 l m (y7 m):=by
 have hh:∀a,(y7 m).heights.getD a (-1)= -1:=λa=>by
  unfold y7;simp only[lv,ni];split<;>rfl
 refine⟨by simp[y7],λa ha=> ?_,by simp[y7],by simp[y7],λa h d=> ?_,λa d=> ?_,λa _ h=>a7y m a h,λa e=>absurd (hh a) e,λa h k _ d _=> ?_,λp j=> ?_⟩
 ·unfold y7;simp only[lv,ni,ha,if_true,Option.getD_some,List.length_replicate]
 ·rw[a7y]at d;cases d
 ·unfold wq y7 at d;simp only[lv,ni]at d;split at d<;>cases d
 ·rw[a7y]at d;cases d
 ·unfold y7 at j;cases j
theorem b9w(l:List Cl)(m:Me):a0H l m (y7 m) N:=λa h d=>by rw[a7y]at d;cases d
end Cf
namespace Kx
def U4(p:Nat×Nat):List lg:=[J I p.1, J I p.2]
def WkV(m:Me)(pa:Option lb)(pk:Nat)(ca:Option lb)(ck:Nat)(ha:Option lb)(hk eg hg sg wg n:Nat)(wa:Option lb)(wl wk:Nat):List lg:=
 [Z m.n, V pa m.p.length pk, J I m.r.k, Z m.r.n, J I m.s, J I m.l, V ca m.c.length ck, V ha m.h.length hk, V (O (A eg 0 N)) n n, V (O (A hg 0 N)) n n, V (O (A sg 0 N)) n n, V (O (A wg 0 N)) n n, V wa wl wk]
structure O5(w:World)(base b eg hg sg wg:Nat)(g:Nat->Nat)(m:Me)(pa:Option Addr)(pk:Nat)(ca:Option Addr)(ck:Nat)(ha:Option Addr)(hk n st:Nat)(s:Wk)(wa:Option Addr)(wk:Nat):Prop where
 blk:A4 w b (WkV m pa pk ca ck ha hk eg hg sg wg n wa s.work.length wk).toArray 308
 hts:A4 w hg (s.heights.map λx=>Value.int .i64 x).toArray 3
 seen:A4 w sg ((List.range n).map λa=>Value.slice (some ⟨g a,0,none⟩) (st+1) (st+1)).toArray 264
 rows:∀a,a<n->A4 w (g a) ((s.seen.getD a []).map Value.bool).toArray 4
 wrong:A4 w wg (s.wrong.map Value.bool).toArray 4
 work:w.ownsRow base 372 2 (.slice wa s.work.length wk) s.work.length (s.work.flatMap U4)
 d1:∀a,a<n->g a≠wg
 d2:∀a c,a<n->c<n->g a=g c->a=c
 low:base<=b/\base<=hg/\base<=sg/\base<=wg/\∀a,a<n->base<=g a
structure Fr(base:Nat)(w w':World):Prop where
 os:w'.os=w.os
 tape:w'.tape=w.tape
 output:w'.output=w.output
 size:w.heap.size<=w'.heap.size
 low:∀k,k<base->w'.heap[k]? =w.heap[k]?
 blk:∀(k:Nat) (cs:Array Value) (fr:Nat×Nat),w.heap[k]? =some (Obj.cells cs 98 fr)->w'.heap[k]? =some (Obj.cells cs 98 fr)
 eff:∀(k:Nat) (cs:Array Value) (fr:Nat×Nat),w.heap[k]? =some (Obj.cells cs 315 fr)->w'.heap[k]? =some (Obj.cells cs 315 fr)
variable {b base hg n wg:Nat}
theorem Fr.trans{a b c:ld}(h:Fr base a b)(k:Fr base b c):Fr base a c:=
 ⟨k.os.trans h.os,k.tape.trans h.tape,k.output.trans h.output,le h.size k.size,λj d=>(k.low j d).trans (h.low j d),λj cs fr e=>k.blk j cs fr (h.blk j cs fr e),λj cs fr e=>k.eff j cs fr (h.eff j cs fr e)⟩
variable {w w':World}
theorem a6W{k:Nat}{o:Obj}(h:w.heap[k]? =O o):k<w.heap.size:=(Array.getElem?_eq_some_iff.1 h).1
theorem Fr.grown(hg:w.grownBy w' N)(d:base<=w.heap.size):Fr base w w':=
 ⟨hg.os,hg.tape,hg.output,hg.size,λk hk=>hg.block k (nv hk d) Os,λk cs fr h=>by rw[hg.block k (a6W h) Os];exact h,λk cs fr h=>by rw[hg.block k (a6W h) Os];exact h⟩
structure Fx(b hg wg:Nat)(g:Nat->Nat)(n:Nat)(wa wa':Option Addr)(w w':World):Prop where
 os:w'.os=w.os
 tape:w'.tape=w.tape
 output:w'.output=w.output
 size:w.heap.size<=w'.heap.size
 block:∀k,k<w.heap.size->k≠b->k≠hg->k≠wg->(∀a,a<n->k≠g a)->(∀p,wa=some p->k≠p.block)->w'.heap[k]? =w.heap[k]?
 own:∀p,wa'=some p->(∃q,wa=some q/\q.block=p.block)\/w.heap.size<=p.block
variable {g:Nat->Nat}{wa:Option Addr}
theorem Fx.refl(w:ld):Fx b hg wg g n wa wa w w:=⟨rfl,rfl,rfl,lp _,λ_ _ _ _ _ _ _=>rfl,λp e=> .inl ⟨p,e,rfl⟩⟩
theorem Fx.trans{E wc:Option lb}{x y z:ld}(h:Fx b hg wg g n wa E x y)(j:Fx b hg wg g n E wc y z):Fx b hg wg g n wa wc x z:=by
 refine⟨j.os.trans h.os,j.tape.trans h.tape,j.output.trans h.output,le h.size j.size,λk hk n1 n2 n3 C D=> ?_,λp e=> ?_⟩
 ·refine(j.block k (nv hk h.size) n1 n2 n3 C (λp e=> ?_)).trans (h.block k hk n1 n2 n3 C D);rcases h.own p e with⟨q,d,v⟩|d
  ·rw[<-v];exact D q d
  ·omega
 ·rcases j.own p e with⟨q,d,v⟩|d
  ·rcases h.own q d with⟨r,B,F⟩|B
   ·exact .inl ⟨r,B,F.trans v⟩
   ·exact .inr Oo
  ·exact .inr (le h.size d)
theorem Fx.grown(h:w.grownBy w' N):Fx b hg wg g n wa wa w w':=
 ⟨h.os,h.tape,h.output,h.size,λk hk _ _ _ _ _=>h.block k hk Os,λp e=> .inl ⟨p,e,rfl⟩⟩
theorem Fx.at{r:Nat}(h:w.grownBy w' (O r))(j:r=b\/r=hg\/r=wg\/∃a,a<n/\r=g a):Fx b hg wg g n wa wa w w':=
 ⟨h.os,h.tape,h.output,h.size,λk hk n1 n2 n3 q _=>h.block k hk (by
  intro e;cases e;rcases j with e|e|e|⟨a,d,e⟩
  ·exact n1 e
  ·exact n2 e
  ·exact n3 e
  ·exact q a d e),λp e=> .inl ⟨p,e,rfl⟩⟩
theorem G8{g q:Nat}{cs d:Array lg}{t j:lo}(h:A4 w g cs t)(y:A4 w q d j)(C:t≠j):g≠q:=λe=>by
 subst e;have v:w.heap[g]? =O (Obj.cells cs t (0,0)):=h;have B:w.heap[g]? =O (Obj.cells d j (0,0)):=y;rw[B]at v;cases v;exact C rfl
theorem a3V{α:Type}(f:α->lg)(l:List α)(k:Nat)(x:α):(l.map f).toArray.setIfInBounds k (f x)=((l.set k x).map f).toArray:=by
 rw[List.setIfInBounds_toArray,List.map_set]
section
variable{w:World}{base b eg hg sg wg:Nat}{g:Nat->Nat}{m:Me}{pa:Option Addr}{pk:Nat}{ca:Option Addr}{ck:Nat}{ha:Option Addr}{hk n st:Nat}{s:Wk}{wa:Option Addr}{wk:Nat}
theorem O5.keep{w':ld}(h:O5 w base b eg hg sg wg g m pa pk ca ck ha hk n st s wa wk)(d:w.grownBy w' N):O5 w' base b eg hg sg wg g m pa pk ca ck ha hk n st s wa wk:=
 ⟨h.blk.keep d Os,h.hts.keep d Os,h.seen.keep d Os,λa e=>(h.rows a e).keep d Os,h.wrong.keep d Os,h.work.kept d (by cases hv:(Value.slice wa s.work.length wk).ownBlock<;>simp),h.d1,h.d2,h.low⟩
theorem O5.mark(h:O5 w base b eg hg sg wg g m pa pk ca ck ha hk n st s wa wk){a k:Nat}(d:a<n)(v:s.seen.length=n):
 O5 (w.setCell (A (g a) k N) (G true)) base b eg hg sg wg g m pa pk ca ck ha hk n st {s with seen:=P2 s.seen a k} wa wk/\Fx b hg wg g n wa wa w (w.setCell (A (g a) k N) (G true)):=by
 have hr:=h.rows a d;have j:=A6 w (A (g a) k N) (G true);have n1:O b≠O (g a):=λe=>G8 h.blk hr Od (li.inj e)
 have n2:O hg≠O (g a):=λe=>G8 h.hts hr Od (li.inj e)
 have n3:O sg≠O (g a):=λe=>G8 h.seen hr Od (li.inj e)
 have B:O wg≠O (g a):=λe=>h.d1 a d (li.inj e).symm
 refine⟨⟨h.blk.keep j n1,h.hts.keep j n2,h.seen.keep j n3,λc q=> ?_,h.wrong.keep j B,h.work.kept j (.inr (N4 h.work hr Od)),h.d1,h.d2,h.low⟩,Fx.at j (.inr (.inr (.inr ⟨a,d,rfl⟩)))⟩;dsimp only;unfold P2;rw[a2j];by_cases e:a=c
 ·exact c7m
 ·rw[if_neg (by simp[e])];exact(h.rows c q).keep j (λy=>e (h.d2 c a q d (li.inj y)).symm)
theorem O5.push{v:ld}{j:Option lb}{y:Nat}(h:O5 w base b eg hg sg wg g m pa pk ca ck ha hk n st s wa wk){p:Nat×Nat}{o:Obj}(hb:base<=w.heap.size)
 (hown:v.ownsRow base 372 2 (V j (s.work.length+1) y) (s.work.length+1) (s.work.flatMap U4++U4 p)) (F:(w.alloc o).grownBy v (Value.slice wa s.work.length wk).ownBlock) (E:∀p,j=O p->(∃q,wa=O q/\q.block=p.block)\/(w.alloc o).heap.size<=p.block):
 O5 (v.setCell (A b 12 N) (V j (s.work.length+1) y)) base b eg hg sg wg g m pa pk ca ck ha hk n st {s with work:=s.work++ [p]} j y/\Fx b hg wg g n wa j w (v.setCell (A b 12 N) (V j (s.work.length+1) y)):=by
 have d:=C6 (A2 w o _) F (λk e=> .inr e.symm);have hb7:A4 v b _ _:=h.blk.keep d (λe=>N4 h.work h.blk Od e.symm);have M:=h.hts.keep d (λe=>N4 h.work h.hts Od e.symm);have S:=h.seen.keep d (λe=>N4 h.work h.seen Od e.symm);have T:=λc (B:c<n)=>(h.rows c B).keep d (λe=>N4 h.work (h.rows c B) Od e.symm)
 have W:=h.wrong.keep d (λe=>N4 h.work h.wrong Od e.symm);have hs:=A6 v (A b 12 N) (V j (s.work.length+1) y)
 have D:Fx b hg wg g n wa j w v:=⟨d.os,d.tape,d.output,d.size,λk hk _ _ _ _ n5=>d.block k hk (by
  intro e;cases wa with
  |none=>simp[Value.ownBlock]at e
  |some q=>simp only[Value.ownBlock,li.injEq]at e;exact n5 q rfl e),λp e=>by
  rcases E p e with C|C
  ·exact .inl C
  ·exact .inr (le (A2 w o N).size C)⟩
 refine⟨⟨?_,M.keep hs (λe=>G8 M hb7 Od (li.inj e)),S.keep hs (λe=>G8 S hb7 Od (li.inj e)),λc B=>(T c B).keep hs (λe=>G8 (T c B) hb7 Od (li.inj e)),W.keep hs (λe=>G8 W hb7 Od (li.inj e)),?_,h.d1,h.d2,h.low⟩,D.trans (Fx.at hs (.inl rfl))⟩
 ·have:=hb7.set 12 (V j (s.work.length+1) y);exact c7s
 ·exact c5m
theorem O5.high(h:O5 w base b eg hg sg wg g m pa pk ca ck ha hk n st s wa wk)(a:Nat)(x:Int):
 O5 (w.setCell (A hg a N) (J I x)) base b eg hg sg wg g m pa pk ca ck ha hk n st {s with heights:=s.heights.set a x} wa wk/\Fx b hg wg g n wa wa w (w.setCell (A hg a N) (J I x)):=by
 have d:=A6 w (A hg a N) (J I x);refine⟨⟨h.blk.keep d (λe=>G8 h.blk h.hts Od (li.inj e)),?_,h.seen.keep d (λe=>G8 h.seen h.hts Od (li.inj e)),λc j=>(h.rows c j).keep d (λe=>G8 (h.rows c j) h.hts Od (li.inj e)),h.wrong.keep d (λe=>G8 h.wrong h.hts Od (li.inj e)),h.work.kept d (.inr (N4 h.work h.hts Od)),h.d1,h.d2,h.low⟩,Fx.at d (.inr (.inl rfl))⟩;have:=h.hts.set a (J I x);rw[a3V (λx=>Value.int I x)]at this;exact this
theorem O5.bad(h:O5 w base b eg hg sg wg g m pa pk ca ck ha hk n st s wa wk)(a:Nat):
 O5 (w.setCell (A wg a N) (G true)) base b eg hg sg wg g m pa pk ca ck ha hk n st {s with wrong:=s.wrong.set a true} wa wk/\Fx b hg wg g n wa wa w (w.setCell (A wg a N) (G true)):=by
 have d:=A6 w (A wg a N) (G true);refine⟨⟨h.blk.keep d (λe=>G8 h.blk h.wrong Od (li.inj e)),h.hts.keep d (λe=>G8 h.hts h.wrong Od (li.inj e)),h.seen.keep d (λe=>G8 h.seen h.wrong Od (li.inj e)),λc j=>(h.rows c j).keep d (λe=>h.d1 c j (li.inj e)),?_,h.work.kept d (.inr (N4 h.work h.wrong Od)),h.d1,h.d2,h.low⟩,Fx.at d (.inr (.inr (.inl rfl)))⟩;have:=h.wrong.set a (G true);rw[a3V]at this;exact this
theorem O5.fr{w':ld}{S:Option lb}(h:O5 w base b eg hg sg wg g m pa pk ca ck ha hk n st s wa wk)(y:Fx b hg wg g n wa S w w')(M:base<=w.heap.size):Fr base w w':=by
 have C:∀(k:Nat) (cs:Array lg) (fr:Nat×Nat) (t:lo),t≠308->t≠3->t≠4->t≠372->w.heap[k]? =O (Obj.cells cs t fr)->w'.heap[k]? =O (Obj.cells cs t fr):=λk cs fr t t1 t2 W t4 hk=>by
  have ne:∀{r:Nat} {d:Array lg} {D:lo},A4 w r d D->t≠D->k≠r:=fun{r d D} hb ht e=>by
   subst e;have T:w.heap[k]? =O (Obj.cells d D (0,0)):=hb;rw[hk]at T;cases T;exact ht rfl
  rw[y.block k (a6W hk) (ne h.blk t1) (ne h.hts t2) (ne h.wrong W) (λa v=>ne (h.rows a v) W) (λp e=> ?_)]
  ·exact hk
  ·intro e2;subst e;rcases h.work.2 with⟨j,-⟩|⟨q,E,cur,j,-,B,-⟩
   ·cases j
   ·injection j with F _ _
    cases F;have e5:k=q:=e2;subst e5;rw[hk]at B;cases B;exact t4 rfl
 exact⟨y.os,y.tape,y.output,y.size,λk hk=>y.block k (nv hk M) (by have:=h.low.1;omega) (by have:=h.low.2.1;omega) (by have:=h.low.2.2.2.1;omega) (λa v=>by have:=h.low.2.2.2.2 a v;omega) (λp e=>by
  subst e;rcases h.work.2 with⟨j,-⟩|⟨q,E,cur,j,hq,-⟩
  ·cases j
  ·injection j with F _ _
   cases F;show k≠q;omega),λk cs fr hk=>C k cs fr _ Od Od Od Od hk,λk cs fr hk=>C k cs fr _ Od Od Od Od hk⟩
theorem b1Z{w:ld}{base e sz n k:Nat}{a:Option lb}{cs:List lg}(h:w.ownsRow base e sz (V a (n+1) k) (n+1) cs):w.ownsRow base e sz (V a n k) n (cs.take (n*sz)):=by
 obtain⟨M,B⟩:=h;rcases B with⟨d,v⟩|⟨q,j,cur,d,S,F,T,C,D,E⟩
 ·cases v
 ·injection d with d _ y
  subst d y;refine⟨by rw[List.length_take,M,uf];omega, .inr ⟨q,k,cur,rfl,S,F,by omega,C,D,?_⟩⟩;rw[<-E,List.take_take];congr 1
  rw[uf];omega
theorem O5.pop{xs:List (Nat×Nat)}{p:Nat×Nat}(h:O5 w base b eg hg sg wg g m pa pk ca ck ha hk n st s wa wk)(y:s.work=xs++ [p]):
 O5 (w.setCell (A b 12 N) (V wa xs.length wk)) base b eg hg sg wg g m pa pk ca ck ha hk n st (a2S s) wa wk/\Fx b hg wg g n wa wa w (w.setCell (A b 12 N) (V wa xs.length wk)):=by
 have d:=A6 w (A b 12 N) (V wa xs.length wk);have j:(a2S s).work=xs:=by unfold a2S;rw[y];simp
 refine⟨⟨?_,h.hts.keep d (λe=>G8 h.hts h.blk Od (li.inj e)),h.seen.keep d (λe=>G8 h.seen h.blk Od (li.inj e)),λc B=>(h.rows c B).keep d (λe=>G8 (h.rows c B) h.blk Od (li.inj e)),h.wrong.keep d (λe=>G8 h.wrong h.blk Od (li.inj e)),?_,h.d1,h.d2,h.low⟩,Fx.at d (.inl rfl)⟩
 ·have:=h.blk.set 12 (V wa xs.length wk);rw[j];exact this
 ·have q:=h.work;rw[y]at q;simp only[ud,nm,nt,Nat.zero_add]at q;have v:=b1Z q;rw[j]
  have C:((xs++ [p]).flatMap U4).take (xs.length*2)=xs.flatMap U4:=by
   have D:(xs.flatMap U4).length=xs.length*2:=by
    clear q v y j d h;induction xs with
    |nil=>rfl
    |cons x l ih=>exact c5k
   rw[ng,<-D,List.take_left'];rfl
  rw[C]at v;exact v.kept d (.inr (N4 v h.blk Od))
end
theorem c2c:(prog.info? 372).map (λi=>(i.zero,i.size,i.bytes))=O (O (.agg #[J I 0, J I 0]),2,16):=by kernel_rfl
theorem b8V{l:List Bool}{j:Nat}(d:j<l.length):l[j]? =O (l.getD j false):=by simp[d]
variable {w w':World}{base g sz:Nat}
theorem b7{l:List lg}{t:lo}(h:A4 w g l.toArray t)(j:Nat)(v:lg)(hv:l[j]? =O v):w.cell? (A g j N)=O v:=h.cell j v (by simpa using hv)
theorem b8o(w:ld)(base b eg hg sg wg:Nat)(g:Nat->Nat)(m:Me)(pa:Option lb)(pk:Nat)(ca:Option lb)(ck:Nat)(ha:Option lb)(hk n st:Nat)(s:Wk)(wa:Option lb)(wk:Nat)(h:X (O5 w base b eg hg sg wg g m pa pk ca ck ha hk n st s wa wk))(hn:n<=65535)(hst:st<=1000)(au:s.seen.length=n)(ae:∀a,a<n->(s.seen.getD a []).length=st+1)(ar:s.heights.length=n)(aw:s.wrong.length=n)(av:s.work.length<=200000000)(a d:Nat)(B:a<n)(bc:d<=st)(al:base<=w.heap.size):
 lf prog 274 #[U (O (A b 0 N)), J I a, J I d] w λe w'=>e= Y (.tuple #[])/\∃aj a3,O5 w' base b eg hg sg wg g m pa pk ca ck ha hk n st (Y5 s a d) aj a3/\Fx b hg wg g n wa aj w w':=by
 have a':(a:Int)<(n:Int):=by omega
 have ap:(d:Int)<((st+1:Nat):Int):=by omega
 have aq:d<st+1:=by omega
 have T:=ae a B;obtain⟨ls,F⟩:=Oe (st+1)
 have bb:w.cell? (A sg a N)=O (V (O (A (g a) 0 N)) ls ls):=by rw[F];exact b7 h.o.seen a _ (by simp[B])
 rw[<-F]at ap aq
 have hx:w.cell? (A (g a) d N)=O (G (sq s.seen a d)):=b7 (h.o.rows a B) d _ (by
  unfold sq;rw[nz,b8V Oo];rfl)
 have ba:=(h.o.rows a B).frozen d;have c10:w.cell? (A b 10 N)=O (Value.slice (O (A sg 0 N)) n n):=h.o.blk.cell 10 _ rfl;have a4:ls<=1001:=by omega
 by_cases hq:sq s.seen a d=true
 ·rw[hq]at hx;have HR:X (Y5 s a d=s):=by unfold X Y5;rw[if_pos hq]
  rw[HR.o];clear hq F ae T;go_enter func274,ntmps274;go_wp2_with fail
  refine lj (results_none rfl _ _ _) rfl ?_;exact⟨rfl,_,_,h.o,Fx.refl _⟩
 ·have ai:sq s.seen a d=false:=by simpa using hq
  rw[ai]at hx;obtain⟨S2,ac⟩:=Oe (Y5 s a d)
  have HR:X (S2={seen:=P2 s.seen a d,work:=s.work++ [(a,d)],heights:=if s.heights.getD a (-1)= -1 then s.heights.set a d else s.heights,wrong:=if s.heights.getD a (-1)= -1 then s.wrong else s.wrong.set a true}):=by unfold X;rw[ac];unfold Y5;rw[if_neg hq]
  rw[<-ac];clear ac;obtain⟨ah,W⟩:=h.o.mark (k:=d) B au;have j:=A1 ah;have af:=A1 W;have ad:=le al W.size;clear ah W hq ai F ae T;obtain⟨M,C⟩:=Oe s.work.length
  have y:=A1 C;have a5:w.cell? (A b 12 N)=O (V wa M wk):=by rw[C];exact h.o.blk.cell 12 _ rfl
  rw[<-C]at av;clear C;obtain⟨az,ay,a0,a1,a2⟩:=info_parts c2c;go_enter func274,ntmps274;go_upto_region 2 with fail
  generalize w.setCell (A (g a) d N) (G true)=W1 at j af ad⊢;have d12:W1.cell? (A b 12 N)=O (V wa M wk):=by rw[y.o];exact j.o.blk.cell 12 _ rfl
  have ak:X ((W1.alloc (H #[J I a, J I d] 372)).ownsRow base 372 2 (V wa M wk) M (s.work.flatMap U4)):=by
   have h5:W1.ownsRow base 372 2 (V wa M wk) M (s.work.flatMap U4):=by rw[y.o];exact j.o.work
   exact h5.kept (A2 _ _ N) (by cases hv:(Value.slice wa M wk).ownBlock<;>simp)
  have ao:=(j.o.blk).frozen 12;go_upto_region 3 with(at_builtin;go_loud (refine a5N rfl _ _ 306 rfl base 372 az _ 2 16 underlying306 ay a0 a1 a2 rfl Od wa M wk (s.work.flatMap U4) rfl ak.o (O (A W1.heap.size 0 N)) 1 1 [J I a, J I d] rfl rfl (λjj u hu=>⟨_,rfl,O8 W1 _ _ jj u hu⟩) (by simp[Value.oneCell']) Om Oo (le ad (A2 W1 _ N).size) ?_;intro a7 k7 w7 D E S;have an:=(j.o.blk.keep (C6 (A2 W1 (H #[J I a, J I d] 372) _) E (λk e=> .inr e.symm)) (N4 (by rw[y.o];exact j.o.work) j.o.blk Od).symm).frozen 12;have am:=(C6 (A2 W1 (H #[J I a, J I d] 372) _) E (λk e=> .inr e.symm)).cell d12 (N4 (by rw[y.o];exact j.o.work) j.o.blk Od).symm))
  have hP:=j.o.push (p:=(a,d)) ad (by rw[<-y.o];exact D) (by rw[<-y.o];exact E) S;rw[<-y.o]at hP;obtain⟨ab,aa⟩:=hP;generalize w7.setCell (A b 12 N) (V a7 (M+1) k7)=W2 at ab aa⊢;have q:X (O5 W2 base b eg hg sg wg g m pa pk ca ck ha hk n st {s with seen:=P2 s.seen a d,work:=s.work++ [(a,d)]} a7 k7):=ab;have ag:=A1 (af.o.trans aa);clear D E S an am ab aa d12 ao;have e9:=q.o.blk.c9;have a6:W2.cell? (A b 11 N)=O (Value.slice (O (A wg 0 N)) n n):=q.o.blk.cell 11 _ rfl;have eh:W2.cell? (A hg a N)=O (J I (s.heights.getD a (-1))):=b7 q.o.hts a _ (by simp[ar,B]);have ew:W2.cell? (A wg a N)=O (G (s.wrong.getD a false)):=b7 q.o.wrong a _ (by simp[aw,B]);have fh:=q.o.hts.frozen a;have fw:=q.o.wrong.frozen a;by_cases hz:s.heights.getD a (-1)= -1
  ·rw[hz]at eh;have v:=q.o.high a d;have HS:X (S2={seen:=P2 s.seen a d,work:=s.work++ [(a,d)],heights:=s.heights.set a d,wrong:=s.wrong}):=by unfold X;rw[HR.o,if_pos hz,if_pos hz]
   clear hz;go_wp2_with fail
   go_end0;exact⟨rfl,a7,⟨k7,by rw[HS.o];exact v.1⟩,ag.o.trans v.2⟩
  ·have ax:(s.heights.getD a (-1)== -1)=false:=by rw[beq_eq_false_iff_ne];exact hz
   have v:=q.o.bad a;have HS:X (S2={seen:=P2 s.seen a d,work:=s.work++ [(a,d)],heights:=s.heights,wrong:=s.wrong.set a true}):=by unfold X;rw[HR.o,if_neg hz,if_neg hz]
   generalize s.heights.getD a (-1)=hv at eh hz ax;go_wp2_with fail
   go_end0;exact⟨rfl,a7,⟨k7,by rw[HS.o];exact v.1⟩,ag.o.trans v.2⟩
def a6x(w:ld)(eg:Nat)(L:List Cl)(m:Me):Prop:=∃cs:Array lg,A4 w eg cs 315/\∀a,a<m.c.length->∃ta tk ua uk,cs[a*3]? =O (V ta (D7 L m (A5 m a)) tk)/\cs[a*3+1]? =O (V ua (I5 L (A5 m a)) uk)/\cs[a*3+2]? =O (G (o4 (A5 m a)))
variable {m:Me}
theorem a6x.fr{eg:Nat}{L:List Cl}(h:a6x w eg L m)(j:Fr base w w'):a6x w' eg L m:=by
 obtain⟨cs,d,e⟩:=h;exact⟨cs,j.eff eg cs (0,0) d,e⟩
theorem C0.low{α:Type}{lim:Nat}{enc:α->List lg}{a:Option lb}{xs:List α}(h:C0 w lim sz enc a xs)(v:Fr base w w')(C:lim<=base):C0 w' lim sz enc a xs:=by
 intro j y;obtain⟨p,d,e,q⟩:=h j y;exact⟨p,d,e,λk u B=>(World.cell?_of_block (v.low _ (by rw[a4y];omega))).trans (q k u B)⟩
structure a0O(w0 wr:World)(base b eg hg sg wg:Nat)(g:Nat->Nat)(L:List Cl)(m0:Me)(pa:Option Addr)(pk:Nat)(ca:Option Addr)(ck:Nat)(ha:Option Addr)(hk:Nat)(s:Wk)(wa:Option Addr)(wk:Nat)(cur:Option (Nat×Nat))(K:Nat):Prop where
 m:O5 wr base b eg hg sg wg g m0 pa pk ca ck ha hk m0.c.length m0.s s wa wk
 snd:Z7 L m0 s
 gone:a0H L m0 s cur
 zero:sq s.seen 0 0=true
 mu:a1Y s<=K
 fr:Fr base w0 wr
theorem a6c{a:Nat}(h:a<m.c.length):A5 m a∈m.c:=by unfold A5;simp[h]
theorem a8U(i:In)(a:Nat):(E6 i a).length<=2:=by
 unfold E6;by_cases c:i.o=20\/i.o=30
 ·rw[if_pos c];exact lu _
 rw[if_neg c];clear c;by_cases c:i.o=12
 ·rw[if_pos c];exact lx _
 rw[if_neg c];clear c;by_cases c:13<=i.o/\i.o<=15
 ·rw[if_pos c];exact lp _
 rw[if_neg c];exact lx _
theorem a3Y(l:List (Nat×Nat)):(l.flatMap U4).length=l.length*2:=by
 induction l with
 |nil=>rfl
 |cons x l ih=>exact c5k
theorem b3B{e n k:Nat}{cs:List lg}(h:w.ownsRow base e sz (V (O (A g 0 N)) n k) n cs):n<=k:=by
 rcases h.2 with⟨j,_⟩|⟨v,d,cur,q,_,_,B,_⟩
 ·cases j
 ·injection q with _ _ y;omega
def RnR(w0:ld)(base b eg hg sg wg:Nat)(g:Nat->Nat)(L:List Cl)(m:Me)(pa:Option lb)(pk:Nat)(ca:Option lb)(ck:Nat)(ha:Option lb)(hk:Nat)(p:Nat×Nat)(K B3 j:Nat)(W:ld):Prop:=∃s wa wk,a0O w0 W base b eg hg sg wg g L m pa pk ca ck ha hk s wa wk (O p) K/\A4 W B3 #[J I p.1, J I p.2] 372/\(∀i,i<j->∀(hi:i<m.h.length),G0 m.h[i] p.1=true->(m.s≠0->sq s.seen m.h[i].t 1=true)/\(m.s=0->wq s.wrong p.1=true))/\∀q',wa=O q'->B3≠q'.block
def Rn3(w0:ld)(base b eg hg sg wg:Nat)(g:Nat->Nat)(L:List Cl)(m:Me)(pa:Option lb)(pk:Nat)(ca:Option lb)(ck:Nat)(ha:Option lb)(hk:Nat)(p:Nat×Nat)(K bn B5:Nat)(a5:Option lb)(k5:Nat)(gl:List Nat)(j:Nat)(W:ld):Prop:=∃s wa wk,a0O w0 W base b eg hg sg wg g L m pa pk ca ck ha hk s wa wk (O p) K/\(∀d∈m.h,G0 d p.1=true->(m.s≠0->sq s.seen d.t 1=true)/\(m.s=0->wq s.wrong p.1=true))/\(∀i,i<j->sq s.seen (gl.getD i 0) bn=true)/\(∀q' r,wa=O q'->a5=O r->r.block≠q'.block)/\W.ownsRow B5 3 1 (V a5 gl.length k5) gl.length (gl.flatMap a0p)/\hg<B5/\B5<=W.heap.size
def a7K(b B3:Nat)(t:Nat->lg):Act:={tmps:= #[U (O (A b 0 N)),undef,t 2, U (O (A B3 0 N)),undef,t 5,t 6,t 7,undef,t 9, U (O (A b 0 N)), .tuple #[],t 12,t 13,t 14,t 15,t 16,t 17,t 18,t 19,t 20,t 21,t 22,t 23,t 24,t 25,t 26,t 27,t 28,t 29,t 30,t 31,t 32,t 33,t 34,t 35,t 36,t 37,t 38,t 39,t 40,t 41,t 42,t 43,t 44,t 45,t 46,t 47,t 48,t 49,t 50,t 51,t 52,t 53,t 54,t 55,t 56,t 57,t 58,t 59,t 60,t 61,t 62,t 63,t 64,t 65,t 66,t 67,t 68,t 69,t 70,t 71,t 72,t 73,t 74,t 75,t 76,t 77,t 78,t 79,t 80,t 81,t 82,t 83,t 84,t 85,t 86,t 87,t 88,t 89,t 90,t 91,t 92,t 93,t 94,t 95,t 96,t 97,t 98,t 99,t 100,t 101,t 102,t 103,t 104,t 105,t 106,t 107,t 108,t 109,t 110,t 111,t 112,t 113,t 114,t 115,t 116,t 117,t 118,t 119,t 120,t 121,t 122,t 123,t 124],defers:=[]}
def RnJ(b B3:Nat)(R:ld->Prop)(a:Act)(w:ld):Prop:=R w/\∃t:Nat->lg,a=a7K b B3 t
theorem a3l{P:Program}{c:Code}{a:Act}{i:Nat}{J K:Act->ld->Prop}{Q:Exit->Act->ld->Prop}(q:∀a w,J a w->K a w)
 (h:c.wp P (Exit.inBlock i (Exit.then J (λ_ _ _=>False))) a w):c.wp P (Exit.inBlock i (Exit.then K Q)) a w:=by
 refine Code.wp_mono ?_ h;intro e a w d
 have j:∀e a w,Exit.then J (λ_ _ _=>False) e a w->Exit.then K Q e a w:=by
  intro e a w d;cases e<;>first|exact q _ _ d|exact d.elim
 revert d;cases e<;>simp only[Exit.inBlock]<;>intro d
 all_goals first
  |exact j _ _ _ d
  |(split at d<;>split<;>first|exact j _ _ _ d|contradiction)
theorem a9p(s:Wk):s.work.length<=a1Y s:=by unfold a1Y;omega
section
variable{w0 wr w':World}{base b eg hg sg wg:Nat}{g:Nat->Nat}{L:List Cl}{m:Me}{pa:Option Addr}{pk:Nat}{ca:Option Addr}{ck:Nat}{ha:Option Addr}{hk:Nat}{s:Wk}{wa:Option Addr}{wk:Nat}{cur:Option (Nat×Nat)}{K:Nat}
theorem a0O.keep(h:a0O w0 wr base b eg hg sg wg g L m pa pk ca ck ha hk s wa wk cur K)(d:wr.grownBy w' N)(e:base<=wr.heap.size):a0O w0 w' base b eg hg sg wg g L m pa pk ca ck ha hk s wa wk cur K:=
 ⟨h.m.keep d,h.snd,h.gone,h.zero,h.mu,h.fr.trans (Fr.grown d e)⟩
theorem a0O.bad(h:a0O w0 wr base b eg hg sg wg g L m pa pk ca ck ha hk s wa wk cur K){a:Nat}(d:a<m.c.length)(j:a0F L m a)(e:base<=wr.heap.size):a0O w0 (wr.setCell (A wg a N) (G true)) base b eg hg sg wg g L m pa pk ca ck ha hk (a2T s a) wa wk cur K:=
 ⟨(h.m.bad a).1,b7U h.snd d j,h.gone.up (b2w h.snd d) rfl rfl,h.zero,h.mu,h.fr.trans (h.m.fr (h.m.bad a).2 e)⟩
end
theorem a0O.rch{w0 wr w':ld}{base b eg hg sg wg:Nat}{g:Nat->Nat}{L:List Cl}{m:Me}{pa:Option lb}{pk:Nat}{ca:Option lb}{ck:Nat}{ha:Option lb}{hk:Nat}{s:Wk}{wa j:Option lb}{wk q:Nat}{cur:Option (Nat×Nat)}{K:Nat}
 (h:a0O w0 wr base b eg hg sg wg g L m pa pk ca ck ha hk s wa wk cur K) (v:base<=wr.heap.size) {a k:Nat} (B:Cf.G2 L m a k) (d:a<m.c.length) (e:k<=m.s) (y:O5 w' base b eg hg sg wg g m pa pk ca ck ha hk m.c.length m.s (Y5 s a k) j q) (C:Fx b hg wg g m.c.length wa j wr w'):
 a0O w0 w' base b eg hg sg wg g L m pa pk ca ck ha hk (Y5 s a k) j q cur K:=
 ⟨y,b0F h.snd d e B,b0w h.snd d e h.gone,(a6J h.snd d e).seen _ _ h.zero,le (b1a h.snd d e) h.mu,h.fr.trans (h.m.fr C v)⟩
theorem c1t(w:ld)(base b eg hg sg wg:Nat)(g:Nat->Nat)(L:List Cl)(m:Me)(pa:Option lb)(pk:Nat)(ca:Option lb)(ck:Nat)(ha:Option lb)(hk:Nat)(s0:Wk)(ao:s0=y7 m)(wk:Nat)
 (h:X (O5 w base b eg hg sg wg g m pa pk ca ck ha hk m.c.length m.s s0 N wk)) (hE:X (a6x w eg L m)) (lim:Nat) (cr:lim<=base) (E:base<=w.heap.size) (fn:X (C0 w lim 4 M0 ca m.c)) (fo:X (C0 w lim 4 O3 ha m.h)) (dp:N2 L m) (dr:∀i∈m.c,a2R L i) (hn:m.c.length<=65535) (hst:m.s<=255) (f9:m.h.length<=65535):
 lf prog 198 #[U (O (A b 0 N))] w λe w'=>e= Y (.tuple #[])/\∃s wa wk,O5 w' base b eg hg sg wg g m pa pk ca ck ha hk m.c.length m.s s wa wk/\Z7 L m s/\(∀a k,sq s.seen a k=true↔Cf.G2 L m a k)/\(∀a,wq s.wrong a=true↔a0F L m a)/\Fr base w w':=by
 have hi:=λi h=>(dr i h).okin
 have bd:X (∀W s wa wk,O5 W base b eg hg sg wg g m pa pk ca ck ha hk m.c.length m.s s wa wk->Z7 L m s->s.work.length<=200000000->base<=W.heap.size->∀a k,a<m.c.length->k<=m.s->lf prog 274 #[U (O (A b 0 N)), .int I a, .int I k] W λe w'=>e= Y (.tuple #[])/\∃aq bv,O5 w' base b eg hg sg wg g m pa pk ca ck ha hk m.c.length m.s (Y5 s a k) aq bv/\Fx b hg wg g m.c.length wa aq W w'):=
  λW s wa wk h1 h2 h3 h4 a k h5 h6=>b8o W base b eg hg sg wg g m pa pk ca ck ha hk m.c.length m.s s wa wk h1 hn Oo h2.len1 h2.row h2.len3 h2.len2 h3 a k h5 h6 h4
 have cu:a1Y s0<=100000000:=by
  rw[ao];unfold a1Y a0W y7;have:((lw m.c.length (lw (m.s+1) false)).map λr=>r.countP (λx=> !x)).sum=m.c.length*(m.s+1):=by simp[List.countP_replicate]
  rw[this];have h2:m.c.length*(m.s+1)<=65535*256:=Nat.mul_le_mul hn Oo;simp only[nt];omega
 have fj:=(a1c L m).1;have b4:=c1m L m;have dh:=b9w L m;rw[<-ao]at b4 dh;have ab:X (Z7 L m s0/\a0H L m s0 N/\a1Y s0<=100000000/\N2 L m/\(∀i∈m.c,a2R L i)/\(∀i∈m.c,R7 i)):=⟨b4,dh,cu,dp,dr,hi⟩
 have cg:=bd.o w s0 N wk h.o b4 (by rw[ao];simp[y7]) E 0 0 dp.some_ (lu _);have ed:X (lf prog 274 #[U (O (A b 0 N)), .int I 0, .int I 0] w λe w'=>e= Y (.tuple #[])/\∃aq bv,O5 w' base b eg hg sg wg g m pa pk ca ck ha hk m.c.length m.s (Y5 s0 0 0) aq bv/\Fx b hg wg g m.c.length N aq w w'):=cg;clear b4 dh cu dp dr hi cg ao;go_enter func198,ntmps198;go_step3
 go_wp2_with (go_at_call 274;refine ed.o.mono ?_)
 rintro e w1 ⟨rfl,f2,f3,er,es⟩
 have D:a0O w w1 base b eg hg sg wg g L m pa pk ca ck ha hk (Y5 s0 0 0) f2 f3 N 100000000:=by
  have h0:=ab.o.2.2.2.1.some_;refine⟨er,b0F ab.o.1 h0 (lu _) fj,b0w ab.o.1 h0 (lu _) ab.o.2.1,a7Y ab.o.1 h0 (lu _),le (b1a ab.o.1 h0 (lu _)) ab.o.2.2.1,h.o.fr es E⟩
 have HI:=A1 D;clear D er es;go_wp2_with fail
 go_step3
 go_wp2_with fail
 go_loopg [] 100000000 (λK wr=>∃s wa wk,a0O w wr base b eg hg sg wg g L m pa pk ca ck ha hk s wa wk N K/\K<=100000000)
 case atStart=>exact⟨_,_,_,HI.o,lp _⟩
 case round=>
  obtain⟨K1,fm⟩:=Oe gk
  subst fm;obtain⟨s,wa,ah,D,hK⟩:=hrel;have b1:=A1 D;have b5:=le E D.fr.size;by_cases hw:s.work=[]
  ·have en:wr.cell? (A b 12 N)=O (V wa 0 ah):=by have:=D.m.blk.cell 12 _ rfl;rw[hw]at this;exact this
   have cf:=c2E D.snd D.gone D.zero hw;have d8:=A1 cf;clear cf D hw;go_wp2_with fail
   rw[Exit.noGoto_normal];go_end0;exact⟨rfl,s,wa,ah,b1.o.m,b1.o.snd,d8.o.1,d8.o.2,b1.o.fr⟩
  ·obtain⟨xs,p,ap⟩:∃xs p,s.work=xs++ [p]:=⟨_,_,(List.dropLast_concat_getLast hw).symm⟩
   have dx:=D.snd.snd _ _ (D.snd.work p (by rw[ap];simp));have dv:=l5 ab.o.2.2.2.1 ab.o.2.2.2.2.2 dx;obtain⟨xl,az⟩:=Oe xs.length
   have dj:s.work.length=xl+1:=by rw[ap,az];simp
   have a4:=D.m.pop ap;have hwork:=D.m.work;rw[dj]at hwork;obtain⟨q,qc,hq,-,dy⟩:=hwork.form (Nat.succ_pos _);injection hq with fy _ fz
   subst fy;have ge:=b3B hwork
   have f':ah<=lm:=by
    exact c7h
   have f0:wr.cell? (A q (xl*2) N)=O (.int I p.1):=by
    have:=hwork.cells (g:=q) rfl (xl*2) (.int I p.1) (by
     rw[ap,ng,ug (by rw[a3Y,az];exact lp _),a3Y,az,Nat.sub_self];rfl)
    rcases nd (xl*2)with e2|e2<;>simpa[Addr.add_lit]using this
   have f1:wr.cell? (A q (xl*2+1) N)=O (.int I p.2):=by
    have:=hwork.cells (g:=q) rfl (xl*2+1) (.int I p.2) (by
     rw[ap,ng,ug (by rw[a3Y,az];omega),a3Y,az,Nat.add_sub_cancel_left];rfl)
    exact c8i
   have en:wr.cell? (A b 12 N)=O (V (O (A q 0 N)) (xl+1) ah):=by have:=D.m.blk.cell 12 _ rfl;rw[dj]at this;exact this
   have fh:=D.m.blk.frozen 12;have fp:=D.m.blk.lt;have e6:=b9v hw
   have af:A4 ((wr.setCell (A b 12 N) (V (O (A q 0 N)) xl ah)).alloc (H #[.int I p.1, .int I p.2] 372)) wr.heap.size #[.int I p.1, .int I p.2] 372:=by
    have:=A4.new (wr.setCell (A b 12 N) (V (O (A q 0 N)) xl ah)) #[.int I p.1, .int I p.2] 372;rw[show(wr.setCell (A b 12 N) (V (O (A q 0 N)) xl ah)).heap.size=wr.heap.size by simp[World.setCell]]at this;exact this
   have eq:a0O w ((wr.setCell (A b 12 N) (V (O (A q 0 N)) xl ah)).alloc (H #[.int I p.1, .int I p.2] 372)) base b eg hg sg wg g L m pa pk ca ck ha hk (a2S s) (O (A q 0 N)) ah (O p) (K1-1):=by
    rw[az];exact⟨a4.1.keep (A2 _ _ N),b7T D.snd,b6J ap D.gone,D.zero,by have:=D.mu;omega,D.fr.trans ((D.m.fr a4.2 b5).trans (Fr.grown (A2 _ _ N) (le b5 a4.2.size)))⟩
   have e0:0<K1:=by have:=D.mu;omega
   have e7:=dy;have f6:xl<=200000000:=by have h1:=a9p s;have h2:=D.mu;omega
   have HX:X (Cf.G2 L m p.1 p.2/\p.1<m.c.length/\p.2<=m.s):=⟨dx,dv.1,dv.2⟩
   have da:=A1 eq;have cy:=A1 af;have ak:X (q<wr.heap.size/\0<K1/\K1<=100000000/\sq s.seen p.1 p.2=true):=⟨dy,e0,hK,D.snd.work p (by rw[ap];simp)⟩
   clear D b1 dx dv a4 hwork ap az dj eq af e6 e0 hK hw dy e7 fz;go_wp2_with fail
   go_step3
   go_upto_region 5 with fail
   generalize (wr.setCell (A b 12 N) (V (O (A q 0 N)) xl ah)).alloc (H #[.int I p.1, .int I p.2] 372)=W1 at da cy⊢;clear fp b5;generalize wr.heap.size=B3 at cy ak⊢;have c7:=da.o.m.blk.c7;clear f0 f1 en fh;go_wp2_with fail
   go_step3
   go_wp2_with fail
   have ff:X (RnR w base b eg hg sg wg g L m pa pk ca ck ha hk p (K1-1) B3 0 W1):=⟨_,_,_,da.o,cy.o,λi hi=>absurd hi (nq i),λq' e=>by cases e;have:=ak.o.1;show B3≠q;omega⟩
   refine a3l (J:=RnJ b B3 (λW=>RnR w base b eg hg sg wg g L m pa pk ca ck ha hk p (K1-1) B3 m.h.length W)) ?_ ?_
   ·rintro a W2 ⟨hR,t,rfl⟩;dsimp only[a7K];obtain⟨s2,ag,a1,D,af,al,bq⟩:=hR;obtain⟨cs,eu,ew⟩:=hE.o.fr D.fr;obtain⟨ta,tk,ua,uk,de,df,dg⟩:=ew p.1 HX.o.2.1;have G7:=D.keep (A7 W2 N) (le E D.fr.size);have et:=af.keep (A7 W2 N) B9;have a2:=eu.keep (A7 W2 N) B9;have Q8:=G7.m.blk.c8;have Q4:=G7.m.blk.c4;obtain⟨Q30,Q31⟩:=et.q2;obtain⟨tn,bt⟩:=Oe (D7 L m (A5 m p.1))
    obtain⟨pn,ba⟩:=Oe (I5 L (A5 m p.1))
    obtain⟨eb,b'⟩:=Oe (o4 (A5 m p.1))
    rw[<-bt]at de;rw[<-ba]at df;rw[<-b']at dg;have QE0:=a2.cell _ _ de;have QE1:=a2.cell _ _ df;have QE2:=a2.cell _ _ dg;have co:=ab.o.2.2.2.2.1 _ (a6c HX.o.2.1);have gf:tn<=1001:=by rw[bt];exact b2B co
    have gd:pn<=2:=by rw[ba];exact b3z
    have dw:eb=true->pn=0:=λe=>by rw[ba];rw[b']at e;exact b3j e
    have ga:=HX.o.2.2;have b2:=A1 D;have d5:=A1 af
    have d4:X (∀d∈m.h,G0 d p.1=true->(m.s≠0->sq s2.seen d.t 1=true)/\(m.s=0->wq s2.wrong p.1=true)):=λd hd=>by
     obtain⟨i,hi,rfl⟩:=uh hd;exact al i hi hi
    have bc:=A1 bq;have ef:X (N5 L m p.1 p.2=(decide (tn<=p.2)&&decide (p.2-tn+pn<=m.s))):=by unfold X N5;rw[bt,ba]
    have d6:X (a0m L m p.1 p.2=p.2-tn+pn):=by unfold X a0m;rw[bt,ba]
    have fe:=A1 b';have bx:=A1 (λW=>b1G W ta ua tn tk pn uk p.2 m.s eb Oo Oo Oo Oo);clear al bq D af eu ew G7 et a2 de df dg bt ba b' co;have fv:(p.1:Int)<(m.c.length:Int):=by have:=HX.o.2.1;omega
    by_cases hroom:tn<=p.2/\p.2-tn+pn<=m.s
    ·have dm:∃bh:Int,a1o tn pn p.2 m.s eb= .tuple #[.int I bh, G true]/\(eb=false->bh=((p.2-tn+pn:Nat):Int)):=by
      unfold a1o;cases eb with
      |true=>exact⟨0,by simp[hroom.1],λe=>by cases e⟩
      |false=>exact⟨(p.2:Int)-tn+pn,by simp[hroom.1,show(p.2:Int)-tn+pn<=m.s by omega],λ_=>by omega⟩
     obtain⟨bh,bi,ai⟩:=dm;rw[bi]at bx;have bf:X (N5 L m p.1 p.2=true/\(eb=false->bh=((p.2-tn+pn:Nat):Int))/\p.2-tn+pn<=m.s):=⟨by rw[ef.o];simp[hroom],ai,hroom.2⟩
     clear bi ai hroom dw;go_upto_region 13 with fail
     refine lq (S:=(λw'=>w'.cell? (A b 8 N)=O (V (O (A eg 0 N)) m.c.length m.c.length)/\w'.cell? (A b 4 N)=O (.int I m.s)/\w'.cell? (A B3 0 N)=O (.int I p.1)/\w'.cell? (A B3 1 N)=O (.int I p.2)/\w'.cell? (A eg (p.1*3) N)=O (V ta tn tk)/\w'.cell? (A eg (p.1*3+1) N)=O (V ua pn uk)/\w'.cell? (A eg (p.1*3+2) N)=O (G eb))) Ok0 (⟨Q8,Q4,Q30,Q31,QE0,QE1,QE2⟩) (λC=> ?_);refine A3 0 ?_;refine A3 1 ?_;refine A3 2 ?_;refine A3 3 ?_;refine A3 4 ?_;refine A3 5 ?_;refine A3 6 ?_;refine A3 7 ?_;refine A3 8 ?_;refine A3 9 ?_;refine A3 10 ?_;refine A3 11 ?_;refine A3 12 ?_;refine A3 13 ?_;refine A3 14 ?_;refine F3 15 λK hK=> ?_;go_simp
     go_wp2_with (go_at_call 275;refine(bx.o _).mono ?_;rintro e F ⟨rfl,hg3⟩)
     refine hK.o _ _ ?_ (λC=> ?_)
     case refine_1=>exact c6t
     try clear hK K
     try simp only[lh,lz]
     refine A3 16 ?_;refine A3 17 ?_;refine A3 18 ?_;refine A3 19 ?_;refine A3 20 ?_;refine lr Ok0 ?_ _;go_upto_region 16 with fail
     have am:=A0 (A7 W2 N) hg3;have aw:=b2.o.keep am (le E b2.o.fr.size);have v:=aw.keep (A7 F N) (le E aw.fr.size);have B:=d5.o.keep (A0 am (A7 F N)) B9;obtain⟨pc,bs,-,a'⟩:=C0.low fn.o v.fr cr p.1 HX.o.2.1;obtain⟨i,hi⟩:=Oe (A5 m p.1)
     have ev:m.c[p.1]'HX.o.2.1=i:=by rw[hi];unfold A5;simp[HX.o.2.1]
     rw[ev]at a';subst bs;have R6:=v.m.blk.c6;have ei:=B.c0;have ej:F.drew.cell? (pc.add (p.1*4))=O (.int I i.o):=a' 0 _ rfl;have ek:F.drew.cell? (A ((pc.add (p.1*4)).block) ((pc.add (p.1*4)).off+1) N)=O (.int I i.a):=by rw[C2 pc (p.1*4) 0];exact a' 1 _ rfl
     have el:F.drew.cell? (A ((pc.add (p.1*4)).block) ((pc.add (p.1*4)).off+2) N)=O (Z i.c):=by rw[C2 pc (p.1*4) 1];exact a' 2 _ rfl
     have em:F.drew.cell? (A ((pc.add (p.1*4)).block) ((pc.add (p.1*4)).off+3) N)=O (Z i.m):=by rw[C2 pc (p.1*4) 2];exact a' 3 _ rfl
     have HI:=A1 hi;have cp:12<=i.o->i.o<=15->0<=i.a:=λh1 _=>(ab.o.2.2.2.2.2 i (by rw[hi];exact a6c HX.o.2.1)).2 Oo
     have dc:=A1 (λW=>a8P W i p.1 (by have:=HX.o.2.1;omega) cp);have b3:=A1 v;obtain⟨gl,cb⟩:=Oe (E6 i p.1)
     have d':=A1 cb;rw[<-cb]at dc;obtain⟨nl,cd⟩:=Oe gl.length
     have db:=A1 cd;have f5:nl<=2:=by rw[cd,cb];exact a8U _ _
     rw[<-cd]at dc;clear a' ev hi cp v aw B cb cd Q8 Q4 Q30 Q31 QE0 QE1 QE2;refine lq (S:=(λw'=>w'.cell? (A b 6 N)=O (V (O pc) m.c.length ck)/\w'.cell? (A B3 0 N)=O (.int I p.1)/\w'.cell? (pc.add (p.1*4))=O (.int I i.o)/\w'.cell? (A ((pc.add (p.1*4)).block) ((pc.add (p.1*4)).off+1) N)=O (.int I i.a)/\w'.cell? (A ((pc.add (p.1*4)).block) ((pc.add (p.1*4)).off+2) N)=O (Z i.c)/\w'.cell? (A ((pc.add (p.1*4)).block) ((pc.add (p.1*4)).off+3) N)=O (Z i.m))) Ok0 (⟨R6,ei,ej,ek,el,em⟩) (λC=> ?_);refine A3 0 ?_;refine A3 1 ?_;refine A3 2 ?_;refine A3 3 ?_;refine A3 4 ?_;refine A3 5 ?_;refine A3 6 ?_;refine A3 7 ?_;refine A3 8 ?_;refine A3 9 ?_;refine A3 10 ?_;refine A3 13 ?_;refine F3 11 λK hK=> ?_;go_simp
     go_wp2_with (go_at_call 268;refine(dc.o _).mono ?_;rintro e w5 ⟨an,v5,rfl,du⟩;obtain⟨a5,k5,rfl⟩:=F7 du)
     refine hK.o _ _ ?_ (λC=> ?_)
     case refine_1=>exact⟨an.cell R6 B9,an.cell ei B9,an.cell ej B9,an.cell ek B9,an.cell el B9,an.cell em B9⟩
     try clear hK K
     try simp only[lh,lz]
     refine A3 12 ?_;refine lr Ok0 ?_ _;have e5:=b3.o.m.hts.lt
     have cx:∀q',ag=O q'->q'.block<F.drew.heap.size:=λq' e=>by
      have:=b3.o.m.work;rw[e]at this;exact(K7 this rfl).2
     have fd:X (Rn3 w base b eg hg sg wg g L m pa pk (O pc) ck ha hk p (K1-1) (p.2-tn+pn) F.drew.heap.size a5 k5 gl 0 w5):=⟨s2,ag,a1,b3.o.keep an (le E b3.o.fr.size),d4.o,λi hi=>absurd hi (nq i),λq' r e1 e2 e3=>by
      have h1:=cx q' e1;have h2:(Value.slice a5 nl k5).ownBlock=O r.block:=by rw[e2];rfl
      have h3:=(K7 du h2).1;omega,by rw[<-db.o];exact du,e5,an.size⟩
     clear e5 cx;go_wp2_with fail
     go_loopg [116] nl (λgq c W=>∃j:Nat,c= .int I j/\j<=nl/\gq+j=nl/\Rn3 w base b eg hg sg wg g L m pa pk (O pc) ck ha hk p (K1-1) (p.2-tn+pn) F.drew.heap.size a5 k5 gl j W)
     case atStart=>exact⟨0,rfl,lu _,rfl,fd.o⟩
     case round=>
      obtain⟨j,rfl,hj,f8,hR⟩:=hrel;obtain⟨s3,ce,aj,ep,cj,cw,cv,br,ct,cq⟩:=hR;have aa:=A1 ep;have bw:=A1 cj;have eh:=A1 cw;have ec:=A1 cv;have a6:X (wr.ownsRow F.drew.heap.size 3 1 (V a5 gl.length k5) gl.length (gl.flatMap a0p)/\hg<F.drew.heap.size/\F.drew.heap.size<=wr.heap.size):=⟨br,ct,cq⟩
      clear ep cj cw cv br ct cq;by_cases hlt:j<nl
      ·have dt:j<gl.length:=by rw[<-db.o];exact hlt
       obtain⟨g5,c5,a3,-,cn⟩:=a6.o.1.form Oo;injection a3 with a3 ez ey
       clear ez;subst ey
       have fq:wr.cell? (A g5 j N)=O (.int I (gl.getD j 0)):=by
        have:=a6.o.1.cells (g:=g5) (by rw[a3];rfl) j (.int I (gl.getD j 0)) (by
         have h5:=a1U a0p 1 (λ_=>rfl) gl j dt 0 Oo;rw[Nat.mul_one,nk]at h5;rw[h5];simp[a0p,dt])
        rcases nd j with e2|e2
        ·subst e2;exact c8i
        ·exact c8i
       subst a3;obtain⟨x,hx⟩:=Oe (gl.getD j 0)
       rw[<-hx]at fq;have a0:x∈E6 i p.1:=by rw[<-d'.o,hx];simp[dt]
       rw[HI.o]at a0;have bu:=a9u ab.o.2.2.2.1 ab.o.2.2.2.2.2 HX.o.2.1 x a0
       have cm:eb=false:=by
        rw[fe.o];cases hee:o4 (A5 m p.1)with
        |false=>rfl
        |true=>
         have fi:(A5 m p.1).o=20\/(A5 m p.1).o=30:=by simpa[o4]using hee
         unfold E6 at a0;rw[if_pos fi]at a0;cases a0
       have bj:=bf.o.2.1 cm;have ai:=bf.o.2.2;have bm:=le E aa.o.fr.size
       have dz:Cf.G2 L m x (p.2-tn+pn):=by
        rw[<-d6.o];refine(a1c L m).2 p.1 p.2 HX.o.1 (x,a0m L m p.1 p.2) ?_;unfold X6;rw[if_pos bf.o.1];exact List.mem_append_right _ (ly.2 ⟨x,a0,rfl⟩)
       obtain⟨bn,bk⟩:=Oe (p.2-tn+pn)
       have d7:=A1 bk;rw[<-bk]at bj ai dz;have di:=bd.o wr s3 ce aj aa.o.m aa.o.snd (by have h1:=a9p s3;have h2:=aa.o.mu;have h3:=ak.o.2.2.1;omega) bm x bn bu ai;rw[<-bj]at di;have dd:=A1 di;have ay:=a6J aa.o.snd bu ai;have fc:=a7Y aa.o.snd bu ai
       have cz:X (∀w4 ad ar,O5 w4 base b eg hg sg wg g m pa pk (O pc) ck ha hk m.c.length m.s (Y5 s3 x bn) ad ar->Fx b hg wg g m.c.length ce ad wr w4->Rn3 w base b eg hg sg wg g L m pa pk (O pc) ck ha hk p (K1-1) (p.2-tn+pn) F.drew.heap.size (O (A g5 0 N)) k5 gl (j+1) w4):=λw4 ad ar ax ae=>
        ⟨_,ad,ar,aa.o.rch bm dz bu ai ax ae,λd hd hc=>⟨λe=>ay.seen _ _ ((bw.o d hd hc).1 e),λe=>ay.wrong _ ((bw.o d hd hc).2 e)⟩,λi' bp=>by
         rw[<-d7.o];by_cases e:i'=j
         ·subst e;rw[<-hx];exact fc
         ·have:=eh.o i' Oo;rw[<-d7.o]at this;exact ay.seen _ _ this,λq' r e1 e2=>by
         cases e2;rcases ae.own q' e1 with⟨q2,e3,e4⟩|e3
         ·rw[<-e4];exact ec.o q2 _ e3 rfl
         ·show g5≠q'.block;omega,by
         have h5:=aa.o.m;obtain⟨ft,h8⟩:=a6.o.1;refine⟨ft,?_⟩;rcases h8 with h8|⟨g',cap,cur,e1,e2,e3,e4⟩
         ·exact .inl h8
         ·cases e1;refine .inr ⟨g5,k5,cur,rfl,e2,?_,e4⟩;have dl:A4 wr g5 cur 3:=e3;rw[ae.block g5 cn (G8 dl h5.blk Od) (by have:=a6.o.2.1;omega) (G8 dl h5.wrong Od) (λa dk=>G8 dl (h5.rows a dk) Od) (λq' e=>ec.o q' _ e rfl)];exact e3,a6.o.2.1,le a6.o.2.2 ae.size⟩
       have fs:(j:Int)<(nl:Int):=by omega
       clear hx a0 bu cm bj ai bm dz bk di ay fc cn;go_wp2_with (go_at_call 274;refine dd.o.mono ?_;rintro e w4 ⟨rfl,ad,ar,ax,ae⟩)
       have HN:=cz.o w4 ad ar ax ae;go_roundg (gk-1)
       case measure=>omega
       case rel=>exact⟨j+1,by go_num,by omega,by omega,HN⟩
      ·have cc:j=nl:=by omega
       have d9:X (a0O w wr base b eg hg sg wg g L m pa pk (O pc) ck ha hk s3 ce aj N (K1-1)):=⟨aa.o.m,aa.o.snd,a0H.close (a:=p.1) (h:=p.2) aa.o.gone ⟨λx hx=>by
        unfold X6 at hx;rcases nu.1 hx with hx|hx
        ·split at hx
         ·cases hx
         ·rename_i ao;obtain⟨d,hd,rfl⟩:=ly.1 hx;exact(bw.o d (nf.1 hd).1 (nf.1 hd).2).1 ao
        ·rw[if_pos bf.o.1]at hx;obtain⟨y,hy,rfl⟩:=ly.1 hx;rw[<-HI.o,<-d'.o]at hy;obtain⟨k,hk,rfl⟩:=uh hy;have:=eh.o k (by rw[cc,db.o];exact hk);rw[d6.o];simpa[hk]using this,(λe=>by(rw[bf.o.1]at e;cases e)),fun⟨d,hd,hc⟩ e=>(bw.o d hd hc).2 e⟩,aa.o.zero,aa.o.mu,aa.o.fr⟩
       subst cc;go_wp2_with fail
       rw[Exit.noGoto_normal];go_wp2_with fail
       go_roundg (K1-1)
       case measure=>have:=ak.o.2.1;omega
       case rel=>exact⟨_,ce,aj,d9.o,by have:=ak.o.2.2.1;omega⟩
    ·have dm:∃bh,a1o tn pn p.2 m.s eb= .tuple #[bh, G false]:=by
      unfold a1o;cases eb with
      |true=>
       have:=dw rfl;exact⟨_,by simp[show¬tn<=p.2 by omega];rfl⟩
      |false=>exact⟨_,by
       have:(decide (tn<=p.2)&&decide ((p.2:Int)-tn+pn<=m.s))=false:=by simp;omega
       simp only[this];rfl⟩
     obtain⟨bh,bi⟩:=dm;rw[bi]at bx;have ee:X (N5 L m p.1 p.2=false):=by unfold X;rw[ef.o];simp;omega
     clear bi hroom dw;go_upto_region 13 with fail
     refine lq (S:=(λw'=>w'.cell? (A b 8 N)=O (V (O (A eg 0 N)) m.c.length m.c.length)/\w'.cell? (A b 4 N)=O (.int I m.s)/\w'.cell? (A B3 0 N)=O (.int I p.1)/\w'.cell? (A B3 1 N)=O (.int I p.2)/\w'.cell? (A eg (p.1*3) N)=O (V ta tn tk)/\w'.cell? (A eg (p.1*3+1) N)=O (V ua pn uk)/\w'.cell? (A eg (p.1*3+2) N)=O (G eb))) Ok0 (⟨Q8,Q4,Q30,Q31,QE0,QE1,QE2⟩) (λC=> ?_);refine A3 0 ?_;refine A3 1 ?_;refine A3 2 ?_;refine A3 3 ?_;refine A3 4 ?_;refine A3 5 ?_;refine A3 6 ?_;refine A3 7 ?_;refine A3 8 ?_;refine A3 9 ?_;refine A3 10 ?_;refine A3 11 ?_;refine A3 12 ?_;refine A3 13 ?_;refine A3 14 ?_;refine F3 15 λK hK=> ?_;go_simp
     go_wp2_with (go_at_call 275;refine(bx.o _).mono ?_;rintro e F ⟨rfl,hg3⟩)
     refine hK.o _ _ ?_ (λC=> ?_)
     case refine_1=>exact c6t
     try clear hK K
     try simp only[lh,lz]
     refine A3 16 ?_;refine A3 17 ?_;refine A3 18 ?_;refine A3 19 ?_;refine A3 20 ?_;refine lr Ok0 ?_ _;go_upto_region 15 with fail
     have am:=A0 (A7 W2 N) hg3;have aw:=b2.o.keep am (le E b2.o.fr.size);have v:=aw.keep (A7 F N) (le E aw.fr.size);have B:=d5.o.keep (A0 am (A7 F N)) B9;have Q0:=B.c0;have Q1:F.drew.cell? (A b 11 N)=O (V (O (A wg 0 N)) m.c.length m.c.length):=v.m.blk.cell 11 _ rfl;have bs:=HX.o.2.1;have Q2:F.drew.cell? (A wg p.1 N)=O (G (s2.wrong.getD p.1 false)):=b7 v.m.wrong p.1 _ (by simp[v.snd.len2,bs]);have Q3:=v.m.wrong.frozen p.1;have nB3:=G8 B v.m.wrong Od;have nb:=G8 v.m.blk v.m.wrong Od;have M:=v.bad HX.o.2.1 (.inl ⟨p.2,HX.o.1,ee.o⟩) (le E v.fr.size)
     have d3:wq (a2T s2 p.1).wrong p.1=true:=by
      unfold a2T;dsimp only;rw[a5s (by rw[v.snd.len2];exact HX.o.2.1)];simp
     have be:X (a0O w (F.drew.setCell (A wg p.1 N) (G true)) base b eg hg sg wg g L m pa pk ca ck ha hk (a2T s2 p.1) ag a1 N (K1-1)):=⟨M.m,M.snd,a0H.close (a:=p.1) (h:=p.2) M.gone ⟨λx hx=>by
      unfold X6 at hx;rcases nu.1 hx with hx|hx
      ·split at hx
       ·cases hx
       ·rename_i ao;obtain⟨d,hd,rfl⟩:=ly.1 hx;exact(d4.o d (nf.1 hd).1 (nf.1 hd).2).1 ao
      ·rw[ee.o]at hx;simp at hx,λ_=>d3,λ_ _=>d3⟩,M.zero,M.mu,M.fr⟩
     clear M aw v B d3;refine lq (S:=(λw'=>w'.cell? (A B3 0 N)=O (.int I p.1)/\w'.cell? (A b 11 N)=O (V (O (A wg 0 N)) m.c.length m.c.length))) Ok0 (⟨Q0,Q1⟩) (λC=> ?_);refine A3 0 ?_;refine A3 1 ?_;refine A3 2 ?_;refine A3 3 ?_;refine A3 4 ?_;refine A3 5 ?_;refine A3 6 ?_;refine F3 7 λK hK=> ?_;go_simp
     refine hK.o _ _ ?_ (λC=> ?_)
     case refine_1=>exact c6h
     try clear hK K
     try simp only[lh,lz]
     refine lr Ok0 ?_ _;go_wp2_with fail
     rw[Exit.noGoto_exit];go_wp2_with fail
     go_roundg (K1-1)
     case measure=>have:=ak.o.2.1;omega
     case rel=>exact⟨_,ag,a1,be.o,by have:=ak.o.2.2.1;omega⟩
   ·go_loopw [46] (λc W=>∃j:Nat,c= .int I j/\j<=m.h.length/\RnR w base b eg hg sg wg g L m pa pk ca ck ha hk p (K1-1) B3 j W) (λc _=>m.h.length-(intOf c).toNat)
    case atStart=>exact⟨0,rfl,lu _,ff.o⟩
    case round=>
     obtain⟨j,rfl,hj,hR⟩:=hrel;by_cases hlt:j<m.h.length
     ·obtain⟨s,ag,a1,D,af,al,bq⟩:=hR;have bc:=A1 bq;clear bq;have b5:=le E D.fr.size;obtain⟨pd,fw,-,a7⟩:=C0.low fo.o D.fr cr j hlt;obtain⟨d,hd⟩:=Oe (m.h[j])
      rw[<-hd]at a7;have dq:d∈m.h:=by rw[hd];exact np hlt
      have ex:=ab.o.2.2.2.1.hds d dq;subst fw;have y0:wr.cell? (pd.add (j*4))=O (.int I d.f):=a7 0 _ rfl;have y1:wr.cell? (A ((pd.add (j*4)).block) ((pd.add (j*4)).off+1) N)=O (.int I d.to):=by rw[C2 pd (j*4) 0];exact a7 1 _ rfl
      have y2:wr.cell? (A ((pd.add (j*4)).block) ((pd.add (j*4)).off+2) N)=O (.int I d.t):=by rw[C2 pd (j*4) 1];exact a7 2 _ rfl
      have y3:wr.cell? (A ((pd.add (j*4)).block) ((pd.add (j*4)).off+3) N)=O (Z d.c):=by rw[C2 pd (j*4) 2];exact a7 3 _ rfl
      have b0:=af.c0;have f4:=af.lt;have c4:=D.m.blk.c4;have au:=A1 D;have c':=A1 af;have ea:=A1 al;have HD:X (d=m.h[j]/\d∈m.h/\d.t<m.c.length):=⟨hd,dq,ex.2.2.1⟩
      have bb:=A1 (λW=>a8s W d p.1);clear a7 hd dq ex D af al;have f7:=au.o.m.blk.lt;have fs:(j:Int)<(m.h.length:Int):=by omega
      by_cases hcv:G0 d p.1=true
      ·rw[hcv]at bb;have bz:=A1 hcv;clear hcv;by_cases hst0:m.s=0
       ·have d0:((m.s:Int)==0)=true:=by simp[hst0]
        have av:=A1 hst0;clear hst0;go_upto_region 10 with(go_at_call 239;refine(bb.o _).mono ?_;rintro e F ⟨rfl,hg3⟩;have T:=A0 (A2 wr (H #[.int I d.f, .int I d.to, .int I d.t, Z d.c] 202) N) hg3;have fg:=T.cell c4 B9)
        have ac:=au.o.keep T (le E au.o.fr.size);have B:=c'.o.keep (A0 T (A7 F N)) B9;have Q0:=B.c0;have v:=ac.keep (A7 F N) (le E ac.fr.size);have Q1:F.drew.cell? (A b 11 N)=O (V (O (A wg 0 N)) m.c.length m.c.length):=v.m.blk.cell 11 _ rfl;have bs:=HX.o.2.1;have fv:(p.1:Int)<(m.c.length:Int):=by omega
        have Q2:F.drew.cell? (A wg p.1 N)=O (G (s.wrong.getD p.1 false)):=b7 v.m.wrong p.1 _ (by simp[v.snd.len2,bs]);have Q3:=v.m.wrong.frozen p.1;have nB3:=G8 B v.m.wrong Od;have nb:=G8 v.m.blk v.m.wrong Od;have M:=v.bad HX.o.2.1 (.inr (.inl ⟨⟨d,HD.o.2.1,bz.o⟩,⟨p.2,HX.o.1⟩,av.o⟩)) (le E v.fr.size);have eo:=B.keep (A6 F.drew (A wg p.1 N) (G true)) (λe=>nB3 (li.inj e))
        have be:X (RnR w base b eg hg sg wg g L m pa pk ca ck (O pd) hk p (K1-1) B3 m.h.length (F.drew.setCell (A wg p.1 N) (G true))):=⟨_,ag,a1,M,eo,λi hi bp hc=>⟨λe=>absurd av.o e,λ_=>by
         unfold a2T;dsimp only;rw[a5s (by rw[v.snd.len2];exact HX.o.2.1)];simp⟩,bc.o⟩
        clear M eo ac v B;refine lq (S:=(λw'=>w'.cell? (A B3 0 N)=O (.int I p.1)/\w'.cell? (A b 11 N)=O (V (O (A wg 0 N)) m.c.length m.c.length))) Ok0 (⟨Q0,Q1⟩) (λC=> ?_);refine A3 0 ?_;refine A3 1 ?_;refine A3 2 ?_;refine A3 3 ?_;refine A3 4 ?_;refine A3 5 ?_;refine A3 6 ?_;refine F3 7 λK hK=> ?_;go_simp
        refine hK.o _ _ ?_ (λC=> ?_)
        case refine_1=>exact c6h
        try clear hK K
        try simp only[lh,lz]
        refine lr Ok0 ?_ _;go_wp2_with fail
        exact⟨be.o,a0M (Fr:=a7K b B3) rfl⟩
       ·have d0:((m.s:Int)==0)=false:=by simp[hst0]
        have av:X (m.s≠0):=hst0;clear hst0;go_upto_region 11 with(go_at_call 239;refine(bb.o _).mono ?_;rintro e F ⟨rfl,hg3⟩;have T:=A0 (A2 wr (H #[.int I d.f, .int I d.to, .int I d.t, Z d.c] 202) N) hg3;have fg:=T.cell c4 B9;have gg:=hg3.cell ((A4.new wr #[.int I d.f, .int I d.to, .int I d.t, Z d.c] 202).cell 2 _ rfl) B9)
        have ac:=au.o.keep T (le E au.o.fr.size);have B:=c'.o.keep T B9;have bl:=le E ac.fr.size
        have e9:Cf.G2 L m d.t 1:=(a1c L m).2 p.1 p.2 HX.o.1 (d.t,1) (by
         unfold X6;rw[if_neg av.o];exact ue _ (ly.2 ⟨d,nf.2 ⟨HD.o.2.1,bz.o⟩,rfl⟩))
        have bg:=Nat.one_le_iff_ne_zero.2 av.o;have dd:X (lf prog 274 #[U (O (A b 0 N)), .int I d.t, .int I 1] F λe w'=>e= Y (.tuple #[])/\∃aq bv,O5 w' base b eg hg sg wg g m pa pk ca ck (O pd) hk m.c.length m.s (Y5 s d.t 1) aq bv/\Fx b hg wg g m.c.length ag aq F w'):=bd.o F s ag a1 ac.m ac.snd (by have h1:=a9p s;have h2:=ac.mu;have h3:=ak.o.2.2.1;omega) bl d.t 1 HD.o.2.2 bg;have ay:=a6J ac.snd HD.o.2.2 bg;have fb:=a7Y ac.snd HD.o.2.2 bg
        have cz:X (∀w4 ad aj,O5 w4 base b eg hg sg wg g m pa pk ca ck (O pd) hk m.c.length m.s (Y5 s d.t 1) ad aj->Fx b hg wg g m.c.length ag ad F w4->RnR w base b eg hg sg wg g L m pa pk ca ck (O pd) hk p (K1-1) B3 (j+1) w4):=λw4 ad aj ax ae=>
         ⟨_,ad,aj,ac.rch bl e9 HD.o.2.2 bg ax ae,by
          have h5:=ac.m;have fu:=ae.block B3 B.lt (G8 B h5.blk Od) (G8 B h5.hts Od) (G8 B h5.wrong Od) (λa dk=>G8 B (h5.rows a dk) Od) bc.o
          exact fu.trans B,λi hi bp hc=>⟨λ_=>by
           by_cases e:i=j
           ·subst e;rw[<-HD.o.1];exact fb
           ·exact ay.seen _ _ ((ea.o i Oo bp hc).1 av.o),λe=>absurd e av.o⟩,λq' e'=>by
           rcases ae.own q' e' with⟨q2,e2,e3⟩|e2
           ·rw[<-e3];exact bc.o q2 e2
           ·have:=B.lt;omega⟩
        clear ac B bl e9 bg ay fb;go_wp2_with (go_at_call 274;refine dd.o.mono ?_;rintro e w4 ⟨rfl,ad,aj,ax,ae⟩)
        have HN:=cz.o w4 ad aj ax ae;go_roundw
        case rel=>exact⟨j+1,by go_num,by omega,HN⟩
        case measure=>simp[intOf];omega
      ·have bo:G0 d p.1=false:=by simpa using hcv
       rw[bo]at bb;have bz:=A1 bo;clear hcv bo;go_wp2_with (go_at_call 239;refine(bb.o _).mono ?_;rintro e F ⟨rfl,hg3⟩)
       have T:=A0 (A2 wr (H #[.int I d.f, .int I d.to, .int I d.t, Z d.c] 202) N) hg3
       have HN:X (RnR w base b eg hg sg wg g L m pa pk ca ck (O pd) hk p (K1-1) B3 (j+1) F):=⟨s,ag,a1,au.o.keep T (le E au.o.fr.size),c'.o.keep T B9,λi hi bp hc=>by
        by_cases e:i=j
        ·subst e;rw[<-HD.o.1,bz.o]at hc;cases hc
        ·exact ea.o i Oo bp hc,bc.o⟩
       go_roundw
       case rel=>exact⟨j+1,by go_num,by omega,HN.o⟩
       case measure=>simp[intOf];omega
     ·have cc:j=m.h.length:=by omega
      subst cc;have be:=A1 hR;clear hR;go_wp2_with fail
      exact⟨be.o,a0M (Fr:=a7K b B3) rfl⟩
theorem b8F(w:ld)(n:Nat)(C:n<=4000000000):lf prog 318 #[.int .u64 1, .int .u64 n] w λe w'=>e= Y (.tuple #[.int .u64 0, .int .u64 n])/\w'=w:=by
 have d:bits .and .u64 1 4294967295=1:=by kernel_rfl
 have j:bits .and .u64 (n:Int) 4294967295=(n:Int):=by
  rw[Mul64.maskN n Oo];congr 1;omega
 have q:(n:Int)/4294967296=0:=by omega
 have v:=Mul64.wrapN n Oo;have y:IntKind.u64.wrap 0=0:=by kernel_rfl
 have B:bits .and .u64 0 4294967295=0:=by kernel_rfl
 go_enter func318,ntmps318;go_wp2_with fail
 go_ret2
 exact⟨rfl,rfl⟩
theorem b3F(w:ld)(n:Nat)(j:n<=4000000000):lf prog 265 #[.int .u64 1, .int .u64 n] w λe w'=>e= Y (.tuple #[.int .u64 0, .int .u64 n])/\w'=w:=by
 have d:=b8F w n j;go_enter func265,ntmps265;go_wp2_with (go_at_call 318;refine d.mono ?_;rintro e w' ⟨rfl,q⟩;rw[q])
 go_ret2
 exact⟨rfl,rfl⟩
open Go.RowKit Cf
variable {P:Program}
theorem b6c(w:ld)(dT sT ty elem:lo)(g o dLen dCap:Nat)(a:lb)(sLen sCap:Nat)(cur:Array lg)(t:lo)(cs:List lg)(sz:Nat)
 (hu:P.underlying dT=O (.slice elem)) (hs:(P.info? elem).map (·.size)=O sz)
 (hg:w.heap[g]? =O (H cur t (0,0))) (hn:cs.length=nj sLen dLen*sz)
 (hsrc:∀j v,cs[j]? =O v->w.cell? (a.add j)=O v) (hfit:o+cs.length<=cur.size) (h1:∀v∈cs,v.oneCell'=true):
 (Builtin.copy_ #[dT,sT] ty #[.slice (O (A g o N)) dLen dCap, .slice (O a) sLen sCap]).run P w=
   .ok (goInt (nj sLen dLen)) (w.setRow g (cur.toList.take o++cs++cur.toList.drop (o+cs.length)).toArray):=by
 have hl:=run_loadCells_list (P:=P) w a cs hsrc;have hst:=run_storeCells_at P g o t cs 0 cur w hg (by simpa using hfit) h1;cases hq:P.info? elem with
 |none=>simp[hq]at hs
 |some i=>
  have hi:i.size=sz:=by simpa[hq]using hs
  simp[Builtin.copy_,run_underlying hu,Builtin.lenOf,Builtin.firstCells,sizeOf,typeInfo,hq,hi,<-hn,hl,hst]
variable {w:World}{o:Oper}{a:Act}{Q:Exit->Act->World->Prop}
theorem a8k{K:Act->ld->Prop}(d s:Operand)(dT sT:lo)
 (ho:o.op= .call {callee:= .builtin .copy,args:= #[d,s],argTypes:= #[dT,sT]}) (elem:lo) (sz:Nat) (hu:P.underlying dT=O (.slice elem)) (hsz:(P.info? elem).map (·.size)=O sz)
 (g off:Nat) (sp:lb) (dLen dCap sLen sCap:Nat) (hd:a.eval d= .slice (O (A g off N)) dLen dCap) (hs:a.eval s= .slice (O sp) sLen sCap)
 (cur:List lg) (t:lo) (hg:X (w.heap[g]? =O (H cur.toArray t (0,0)))) (cs:List lg) (m:Nat) (hm:m=nj sLen dLen) (hn:cs.length=m*sz)
 (hsrc:∀j v,cs[j]? =O v->w.cell? (sp.add j)=O v)
 (hfit:off+cs.length<=cur.length) (h1:∀v∈cs,v.oneCell'=true)
 (h:∀w',X (w'.heap[g]? =O (H (na cur off cs).toArray t (0,0)))->w.grownBy w' (O g)->K (a.put o.dst (goInt m)) w'):
 o.wp P a w K Q:=by
 subst hm;have hrun:=b6c (P:=P) w dT sT o.type elem g off dLen dCap sp sLen sCap cur.toArray t cs sz hu hsz hg.o hn hsrc (by simpa using hfit) h1;unfold Oper.wp;simp only[execOp,ho,resolve,invoke,builtin,Sem.run_bind,Sem.run_pure,Result.andThen_ok,List.map_toArray,ns,List.map_nil,hd,hs,hrun];refine h _ (show _=_ by simpa[na]using setRow_heap w g _ _ t _ hg.o) ⟨rfl,rfl,rfl,by simp[World.setRow],λk _ hk=>setRow_other w g k _ (λe=>hk (by rw[e]))⟩
theorem b0l{ops:Array Oper}{rest:List Oper}(hgd:o.guard=N)(d s:Operand)(dT sT:lo)
 (ho:o.op= .call {callee:= .builtin .copy,args:= #[d,s],argTypes:= #[dT,sT]}) (elem:lo) (sz:Nat) (hu:P.underlying dT=O (.slice elem)) (hsz:(P.info? elem).map (·.size)=O sz)
 (g off:Nat) (sp:lb) (dLen dCap sLen sCap:Nat) (hd:a.eval d= .slice (O (A g off N)) dLen dCap) (hs:a.eval s= .slice (O sp) sLen sCap)
 (cur:List lg) (t:lo) (hg:X (w.heap[g]? =O (H cur.toArray t (0,0)))) (cs:List lg) (m:Nat) (hm:m=nj sLen dLen) (hn:cs.length=m*sz)
 (hsrc:∀j v,cs[j]? =O v->w.cell? (sp.add j)=O v)
 (hfit:off+cs.length<=cur.length) (h1:∀v∈cs,v.oneCell'=true)
 (h:∀w',X (w'.heap[g]? =O (H (na cur off cs).toArray t (0,0)))->w.grownBy w' (O g)->wpList P ops Q rest (a.put o.dst (goInt m)) w'):
 wpList P ops Q (o::rest) a w:=
 wpList_plain hgd λ_ hK=>a8k d s dT sT ho elem sz hu hsz g off sp dLen dCap sLen sCap hd hs cur t hg cs m hm hn hsrc hfit h1 λw' h2 h3=>hK _ _ (h w' h2 h3)
def E4(n:Nat)(c:List lg):List lg:=(lw n c).flatten
theorem a1A(n:Nat)(c:List lg):(E4 n c).length=n*c.length:=by simp[E4]
theorem a9j(m n:Nat)(c:List lg):E4 (m+n) c=E4 m c++E4 n c:=by
 unfold E4;rw[<-List.replicate_append_replicate,List.flatten_append]
theorem a9i(c:List lg):E4 1 c=c:=by simp[E4]
theorem b2G(c:List lg):E4 0 c=[]:=by simp[E4]
variable {m n:Nat}
theorem b2H(c:List lg)(h:m<=n):(E4 n c).take (m*c.length)=E4 m c:=by
 obtain⟨d,rfl⟩:∃d,n=m+d:=⟨n-m,by omega⟩
 rw[a9j,ui (by rw[a1A];exact lp _),nr (by rw[a1A];exact lp _)]
variable {c:List Value}
theorem a7p{v:lg}(h:v∈E4 n c):v∈c:=by
 unfold E4 at h;obtain⟨l,e,d⟩:=List.mem_flatten.1 h;rw[List.eq_of_mem_replicate e]at d;exact d
theorem a6L{L:List lg}{k:Nat}(h:L.take (k*c.length)=E4 k c)(d:(k+m)*c.length<=L.length):
 (na L (k*c.length) (E4 m c)).length=L.length/\(na L (k*c.length) (E4 m c)).take ((k+m)*c.length)=E4 (k+m) c:=by
 rw[Nat.add_mul]at d;refine⟨length_splice _ _ _ (by rw[a1A];exact d),?_⟩;unfold na;rw[h,<-List.append_assoc,<-a9j,ui (by rw[a1A];exact lp _),nr (by rw[a1A];exact lp _)]
theorem b6e{α:Type}(enc:α->List lg)(n:Nat)(x:α):E4 n (enc x)=(lw n x).flatMap enc:=by
 simp[E4,List.flatMap]
end Kx
end
end Go.Proofs.YtdhophglnhcjbaaGreatDoor
