/- P03: a part of the proof that the last text tells. -/
import Derived.Test.YtdhophglnhcjbaaGreatDoorP02
import Derived.Carry
import Derived.Deep.MidRow
import Derived.Laws.EntriesVeiled
import Derived.Lib.Strings
import Derived.Lib.Walk
import Derived.Lib.BufferWrite
import Derived.Lib.UnsafeStr
set_option linter.all false
set_option maxRecDepth 100000
set_option maxHeartbeats 40000000
open Go.Proofs.Tryz
open Go renaming World->la,Value->lb,Calls->ld,bodyPost_ret->lg,results->lh,maxLen->ln,Ending->lq,plainElem->nf,info_parts->nh
open Nat renaming le_refl->le,zero_le->lr,le_trans->lu,lt_of_lt_of_le->nl,reduceAdd->ug,reduceSub->uh,pow_le_pow_right->un
open Go.RowKit renaming intOf->lf,Below->lj,wrap64->ll,run_makeMap->ng
open ByteArray renaming empty->li,mk->ls
open Go.World renaming ownsRow->lk,ownsRow_nil->lw,ownsMap_made->nb,size_alloc->nc
open List renaming range->lm,length_append->lv,append_nil->lx,take_succ_eq_append_getElem->ly,getElem_of_mem->na,getElem_mem->nd,nil_append->nj,getElem?_eq_some_iff->nn,getElem_range->no,mem_of_mem_take->np,take_zero->nt,mem_append->nu,take_length->nv,range'->nw,range'_succ->nx,map_cons->ny,getElem?_append_left->ua,all_eq_true->uc,size_toArray->ud,length_cons->ue,length_nil->uf,push_toArray->uk,append_toArray->ul,cons_append->um
open Bool renaming eq_iff_iff->ni,and_eq_true->ub
open Array renaming length_toList->nk,replicate_succ->ui,replicate_zero->uj,getD_eq_getD_getElem?->uo
open Option renaming some->nz
open Option renaming none→N,some→O
open Go.IntKind renaming i64→I
open Go.Value renaming int→J,string→Z,slice→V,pointer→U,bool→G,agg→Q
open Go.Ending renaming returned→Y
open Go.RowKit renaming Hid→X
open Go.Obj renaming cells→H
open Go.Addr renaming mk→A
namespace Go.Proofs.YtdhophglnhcjbaaGreatDoor
section
theorem a0t{P:Prop}(h:P:=by
 have HNO:=A1 (λj' (hj':j'<n)=>hall.o j' Oo);have HLN:Hid (a8 fs=a0Y fs (r+1)):=by unfold Hid;rw[hla.o,a4S fs hlt (λj' hj'=>HNO.o j' (by rw[HN.o];exact hj'))]
 go_wp2_with fail
 exact⟨⟨r+1,by omega,by go_num,HLN,by
  intro k hk j' hj';rcases Nat.lt_or_ge k r with h1|h1
  ·exact hno.o k h1 j' hj'
  ·obtain rfl:k=r:=by omega
   exact HNO.o j' (by rw[HN.o];exact hj'),hgx⟩,by simp[intOf];omega⟩):P:=h
theorem a0v{P:Prop}(h:P:=by
 go_roundw
 case rel=>exact⟨j+1,by omega,by go_num,by
  intro j' hj';rcases Nat.lt_or_ge j' j with h1|h1
  ·exact hall.o j' h1
  ·obtain rfl:j'=j:=by omega
   exact HBV.o,A0 hgx.o hg5,hbx.o.keep hg5 Os⟩
 case measure=>simp[intOf];omega):P:=h
theorem b0g{P:Prop}(h:P:=by
 clear hcell;go_wp2_with fail
 rw[HW.o];refine(a1f w1 b f _ _ 5 (st1.t-1) hsf Oo).mono ?_;rintro e w4 ⟨rfl,hg4,hs4⟩;go_wp2_with fail
 go_ret;exact .err (er:=(5,st1.t-1)) ByteArray.empty (by rw[HR.o];exact HF.o Oo) (A0 hg1 hg4) rfl hs4):P:=h
theorem c5i{P:Prop}(h:P:=by
 exact⟨0,by omega,rfl,λj hj=>by omega,HGX0,HBX⟩):P:=h
theorem c6a{P:Prop}(h:P:=by
 have:=HCL.o;rw[hrk]at this⊢;exact this):P:=h
theorem c6o{P:Prop}(h:P:=by
 have:=HC.2;have:=HI.o.t;have:=HI.o.fits;unfold Hid wrap64;omega):P:=h
theorem c6p{P:Prop}(h:P:=by
 have:=h a s3 h1;subst this;simp[a0n,F5,a1l,E3,h1]):P:=h
end
section
open Go.RowKit Go.Shelf Cf
namespace Kx
def Gm(w:la)(B b:Nat)(v:lb)(m1 m2 m3:Nat)(L:List Cl)(q:Nat->Qs):Prop:=
 Am w B b v m1 m2 m3 L.length (S7 N1 L).length (S7 I8 L).length (T7 (x9 L)) (T7 (S7 N1 L)) (T7 (S7 I8 L)) L.length ((lm L.length).flatMap (M6 L q))
theorem a8R(c:Cl)(d:List ByteArray):(K6 c d).length=d.length:=by unfold K6;simp
theorem b3l(l m:List (Ky×Nat)):T7 (l++m)=m.foldl I6 (T7 l):=by unfold T7;rw[List.foldl_append]
theorem a6l(L:List Cl)(c:Cl):cl (L++ [c]) L.length=c:=by have:=a6A (l:=L) (m:=[c]) (i:=0);simp[cl]
theorem Gm.of{w:la}{B b:Nat}{v:lb}{m1 m2 m3:Nat}{L:List Cl}{q:Nat->Qs}{c:Cl}
 (h:Am w B b v m1 m2 m3 (L.length+1) ((S7 N1 L).length+c.f.length) ((S7 I8 L).length+c.m.length) (I6 (T7 (x9 L)) (U3 c.n,L.length)) ((K6 c (N1 c)).foldl I6 (T7 (S7 N1 L))) ((K6 c (I8 c)).foldl I6 (T7 (S7 I8 L))) (L.length+1) ((lm L.length).flatMap (M6 L q)++G9 c (q L.length))):Gm w B b v m1 m2 m3 (L++ [c]) q:=by
 unfold Gm
 rw[b1j,b9k,b2d,b2d,b3l,b3l,lv,lv,lv,a8R,a8R,List.length_singleton,
  show(N1 c).length=c.f.length from by unfold N1;simp,show(I8 c).length=c.m.length from by unfold I8;simp]
 have e:(lm (L.length+1)).flatMap (M6 (L++ [c]) q)=(lm L.length).flatMap (M6 L q)++G9 c (q L.length):=by
  rw[List.range_succ,List.flatMap_append];congr 1
  ·refine a5P (λi hi=> ?_);unfold M6;rw[U0 (List.mem_range.1 hi)]
  ·simp only[List.flatMap_cons,List.flatMap_nil,lx,M6,a6l]
 rw[e];exact h
theorem b3G{f:Cl->List ByteArray}{L:List Cl}(h:∀c∈L,(f c).length<=255)(g:L.length<=64):(S7 f L).length<=64*255:=by
 unfold S7;have:=a9w (f:=λc=>K6 c (f c)) (c:=255) (l:=L) (λc d=>by rw[a8R];exact h c d);exact lu this (Nat.mul_le_mul_right _ g)
def Okc(c:Cl):Prop:=c.n.size<=ln/\c.s.size<=ln/\(∀x∈N1 c,x.size<=ln)/\(∀x∈I8 c,x.size<=ln)/\c.f.length<=255/\c.m.length<=255
theorem b3t(w:la)(B b:Nat)(v:lb)(m1 m2 m3:Nat)(L:List Cl)(q:Nat->Qs)(lim:Nat)(h:Gm w B b v m1 m2 m3 L q)(C:B<=w.heap.size)(K:lim<=B)(c:Cl)(g:Qs)(M:q L.length=g)(D:C0 w lim 3 K3 g.fa c.f)(E:PM w lim g.ma c.m)(d:Okc c)(S:L.length<=63)(hok:∀c∈L,Okc c):
 ld prog 157 #[U (O (A b 0 N)), Q (G9 c g).toArray] w λe w'=>e= Y (.tuple #[])/\lj B w w'/\∃j,Gm w' B b j m1 m2 m3 (L++ [c]) q:=by
 have T:=b3G (f:=N1) (L:=L) (λc d=>by have:=(hok c d).2.2.2.2.1;unfold N1;simpa using this) Oo;have W:=b3G (f:=I8) (L:=L) (λc d=>by have:=(hok c d).2.2.2.2.2;unfold I8;simpa using this) Oo;refine(c2z w B b v m1 m2 m3 _ _ _ _ _ _ _ _ lim h C K c g D E d.2.2.2.2.1 d.2.2.2.2.2 d.1 d.2.2.1 d.2.2.2.1 Oo Oo Oo Oo).mono ?_;rintro e w' ⟨rfl,F,j,ha⟩;refine⟨rfl,F,j,Gm.of ?_⟩;rw[M];exact ha
def Bin(w:la):Prop:=1<w.heap.size/\∀i,i<9->w.cell? (A 1 (i*2) N)=O (Z (cl B6 i).n)/\w.cell? (A 1 (i*2+1) N)=O (Z (cl B6 i).s)
theorem Bin.keep{w w':la}(h:Bin w)(d:w.grownBy w' N):Bin w':=⟨nl h.1 d.size,λi hi=>⟨d.cell (h.2 i hi).1 Os,d.cell (h.2 i hi).2 Os⟩⟩
def a7N:List lb:=[Z D5, Z D4, Z G6, Z D5, Z a9V, Z G6, Z a9F, Z G6, Z a9P, Z G6, Z a9Q, Z G6, Z a9O, Z G6, Z a9o, Z G6, Z a9G, Z G6]
theorem c2x:a7N=(lm 9).flatMap λi=> [Z (cl B6 i).n, Z (cl B6 i).s]:=rfl
theorem Bin.range{w:la}(h:Bin w):w.rangeAt 1 0 a7N:=by
 intro j v d;have D:j<18:=by have:=(nn.1 d).1;exact this
 obtain⟨k,r,rfl,hk,C⟩:∃k r,j=k*2+r/\k<9/\r<2:=⟨j/2,j % 2,by omega,by omega,by omega⟩
 rw[c2x,a1U (λi=> [Value.string (cl B6 i).n,Value.string (cl B6 i).s]) 2 (λ_=>rfl) (lm 9) k (by simpa using hk) r C]at d;simp only[no]at d;have g:=h.2 k hk;rw[Nat.zero_add];rcases(by omega:r=0\/r=1)with rfl|rfl
 ·injection d with d
  rw[<-d];exact g.1
 ·injection d with d
  rw[<-d];exact g.2
theorem b7N{k:Nat}(hk:k<9)(w:la):(Instr.index 280 (Q a7N.toArray) (J I (k:Int))).run prog w= .ok (Q #[Z (cl B6 k).n, Z (cl B6 k).s]) w:=by
 rcases a3v hk with rfl|rfl|rfl|rfl|rfl|rfl|rfl|rfl|rfl<;>kernel_rfl
theorem b2Q{i:Nat}(hi:i<9):Okc (cl B6 i):=by
 rcases a3v hi with rfl|rfl|rfl|rfl|rfl|rfl|rfl|rfl|rfl<;>exact⟨by decide,by decide,(λx d=>by cases d),(λx d=>by cases d),by decide,by decide⟩
theorem b9q{k:Nat}(hk:k<9):B6.take (k+1)=B6.take k++ [cl B6 k]:=by
 have h:k<B6.length:=hk;rw[ly h,V8 h]
theorem a7g(k:Nat):∀c∈B6.take k,Okc c:=λc g=>by
 obtain⟨j,d,rfl⟩:=na (np g);rw[<-V8 d];exact b2Q d
theorem b7E(w:la)(lim:Nat)(hl:lim<=w.heap.size)(g:List Cl)(E:Nat->Qs)(a:Option Addr)(kk:Nat)(hG:X (Y3 w lim g E))(hO:X (∀c∈g,Okc c))(hR:X (C0 w lim 4 (M6 g E) a (lm g.length)))(ai:X (Bin w)):
 ld prog 100 #[V a g.length kk] w λe w'=>∃b v m1 m2 m3,e= Y (U (O (A b 0 N)))/\lj w.heap.size w w'/\Gm w' w.heap.size b v m1 m2 m3 (B6++g) (M5 E):=by
 obtain⟨n,hn⟩:=Oe g.length
 have HN:=A1 hn;have ax:n<=12:=by rw[hn];exact hG.o.few
 rw[<-hn];rw[<-hn]at hR;clear hn;have h1:=((nb (H:=Unit) w prog 9 (nf prog 3)).alloc (.map #[] 0)).alloc (.map #[] 0);have h2:=(nb (H:=Unit) (w.alloc (.map #[] 0)) prog 255 (nf prog 3)).alloc (.map #[] 0);have h3:=nb (H:=Unit) ((w.alloc (.map #[] 0)).alloc (.map #[] 0)) prog 255 (nf prog 3);have aa:lj w.heap.size w (((w.alloc (.map #[] 0)).alloc (.map #[] 0)).alloc (.map #[] 0)):=(((Below.refl _ w).alloc (le _) _).alloc Os _).alloc Oi _;have F:=ai.o.keep (show w.grownBy (((w.alloc (.map #[] 0)).alloc (.map #[] 0)).alloc (.map #[] 0)) N from A0 (A0 (A2 _ _ _) (A2 _ _ _)) (A2 _ _ _));have ao:(((w.alloc (.map #[] 0)).alloc (.map #[] 0)).alloc (.map #[] 0)).heap.size=w.heap.size+1+1+1:=by simp
 simp only[nc]at h2 h3;go_enter func100,ntmps100;go_wp2_with fail
 rw[ng];simp only[Result.andThen_ok];go_wp2_with fail
 rw[ng];simp only[Result.andThen_ok];go_wp2_with fail
 rw[ng];simp only[Result.andThen_ok,nc];generalize hW3:(((w.alloc (.map #[] 0)).alloc (.map #[] 0)).alloc (.map #[] 0))=W3 at h1 h2 h3 aa F ao⊢;clear hW3;have aj:=A4.new W3 #[V N 0 0, .map (O w.heap.size), .map (O (w.heap.size+1)), .map (O (w.heap.size+1+1))] 151;have ae:X (Gm (W3.alloc (.cells #[V N 0 0, .map (O w.heap.size), .map (O (w.heap.size+1)), .map (O (w.heap.size+1+1))] 151)) w.heap.size W3.heap.size (V N 0 0) w.heap.size (w.heap.size+1) (w.heap.size+1+1) [] (M5 E)):=⟨aj,lw _ _ _ _,h1.alloc _,h2.alloc _,h3.alloc _,by omega,by omega,by omega,by omega,by omega,by omega,by omega⟩
 have ag:X (lj w.heap.size w (W3.alloc (.cells #[V N 0 0, .map (O w.heap.size), .map (O (w.heap.size+1)), .map (O (w.heap.size+1+1))] 151))):=aa.alloc Oo _;have ah:=A1 ((F.keep (A2 W3 (.cells #[V N 0 0, .map (O w.heap.size), .map (O (w.heap.size+1)), .map (O (w.heap.size+1+1))] 151) N)).range);clear F h1 h2 h3 aa aj ao;go_wp2_with (refine wpList_load_mid rfl 280 (.global 1) rfl 1 0 rfl a7N _ ah.o underlying280 rfl rfl ?_)
 clear ah;go_loopw [14] (λi wr=>∃(k:Nat) (v:lb),k<=9/\i= J I k/\X (Gm wr w.heap.size W3.heap.size v w.heap.size (w.heap.size+1) (w.heap.size+1+1) (B6.take k) (M5 E))/\X (lj w.heap.size w wr)) (λi _=>9-(lf i).toNat)
 case atStart=>exact⟨0,_,by omega,rfl,ae,ag⟩
 case round=>
  clear ae ag;obtain⟨k,v,hk,rfl,T,M⟩:=hrel;by_cases hlt:k<9
  ·have S:=M.o.size
   have d:X (∀D,ld prog 157 #[U (O (A W3.heap.size 0 N)), Q (G9 (cl B6 k) q0).toArray] (wr.alloc D) λe w'=>e= Y (.tuple #[])/\lj w.heap.size (wr.alloc D) w'/\∃v',Gm w' w.heap.size W3.heap.size v' w.heap.size (w.heap.size+1) (w.heap.size+1+1) (B6.take (k+1)) (M5 E)):=λD=>by
    have K:(B6.take k).length=k:=by rw[List.length_take];have:B6.length=9:=rfl;omega
    rw[b9q hlt];exact b3t (wr.alloc D) w.heap.size W3.heap.size v _ _ _ _ _ 0 (Am.keep T.o (A2 _ _ _)) Oi (lr _) (cl B6 k) q0 (by rw[K,M5,if_pos hlt]) (λj hj=>by rw[(a2k hlt).1]at hj;cases hj) (λj hj=>by rw[(a2k hlt).2.1]at hj;cases hj) (b2Q hlt) (by rw[K];omega) (a7g k)
   have W:=A1 (λD=>M.o.alloc S D);have aq:=b7N hlt wr
   have ad:X (G9 (cl B6 k) q0=[Z (cl B6 k).n, Z (cl B6 k).s, V N 0 0, V N 0 0]):=by
    unfold X G9;rw[(a2k hlt).1,(a2k hlt).2.1];rfl
   rw[ad.o]at d;obtain⟨nm,am⟩:=Oe ((cl B6 k).n)
   obtain⟨sp,an⟩:=Oe ((cl B6 k).s)
   rw[<-am,<-an]at aq d;clear T am an ad;go_wp2_with (go_at_call 157;refine(d.o _).mono ?_;rintro e w4 ⟨rfl,ab,v',ac⟩)
   go_roundw
   case rel=>exact⟨k+1,v',by omega,by go_num,ac,(W.o _).trans ab⟩
   case measure=>simp[lf];omega
  ·have af:X (Gm wr w.heap.size W3.heap.size v w.heap.size (w.heap.size+1) (w.heap.size+1+1) B6 (M5 E)):=by
    have:=T.o;rw[show k=9 from by omega]at this;exact this
   have aw:decide ((k:Int)<9)=false:=by simp;omega
   clear T;go_wp2_with fail
   go_loopw [27] (λi wx=>∃(k:Nat) (v:lb),k<=n/\i= J I k/\X (Gm wx w.heap.size W3.heap.size v w.heap.size (w.heap.size+1) (w.heap.size+1+1) (B6++g.take k) (M5 E))/\X (lj w.heap.size w wx)) (λi _=>n-(lf i).toNat)
   case atStart=>exact⟨0,v,by omega,rfl,by rw[nt,lx];exact af,M⟩
   case round=>
    clear af M;obtain⟨k,v,hk,rfl,T,M⟩:=hrel;by_cases hlt2:k<n
    ·have C:k<g.length:=by rw[<-HN.o];exact hlt2
     have S:=M.o.size;obtain⟨lp,au,-,f0,f1,f2,f3⟩:=a3R (a2J hR.o M.o hl) (k:=k) (by simpa using hlt2);subst au;simp only[no]at f0 f1 f2 f3
     have d:X (∀D,ld prog 157 #[U (O (A W3.heap.size 0 N)), Q (G9 (cl g k) (E k)).toArray] (wr.alloc D) λe w'=>e= Y (.tuple #[])/\lj w.heap.size (wr.alloc D) w'/\∃v',Gm w' w.heap.size W3.heap.size v' w.heap.size (w.heap.size+1) (w.heap.size+1+1) (B6++g.take (k+1)) (M5 E)):=λD=>by
      have K:=a2l (Nat.le_of_lt C);have av:g.take (k+1)=g.take k++ [cl g k]:=by rw[ly C,V8 C]
      rw[av,<-List.append_assoc];have ak:=M.o.alloc S D;refine b3t (wr.alloc D) w.heap.size W3.heap.size v _ _ _ _ _ lim (Am.keep T.o (A2 _ _ _)) Oi hl (cl g k) (E k) (by rw[K,M5,if_neg Oo,Nat.add_sub_cancel_left]) (a2J (hG.o.f k C) ak hl) (PM.below (hG.o.meths.at C) ak hl) (hO.o _ (by rw[V8 C];exact nd C)) (by rw[K];omega) ?_;intro c hc;rcases nu.1 hc with hc|hc
      ·have:=a7g 9 c;exact this hc
      ·exact hO.o c (np hc)
     obtain⟨ci,al⟩:=Oe (cl g k)
     rw[<-al]at f0 f1 f2 f3 d;have W:=A1 (λD=>M.o.alloc S D);clear T al;go_wp2_with (go_at_call 157;refine(d.o _).mono ?_;rintro e w4 ⟨rfl,ab,v',ac⟩)
     go_roundw
     case rel=>exact⟨k+1,v',by omega,by go_num,ac,(W.o _).trans ab⟩
     case measure=>simp[lf];omega
    ·have ar:k=n:=by omega
     have ap:X (Gm wr w.heap.size W3.heap.size v w.heap.size (w.heap.size+1) (w.heap.size+1+1) (B6++g) (M5 E)):=by
      have:=T.o;rw[ar,HN.o,nv]at this;exact this
     go_wp2_with fail
     go_ret;exact⟨W3.heap.size,v,_,_,_,rfl,M.o,ap.o⟩
end Kx
namespace Cf
end Cf
namespace Kx
variable {w w':World}{B b m1 m2 m3 r:Nat}{v:Value}{L:List Cl}{q:Nat->Qs}
theorem Gm.kls(h:Gm w B b v m1 m2 m3 L q)(S:0<L.length)(hok:∀c∈L,Okc c)(T:L.length<=65536):∃p d,v= V (O p) L.length d/\L4 w w.heap.size b L p d m1 m2 m3 q:=by
 obtain⟨a,k,rfl⟩:=F7 h.own;obtain⟨g,d,E,-,K⟩:=h.own.form S;injection E with E _ hk
 subst E;have M:∀{m n k:Nat} {D:DK} {R:lb->Option (DK×List MemPlace)},w.ownsMap (H:=Unit) prog k R m n D->m<w.heap.size:=λP=>P.lt
 have hz:∀i,i<L.length->(cl L i).n.size<=ln/\(cl L i).s.size<=ln:=λi hi=>by
  have:=hok (cl L i) (by rw[V8 hi];exact nd hi);exact⟨this.1,this.2.1⟩
 refine⟨(A g 0 N),k,rfl,h.blk.lt,K,h.o1.lt,h.o2.lt,h.o3.lt,h.blk.cell 0 _ rfl,h.blk.cell 1 _ rfl,h.blk.cell 2 _ rfl,h.blk.cell 3 _ rfl,λi hi r u W=> ?_,h.o1,h.o2,h.o3,hz,T⟩;have C:=V7 (w:=w) (xs:=lm L.length) (a6f L q) (by simpa using h.own);obtain⟨p,j,-,F⟩:=C i (by simpa using hi);injection j with j
 subst j;exact F r u (by simpa[M6]using W)
def a6m(b:Nat):List lb:=[J I 7, .func (.func 158) #[U (O (A b 0 N))] #[], J I 8, .func (.func 159) #[U (O (A b 0 N))] #[], J I 9, .func (.func 160) #[U (O (A b 0 N))] #[], J I 10, .func (.func 161) #[U (O (A b 0 N))] #[], J I 11, .func (.func 162) #[U (O (A b 0 N))] #[], J I 12, .func (.func 163) #[U (O (A b 0 N))] #[]]
theorem b8h(w:la)(b:Nat):ld prog 101 #[U (O (A b 0 N))] w λe w'=>e= Y (V (O (A w.heap.size 0 N)) 6 6)/\w'=w.alloc (H (a6m b).toArray 221):=by
 go_enter func101,ntmps101;go_wp2
 go_ret;exact⟨rfl,rfl⟩
def T8(L:List Cl)(r i:Nat):Bool:=if r=0 then twP L i else if r=1 then nsP L i else if r=2 then loP L i else if r=3 then tyP L i else if r=4 then mbP L i else ovP L i
theorem Okc.sized(h:∀c∈L,Okc c):a0N N1 L/\a0N I8 L:=⟨λc d=>⟨(h c d).1,(h c d).2.2.1⟩,λc d=>⟨(h c d).1,(h c d).2.2.2.1⟩⟩
def a0Y(fs:List Cl)(r:Nat):Except Er Unit:=b9 ((nw r (6-r)).map λk i=>T8 (B6++fs) k (9+i)) fs.length (7+r)
theorem c1W(d:List Cl):a8 d=a0Y d 0:=by
 unfold a8 a0Y;simp[nw,T8]
theorem a4V(d:List Cl){i:Nat}(hk:r<6)(hi:i<d.length)(h:T8 (B6++d) r (9+i)=true)(g:∀j,j<i->T8 (B6++d) r (9+j)=false):a0Y d r= .error (7+r,i):=by
 unfold a0Y;rw[show 6-r=(5-r)+1 from by omega,nx,ny,b9,a6B hi h g]
theorem a4S(d:List Cl)(hk:r<6)(h:∀j,j<d.length->T8 (B6++d) r (9+j)=false):a0Y d r=a0Y d (r+1):=by
 unfold a0Y;rw[show 6-r=(6-(r+1))+1 from by omega,nx,ny,b9,a8f h];rfl
theorem b8K(d:List Cl):a0Y d 6= .ok ():=rfl
theorem b7S(d:List Cl)(hok:∀c∈d,a2z c)(h:∀r,r<3->∀j,j<d.length->T8 (B6++d) r (9+j)=false):C1 (B6++d):=by
 refine b1H d hok (λi hi=> ?_) (λi hi=> ?_) (λi hi=> ?_)
 ·have:=h 0 Oo i hi;rw[<-a9L d i hi];exact this
 ·have:=h 1 Oo i hi;simp only[T8,nsP]at this;rw[Y6]at this;simpa using this
 ·have:=h 2 Oo i hi;simp only[T8,loP]at this;rw[Y6]at this;simpa[up]using this
def rF(r:Nat):Nat:=[158,159,160,161,162,163].getD r 0
theorem c2v(w:la)(lim b:Nat)(L:List Cl)(p:Addr)(cap m1 m2 m3:Nat)(q:Nat->Qs)(h:L4 w lim b L p cap m1 m2 m3 q)(g:lim<=w.heap.size)(E:V9 w lim L q)(j:P8 w lim L q)(D:SzL L)(C:a0N N1 L/\a0N I8 L)(r:Nat)(K:r<6)(F:3<=r->C1 L)(i:Nat)(hi:9+i<L.length):
 ld prog (rF r) #[U (O (A b 0 N)), J I (9+(i:Int))] w λe w'=>e= Y (G (T8 L r (9+i)))/\w.grownBy w' N:=by
 have e:(9+(i:Int))=((9+i:Nat):Int):=by omega
 rw[e];rcases(by omega:r=0\/r=1\/r=2\/r=3\/r=4\/r=5)with rfl|rfl|rfl|rfl|rfl|rfl
 ·exact b6s w lim b L p cap m1 m2 m3 q h (9+i) hi
 ·exact b4U w lim b L p cap m1 m2 m3 q h (9+i) hi
 ·exact b5L w lim b L p cap m1 m2 m3 q h g (9+i) hi
 ·exact b4Z w lim b L p cap m1 m2 m3 q h g E j D (9+i) hi
 ·have d:=F Oo;exact b4V w lim b L p cap m1 m2 m3 q h g (λn=>d.up_eq n) d.dist C.1 C.2 E j D (9+i) hi
 ·have d:=F Oo;exact b4T w lim b L p cap m1 m2 m3 q h g (λn=>d.up_eq n) d.dist C.2 D j (9+i) hi
def a4b(B:Nat)(fs:List Cl)(qf:Nat->Qs)(r:Except Er Unit)(e:lq)(w':la):Prop:=match r with
 | .error er=>e= Y (.tuple #[Q #[V N 0 0, .map N, .map N, .map N], J I er.1, J I er.2])
 | .ok _=>∃b v m1 m2 m3,e= Y (.tuple #[Q #[v, .map (O m1), .map (O m2), .map (O m3)], J I 0, J I 0])/\Gm w' B b v m1 m2 m3 (B6++fs) (M5 qf)
theorem Am.far{n1 n2 n3 D k:Nat}{g j C:DK}{rows:List lb}(h:Am w B b v m1 m2 m3 n1 n2 n3 g j C D rows)(d:w.grownBy w' (O k))(hk:k<B):Am w' B b v m1 m2 m3 n1 n2 n3 g j C D rows:=by
 have E:=h.low;exact⟨h.blk.keep d Oi,h.own.kept d (.inr (F9 h.own hk)),h.o1.kept d Oi,h.o2.kept d Oi,h.o3.kept d Oi,h.d12,h.d13,h.d23,h.low⟩
theorem Gm.keep(h:Gm w B b v m1 m2 m3 L q)(d:w.grownBy w' N):Gm w' B b v m1 m2 m3 L q:=Am.keep h d
theorem c0u(w:la)(lim:Nat)(hl:lim<=w.heap.size)(fs:List Cl)(qf:Nat->Qs)(a:Option Addr)(kk:Nat)(hG:X (Y3 w lim fs qf))(hO:X (∀c∈fs,Okc c))(a5:X (∀c∈fs,a2z c))(hZ:X (SzL (B6++fs)))(hR:X (C0 w lim 4 (M6 fs qf) a (lm fs.length)))(aq:X (Bin w)):
 ld prog 60 #[V a fs.length kk] w λe w'=>w.grownBy w' N/\a4b (w.heap.size+1) fs qf (a8 fs) e w':=by
 obtain⟨n,hn⟩:=Oe fs.length
 have HN:=A1 hn;have ba:n<=12:=by rw[hn];exact hG.o.few
 rw[<-hn]
 have ao:X (∀ob,ld prog 100 #[V a n kk] (w.alloc ob) λe w'=>∃b v m1 m2 m3,e= Y (U (O (A b 0 N)))/\lj (w.heap.size+1) (w.alloc ob) w'/\Gm w' (w.heap.size+1) b v m1 m2 m3 (B6++fs) (M5 qf)):=λob=>by
  have:=b7E (w.alloc ob) lim Oi fs qf a kk (hG.o.keep (A2 _ _ _)) hO (hR.o.keep (A2 _ _ _)) (aq.o.keep (A2 _ _ _));rw[<-hn,nc]at this;exact this
 clear hn;go_enter func60,ntmps60
 go_wp2_with (first
  |(go_at_call 100;refine(ao.o _).mono ?_;rintro e w1 ⟨b,v,m1,m2,m3,rfl,ak,al⟩)
  |(go_at_call 101;refine(b8h _ b).mono ?_;rintro e w2 ⟨rfl,rfl⟩))
 have a4:(B6++fs).length=9+n:=by rw[lv,<-HN.o];rfl
 have ah:∀c∈B6++fs,Okc c:=λc hc=>(nu.1 hc).elim (a7g 9 c) (hO.o c)
 obtain⟨p,af,rfl,hK⟩:=al.kls Oo ah Oo;have ag:=a1e (((Below.refl _ w).alloc (le _) _).trans (ak.mono (Nat.le_succ _)));have av:A4 w1 w.heap.size #[V N 0 0, .map N, .map N, .map N] 151:=(ak.block w.heap.size Oo).trans (A4.new w _ _);have aj:=hG.o.keep ag;have an:fs.take fs.length=fs:=nv;have ar:V9 w1 w1.heap.size (B6++fs) (M5 qf):=by have:=aj.partF (le fs.length);rw[an]at this;exact this.upto (lu hl ag.size)
 have au:P8 w1 w1.heap.size (B6++fs) (M5 qf):=by have:=aj.partM (le fs.length);rw[an]at this;exact this.upto (lu hl ag.size)
 have aw:X (∀W r i,w1.grownBy W N->r<6->(3<=r->C1 (B6++fs))->i<n->ld prog (rF r) #[U (O (A b 0 N)), J I (9+(i:Int))] W λe w'=>e= Y (G (T8 (B6++fs) r (9+i)))/\W.grownBy w' N):=λW r i hg hr hw hi=>
  c2v W w1.heap.size b _ p af m1 m2 m3 _ (hK.keep hg (le _)) hg.size (λi hi=>(ar i hi).keep hg) (au.keep hg) hZ.o (Okc.sized ah) r hr hw i Oo
 have ay:=A1 al;have ad:=A1 ag;have aa:=A1 av;have ap:X (A4 (w1.alloc (H (a6m b).toArray 221)) w1.heap.size (a6m b).toArray 221):=A4.new w1 _ _;have a0:=A1 (c1W fs);have g:X (w1.grownBy (w1.alloc (H (a6m b).toArray 221)) N):=A2 _ _ _;clear ak al hK ag av aj an ar au ah ao;generalize hW2:w1.alloc (H (a6m b).toArray 221)=W2 at ap g⊢;clear hW2;go_loopw [14] (λi wr=>∃r:Nat,r<=6/\i= J I r/\X (a8 fs=a0Y fs r)/\X (∀k,k<r->∀j,j<fs.length->T8 (B6++fs) k (9+j)=false)/\X (W2.grownBy wr N)) (λi _=>6-(lf i).toNat)
 case atStart=>exact⟨0,by omega,rfl,a0,λk hk=>by omega,C9 _ _⟩
 case round=>
  obtain⟨r,hr,rfl,hla,hno,T⟩:=hrel;have D:=ap.o.keep T.o Os;by_cases hlt:r<6
  ·have a3:X (3<=r->C1 (B6++fs)):=λh3=>b7S fs a5.o (λk hk=>hno.o k Oo)
   have HCL:=A1 (λW i hg hi=>aw.o W r i hg hlt a3.o hi);have a2:X (decide ((r:Int)<6)=true):=by unfold X;simp;omega
   have a':decide ((r:Int)<6)=true:=by simp;omega
   clear a2;rcases(by omega:r=0\/r=1\/r=2\/r=3\/r=4\/r=5)with hrk|hrk|hrk|hrk|hrk|hrk
   ·have E:X (∀W i,w1.grownBy W N->i<n->ld prog 158 #[U (O (A b 0 N)), J I (9+(i:Int))] W λe w'=>e= Y (G (T8 (B6++fs) r (9+i)))/\W.grownBy w' N):=by
     exact c6a
    have e0:wr.cell? (A w1.heap.size (r*2) N)=O (J I 7):=by rw[hrk];exact D.cell (0*2) _ rfl
    have e1:wr.cell? (A w1.heap.size (r*2+1) N)=O (.func (.func 158) #[U (O (A b 0 N))] #[]):=by rw[hrk];exact D.cell (0*2+1) _ rfl
    have ab:X ((7:Int)=((7+r:Nat):Int)):=by rw[hrk];rfl
    clear D HCL hrk;go_wp2_with fail
    have HBX:X (A4 (wr.alloc (H #[J I 7, .func (.func 158) #[U (O (A b 0 N))] #[]] 221)) wr.heap.size #[J I 7, .func (.func 158) #[U (O (A b 0 N))] #[]] 221):=A4.new wr _ _;have HGX0:X (W2.grownBy (wr.alloc (H #[J I 7, .func (.func 158) #[U (O (A b 0 N))] #[]] 221)) N):=A0 T.o (A2 _ _ _);clear e0 e1;have S:¬(wr.heap.size=w.heap.size):=by have:=aa.o.lt;have:=g.o.size;have:=T.o.size;omega
    have ac:¬(w.heap.size=wr.heap.size):=λe=>S e.symm
    go_loopw [20] (λi wx=>∃j:Nat,j<=n/\i= J I j/\X (∀j',j'<j->T8 (B6++fs) r (9+j')=false)/\X (W2.grownBy wx N)/\X (A4 wx wr.heap.size #[J I 7, .func (.func 158) #[U (O (A b 0 N))] #[]] 221)) (λi _=>n-(lf i).toNat)
    case atStart=>exact c5i
    case round=>
     clear HGX0 HBX;obtain⟨j,hj,rfl,hall,hgx,hbx⟩:=hrel;by_cases hlj:j<n
     ·have d1:=hbx.o.c1;obtain⟨bv,F⟩:=Oe (T8 (B6++fs) r (9+j))
      have HBV:=A1 F.symm;clear F;cases bv with
      |true=>
       go_wp2_with (go_at_call 158;refine(E.o _ j (A0 g.o hgx.o) hlj).mono ?_;rintro e w5 ⟨rfl,hg5⟩;rw[HBV.o])
       have d0:=(hbx.o.keep hg5 Os).cell 0 _ rfl;have C:=A1 (aa.o.keep (A0 g.o (A0 hgx.o hg5)) Os);obtain⟨r0,r1,r2,r3⟩:=C.o.q4;obtain⟨z0,z1,z2,z3⟩:=C.o.z4;have K:=A0 ad.o (A0 g.o (A0 hgx.o hg5));go_region
       all_goals
        have d:=A4.keep (row:=N) ((((C.o.set 0 (V N 0 0)).set 1 (.map N)).set 2 (.map N)).set 3 (.map N)) (A7 _ N) Os;have M:=A0 (a1i (w:=w) K (le _) (i:=0) (j:=1) (k:=2) (l:=3) (x:= V N 0 0) (y:= .map N) (z:= .map N) (u:= .map N)) (A7 _ N);clear r0 r1 r2 r3 z0 z1 z2 z3 d0 d1;generalize ((((w5.setCell (A w.heap.size 0 N) (V N 0 0)).setCell (A w.heap.size 1 N) (.map N)).setCell (A w.heap.size 2 N) (.map N)).setCell (A w.heap.size 3 N) (.map N)).drew=W6 at d M⊢;have q0:=d.c0;have q1:=d.c1;have q2:=d.c2;have q3:=d.c3;go_wp2_with fail
        refine lg (v:= .tuple #[Q #[V N 0 0, .map N, .map N, .map N], J I 7, J I j]) (by simp[lh,results60,go_sem,q0,q1,q2,q3]) rfl ⟨M,?_⟩;rw[hla.o,a4V fs hlt (by rw[<-HN.o];exact hlj) HBV.o hall.o];unfold a4b;rw[ab.o]
      |false=>
       go_wp2_with (go_at_call 158;refine(E.o _ j (A0 g.o hgx.o) hlj).mono ?_;rintro e w5 ⟨rfl,hg5⟩;rw[HBV.o])
       exact a0v
     ·exact a0t
   ·have E:X (∀W i,w1.grownBy W N->i<n->ld prog 159 #[U (O (A b 0 N)), J I (9+(i:Int))] W λe w'=>e= Y (G (T8 (B6++fs) r (9+i)))/\W.grownBy w' N):=by
     exact c6a
    have e0:wr.cell? (A w1.heap.size (r*2) N)=O (J I 8):=by rw[hrk];exact D.cell (1*2) _ rfl
    have e1:wr.cell? (A w1.heap.size (r*2+1) N)=O (.func (.func 159) #[U (O (A b 0 N))] #[]):=by rw[hrk];exact D.cell (1*2+1) _ rfl
    have ab:X ((8:Int)=((7+r:Nat):Int)):=by rw[hrk];rfl
    clear D HCL hrk;go_wp2_with fail
    have HBX:X (A4 (wr.alloc (H #[J I 8, .func (.func 159) #[U (O (A b 0 N))] #[]] 221)) wr.heap.size #[J I 8, .func (.func 159) #[U (O (A b 0 N))] #[]] 221):=A4.new wr _ _;have HGX0:X (W2.grownBy (wr.alloc (H #[J I 8, .func (.func 159) #[U (O (A b 0 N))] #[]] 221)) N):=A0 T.o (A2 _ _ _);clear e0 e1;have S:¬(wr.heap.size=w.heap.size):=by have:=aa.o.lt;have:=g.o.size;have:=T.o.size;omega
    have ac:¬(w.heap.size=wr.heap.size):=λe=>S e.symm
    go_loopw [20] (λi wx=>∃j:Nat,j<=n/\i= J I j/\X (∀j',j'<j->T8 (B6++fs) r (9+j')=false)/\X (W2.grownBy wx N)/\X (A4 wx wr.heap.size #[J I 8, .func (.func 159) #[U (O (A b 0 N))] #[]] 221)) (λi _=>n-(lf i).toNat)
    case atStart=>exact c5i
    case round=>
     clear HGX0 HBX;obtain⟨j,hj,rfl,hall,hgx,hbx⟩:=hrel;by_cases hlj:j<n
     ·have d1:=hbx.o.c1;obtain⟨bv,F⟩:=Oe (T8 (B6++fs) r (9+j))
      have HBV:=A1 F.symm;clear F;cases bv with
      |true=>
       go_wp2_with (go_at_call 159;refine(E.o _ j (A0 g.o hgx.o) hlj).mono ?_;rintro e w5 ⟨rfl,hg5⟩;rw[HBV.o])
       have d0:=(hbx.o.keep hg5 Os).cell 0 _ rfl;have C:=A1 (aa.o.keep (A0 g.o (A0 hgx.o hg5)) Os);obtain⟨r0,r1,r2,r3⟩:=C.o.q4;obtain⟨z0,z1,z2,z3⟩:=C.o.z4;have K:=A0 ad.o (A0 g.o (A0 hgx.o hg5));go_region
       all_goals
        have d:=A4.keep (row:=N) ((((C.o.set 0 (V N 0 0)).set 1 (.map N)).set 2 (.map N)).set 3 (.map N)) (A7 _ N) Os;have M:=A0 (a1i (w:=w) K (le _) (i:=0) (j:=1) (k:=2) (l:=3) (x:= V N 0 0) (y:= .map N) (z:= .map N) (u:= .map N)) (A7 _ N);clear r0 r1 r2 r3 z0 z1 z2 z3 d0 d1;generalize ((((w5.setCell (A w.heap.size 0 N) (V N 0 0)).setCell (A w.heap.size 1 N) (.map N)).setCell (A w.heap.size 2 N) (.map N)).setCell (A w.heap.size 3 N) (.map N)).drew=W6 at d M⊢;have q0:=d.c0;have q1:=d.c1;have q2:=d.c2;have q3:=d.c3;go_wp2_with fail
        refine lg (v:= .tuple #[Q #[V N 0 0, .map N, .map N, .map N], J I 8, J I j]) (by simp[lh,results60,go_sem,q0,q1,q2,q3]) rfl ⟨M,?_⟩;rw[hla.o,a4V fs hlt (by rw[<-HN.o];exact hlj) HBV.o hall.o];unfold a4b;rw[ab.o]
      |false=>
       go_wp2_with (go_at_call 159;refine(E.o _ j (A0 g.o hgx.o) hlj).mono ?_;rintro e w5 ⟨rfl,hg5⟩;rw[HBV.o])
       exact a0v
     ·exact a0t
   ·have E:X (∀W i,w1.grownBy W N->i<n->ld prog 160 #[U (O (A b 0 N)), J I (9+(i:Int))] W λe w'=>e= Y (G (T8 (B6++fs) r (9+i)))/\W.grownBy w' N):=by
     exact c6a
    have e0:wr.cell? (A w1.heap.size (r*2) N)=O (J I 9):=by rw[hrk];exact D.cell (2*2) _ rfl
    have e1:wr.cell? (A w1.heap.size (r*2+1) N)=O (.func (.func 160) #[U (O (A b 0 N))] #[]):=by rw[hrk];exact D.cell (2*2+1) _ rfl
    have ab:X ((9:Int)=((7+r:Nat):Int)):=by rw[hrk];rfl
    clear D HCL hrk;go_wp2_with fail
    have HBX:X (A4 (wr.alloc (H #[J I 9, .func (.func 160) #[U (O (A b 0 N))] #[]] 221)) wr.heap.size #[J I 9, .func (.func 160) #[U (O (A b 0 N))] #[]] 221):=A4.new wr _ _;have HGX0:X (W2.grownBy (wr.alloc (H #[J I 9, .func (.func 160) #[U (O (A b 0 N))] #[]] 221)) N):=A0 T.o (A2 _ _ _);clear e0 e1;have S:¬(wr.heap.size=w.heap.size):=by have:=aa.o.lt;have:=g.o.size;have:=T.o.size;omega
    have ac:¬(w.heap.size=wr.heap.size):=λe=>S e.symm
    go_loopw [20] (λi wx=>∃j:Nat,j<=n/\i= J I j/\X (∀j',j'<j->T8 (B6++fs) r (9+j')=false)/\X (W2.grownBy wx N)/\X (A4 wx wr.heap.size #[J I 9, .func (.func 160) #[U (O (A b 0 N))] #[]] 221)) (λi _=>n-(lf i).toNat)
    case atStart=>exact c5i
    case round=>
     clear HGX0 HBX;obtain⟨j,hj,rfl,hall,hgx,hbx⟩:=hrel;by_cases hlj:j<n
     ·have d1:=hbx.o.c1;obtain⟨bv,F⟩:=Oe (T8 (B6++fs) r (9+j))
      have HBV:=A1 F.symm;clear F;cases bv with
      |true=>
       go_wp2_with (go_at_call 160;refine(E.o _ j (A0 g.o hgx.o) hlj).mono ?_;rintro e w5 ⟨rfl,hg5⟩;rw[HBV.o])
       have d0:=(hbx.o.keep hg5 Os).cell 0 _ rfl;have C:=A1 (aa.o.keep (A0 g.o (A0 hgx.o hg5)) Os);obtain⟨r0,r1,r2,r3⟩:=C.o.q4;obtain⟨z0,z1,z2,z3⟩:=C.o.z4;have K:=A0 ad.o (A0 g.o (A0 hgx.o hg5));go_region
       all_goals
        have d:=A4.keep (row:=N) ((((C.o.set 0 (V N 0 0)).set 1 (.map N)).set 2 (.map N)).set 3 (.map N)) (A7 _ N) Os;have M:=A0 (a1i (w:=w) K (le _) (i:=0) (j:=1) (k:=2) (l:=3) (x:= V N 0 0) (y:= .map N) (z:= .map N) (u:= .map N)) (A7 _ N);clear r0 r1 r2 r3 z0 z1 z2 z3 d0 d1;generalize ((((w5.setCell (A w.heap.size 0 N) (V N 0 0)).setCell (A w.heap.size 1 N) (.map N)).setCell (A w.heap.size 2 N) (.map N)).setCell (A w.heap.size 3 N) (.map N)).drew=W6 at d M⊢;have q0:=d.c0;have q1:=d.c1;have q2:=d.c2;have q3:=d.c3;go_wp2_with fail
        refine lg (v:= .tuple #[Q #[V N 0 0, .map N, .map N, .map N], J I 9, J I j]) (by simp[lh,results60,go_sem,q0,q1,q2,q3]) rfl ⟨M,?_⟩;rw[hla.o,a4V fs hlt (by rw[<-HN.o];exact hlj) HBV.o hall.o];unfold a4b;rw[ab.o]
      |false=>
       go_wp2_with (go_at_call 160;refine(E.o _ j (A0 g.o hgx.o) hlj).mono ?_;rintro e w5 ⟨rfl,hg5⟩;rw[HBV.o])
       exact a0v
     ·exact a0t
   ·have E:X (∀W i,w1.grownBy W N->i<n->ld prog 161 #[U (O (A b 0 N)), J I (9+(i:Int))] W λe w'=>e= Y (G (T8 (B6++fs) r (9+i)))/\W.grownBy w' N):=by
     exact c6a
    have e0:wr.cell? (A w1.heap.size (r*2) N)=O (J I 10):=by rw[hrk];exact D.cell (3*2) _ rfl
    have e1:wr.cell? (A w1.heap.size (r*2+1) N)=O (.func (.func 161) #[U (O (A b 0 N))] #[]):=by rw[hrk];exact D.cell (3*2+1) _ rfl
    have ab:X ((10:Int)=((7+r:Nat):Int)):=by rw[hrk];rfl
    clear D HCL hrk;go_wp2_with fail
    have HBX:X (A4 (wr.alloc (H #[J I 10, .func (.func 161) #[U (O (A b 0 N))] #[]] 221)) wr.heap.size #[J I 10, .func (.func 161) #[U (O (A b 0 N))] #[]] 221):=A4.new wr _ _;have HGX0:X (W2.grownBy (wr.alloc (H #[J I 10, .func (.func 161) #[U (O (A b 0 N))] #[]] 221)) N):=A0 T.o (A2 _ _ _);clear e0 e1;have S:¬(wr.heap.size=w.heap.size):=by have:=aa.o.lt;have:=g.o.size;have:=T.o.size;omega
    have ac:¬(w.heap.size=wr.heap.size):=λe=>S e.symm
    go_loopw [20] (λi wx=>∃j:Nat,j<=n/\i= J I j/\X (∀j',j'<j->T8 (B6++fs) r (9+j')=false)/\X (W2.grownBy wx N)/\X (A4 wx wr.heap.size #[J I 10, .func (.func 161) #[U (O (A b 0 N))] #[]] 221)) (λi _=>n-(lf i).toNat)
    case atStart=>exact c5i
    case round=>
     clear HGX0 HBX;obtain⟨j,hj,rfl,hall,hgx,hbx⟩:=hrel;by_cases hlj:j<n
     ·have d1:=hbx.o.c1;obtain⟨bv,F⟩:=Oe (T8 (B6++fs) r (9+j))
      have HBV:=A1 F.symm;clear F;cases bv with
      |true=>
       go_wp2_with (go_at_call 161;refine(E.o _ j (A0 g.o hgx.o) hlj).mono ?_;rintro e w5 ⟨rfl,hg5⟩;rw[HBV.o])
       have d0:=(hbx.o.keep hg5 Os).cell 0 _ rfl;have C:=A1 (aa.o.keep (A0 g.o (A0 hgx.o hg5)) Os);obtain⟨r0,r1,r2,r3⟩:=C.o.q4;obtain⟨z0,z1,z2,z3⟩:=C.o.z4;have K:=A0 ad.o (A0 g.o (A0 hgx.o hg5));go_region
       all_goals
        have d:=A4.keep (row:=N) ((((C.o.set 0 (V N 0 0)).set 1 (.map N)).set 2 (.map N)).set 3 (.map N)) (A7 _ N) Os;have M:=A0 (a1i (w:=w) K (le _) (i:=0) (j:=1) (k:=2) (l:=3) (x:= V N 0 0) (y:= .map N) (z:= .map N) (u:= .map N)) (A7 _ N);clear r0 r1 r2 r3 z0 z1 z2 z3 d0 d1;generalize ((((w5.setCell (A w.heap.size 0 N) (V N 0 0)).setCell (A w.heap.size 1 N) (.map N)).setCell (A w.heap.size 2 N) (.map N)).setCell (A w.heap.size 3 N) (.map N)).drew=W6 at d M⊢;have q0:=d.c0;have q1:=d.c1;have q2:=d.c2;have q3:=d.c3;go_wp2_with fail
        refine lg (v:= .tuple #[Q #[V N 0 0, .map N, .map N, .map N], J I 10, J I j]) (by simp[lh,results60,go_sem,q0,q1,q2,q3]) rfl ⟨M,?_⟩;rw[hla.o,a4V fs hlt (by rw[<-HN.o];exact hlj) HBV.o hall.o];unfold a4b;rw[ab.o]
      |false=>
       go_wp2_with (go_at_call 161;refine(E.o _ j (A0 g.o hgx.o) hlj).mono ?_;rintro e w5 ⟨rfl,hg5⟩;rw[HBV.o])
       exact a0v
     ·exact a0t
   ·have E:X (∀W i,w1.grownBy W N->i<n->ld prog 162 #[U (O (A b 0 N)), J I (9+(i:Int))] W λe w'=>e= Y (G (T8 (B6++fs) r (9+i)))/\W.grownBy w' N):=by
     exact c6a
    have e0:wr.cell? (A w1.heap.size (r*2) N)=O (J I 11):=by rw[hrk];exact D.cell (4*2) _ rfl
    have e1:wr.cell? (A w1.heap.size (r*2+1) N)=O (.func (.func 162) #[U (O (A b 0 N))] #[]):=by rw[hrk];exact D.cell (4*2+1) _ rfl
    have ab:X ((11:Int)=((7+r:Nat):Int)):=by rw[hrk];rfl
    clear D HCL hrk;go_wp2_with fail
    have HBX:X (A4 (wr.alloc (H #[J I 11, .func (.func 162) #[U (O (A b 0 N))] #[]] 221)) wr.heap.size #[J I 11, .func (.func 162) #[U (O (A b 0 N))] #[]] 221):=A4.new wr _ _;have HGX0:X (W2.grownBy (wr.alloc (H #[J I 11, .func (.func 162) #[U (O (A b 0 N))] #[]] 221)) N):=A0 T.o (A2 _ _ _);clear e0 e1;have S:¬(wr.heap.size=w.heap.size):=by have:=aa.o.lt;have:=g.o.size;have:=T.o.size;omega
    have ac:¬(w.heap.size=wr.heap.size):=λe=>S e.symm
    go_loopw [20] (λi wx=>∃j:Nat,j<=n/\i= J I j/\X (∀j',j'<j->T8 (B6++fs) r (9+j')=false)/\X (W2.grownBy wx N)/\X (A4 wx wr.heap.size #[J I 11, .func (.func 162) #[U (O (A b 0 N))] #[]] 221)) (λi _=>n-(lf i).toNat)
    case atStart=>exact c5i
    case round=>
     clear HGX0 HBX;obtain⟨j,hj,rfl,hall,hgx,hbx⟩:=hrel;by_cases hlj:j<n
     ·have d1:=hbx.o.c1;obtain⟨bv,F⟩:=Oe (T8 (B6++fs) r (9+j))
      have HBV:=A1 F.symm;clear F;cases bv with
      |true=>
       go_wp2_with (go_at_call 162;refine(E.o _ j (A0 g.o hgx.o) hlj).mono ?_;rintro e w5 ⟨rfl,hg5⟩;rw[HBV.o])
       have d0:=(hbx.o.keep hg5 Os).cell 0 _ rfl;have C:=A1 (aa.o.keep (A0 g.o (A0 hgx.o hg5)) Os);obtain⟨r0,r1,r2,r3⟩:=C.o.q4;obtain⟨z0,z1,z2,z3⟩:=C.o.z4;have K:=A0 ad.o (A0 g.o (A0 hgx.o hg5));go_region
       all_goals
        have d:=A4.keep (row:=N) ((((C.o.set 0 (V N 0 0)).set 1 (.map N)).set 2 (.map N)).set 3 (.map N)) (A7 _ N) Os;have M:=A0 (a1i (w:=w) K (le _) (i:=0) (j:=1) (k:=2) (l:=3) (x:= V N 0 0) (y:= .map N) (z:= .map N) (u:= .map N)) (A7 _ N);clear r0 r1 r2 r3 z0 z1 z2 z3 d0 d1;generalize ((((w5.setCell (A w.heap.size 0 N) (V N 0 0)).setCell (A w.heap.size 1 N) (.map N)).setCell (A w.heap.size 2 N) (.map N)).setCell (A w.heap.size 3 N) (.map N)).drew=W6 at d M⊢;have q0:=d.c0;have q1:=d.c1;have q2:=d.c2;have q3:=d.c3;go_wp2_with fail
        refine lg (v:= .tuple #[Q #[V N 0 0, .map N, .map N, .map N], J I 11, J I j]) (by simp[lh,results60,go_sem,q0,q1,q2,q3]) rfl ⟨M,?_⟩;rw[hla.o,a4V fs hlt (by rw[<-HN.o];exact hlj) HBV.o hall.o];unfold a4b;rw[ab.o]
      |false=>
       go_wp2_with (go_at_call 162;refine(E.o _ j (A0 g.o hgx.o) hlj).mono ?_;rintro e w5 ⟨rfl,hg5⟩;rw[HBV.o])
       exact a0v
     ·exact a0t
   ·have E:X (∀W i,w1.grownBy W N->i<n->ld prog 163 #[U (O (A b 0 N)), J I (9+(i:Int))] W λe w'=>e= Y (G (T8 (B6++fs) r (9+i)))/\W.grownBy w' N):=by
     exact c6a
    have e0:wr.cell? (A w1.heap.size (r*2) N)=O (J I 12):=by rw[hrk];exact D.cell (5*2) _ rfl
    have e1:wr.cell? (A w1.heap.size (r*2+1) N)=O (.func (.func 163) #[U (O (A b 0 N))] #[]):=by rw[hrk];exact D.cell (5*2+1) _ rfl
    have ab:X ((12:Int)=((7+r:Nat):Int)):=by rw[hrk];rfl
    clear D HCL hrk;go_wp2_with fail
    have HBX:X (A4 (wr.alloc (H #[J I 12, .func (.func 163) #[U (O (A b 0 N))] #[]] 221)) wr.heap.size #[J I 12, .func (.func 163) #[U (O (A b 0 N))] #[]] 221):=A4.new wr _ _;have HGX0:X (W2.grownBy (wr.alloc (H #[J I 12, .func (.func 163) #[U (O (A b 0 N))] #[]] 221)) N):=A0 T.o (A2 _ _ _);clear e0 e1;have S:¬(wr.heap.size=w.heap.size):=by have:=aa.o.lt;have:=g.o.size;have:=T.o.size;omega
    have ac:¬(w.heap.size=wr.heap.size):=λe=>S e.symm
    go_loopw [20] (λi wx=>∃j:Nat,j<=n/\i= J I j/\X (∀j',j'<j->T8 (B6++fs) r (9+j')=false)/\X (W2.grownBy wx N)/\X (A4 wx wr.heap.size #[J I 12, .func (.func 163) #[U (O (A b 0 N))] #[]] 221)) (λi _=>n-(lf i).toNat)
    case atStart=>exact c5i
    case round=>
     clear HGX0 HBX;obtain⟨j,hj,rfl,hall,hgx,hbx⟩:=hrel;by_cases hlj:j<n
     ·have d1:=hbx.o.c1;obtain⟨bv,F⟩:=Oe (T8 (B6++fs) r (9+j))
      have HBV:=A1 F.symm;clear F;cases bv with
      |true=>
       go_wp2_with (go_at_call 163;refine(E.o _ j (A0 g.o hgx.o) hlj).mono ?_;rintro e w5 ⟨rfl,hg5⟩;rw[HBV.o])
       have d0:=(hbx.o.keep hg5 Os).cell 0 _ rfl;have C:=A1 (aa.o.keep (A0 g.o (A0 hgx.o hg5)) Os);obtain⟨r0,r1,r2,r3⟩:=C.o.q4;obtain⟨z0,z1,z2,z3⟩:=C.o.z4;have K:=A0 ad.o (A0 g.o (A0 hgx.o hg5));go_region
       all_goals
        have d:=A4.keep (row:=N) ((((C.o.set 0 (V N 0 0)).set 1 (.map N)).set 2 (.map N)).set 3 (.map N)) (A7 _ N) Os;have M:=A0 (a1i (w:=w) K (le _) (i:=0) (j:=1) (k:=2) (l:=3) (x:= V N 0 0) (y:= .map N) (z:= .map N) (u:= .map N)) (A7 _ N);clear r0 r1 r2 r3 z0 z1 z2 z3 d0 d1;generalize ((((w5.setCell (A w.heap.size 0 N) (V N 0 0)).setCell (A w.heap.size 1 N) (.map N)).setCell (A w.heap.size 2 N) (.map N)).setCell (A w.heap.size 3 N) (.map N)).drew=W6 at d M⊢;have q0:=d.c0;have q1:=d.c1;have q2:=d.c2;have q3:=d.c3;go_wp2_with fail
        refine lg (v:= .tuple #[Q #[V N 0 0, .map N, .map N, .map N], J I 12, J I j]) (by simp[lh,results60,go_sem,q0,q1,q2,q3]) rfl ⟨M,?_⟩;rw[hla.o,a4V fs hlt (by rw[<-HN.o];exact hlj) HBV.o hall.o];unfold a4b;rw[ab.o]
      |false=>
       go_wp2_with (go_at_call 163;refine(E.o _ j (A0 g.o hgx.o) hlj).mono ?_;rintro e w5 ⟨rfl,hg5⟩;rw[HBV.o])
       exact a0v
     ·exact a0t
  ·have az:X (a8 fs= .ok ()):=by unfold X;rw[hla.o,show r=6 from by omega,b8K]
   have ae:=ay.o.keep (A0 g.o T.o);have ai:=aa.o.keep (A0 g.o T.o) Os;have a1:=A1 ai;have ax:=A1 ae;have a6:¬(b=w.heap.size):=by have:=ae.low.1;omega
   have a7:¬(w.heap.size=b):=λe=>a6 e.symm
   have c0:=ae.blk.c0;have c1:=ae.blk.c1;have c2:=ae.blk.c2;have c3:=ae.blk.c3;obtain⟨r0,r1,r2,r3⟩:=ai.q4;obtain⟨z0,z1,z2,z3⟩:=ai.z4;clear ae ai;go_wp2_with fail
   clear c0 c1 c2 c3 r0 r1 r2 r3 z0 z1 z2 z3;have d:=(((a1.o.set 0 (V (O p) (9+n) af)).set 1 (.map (O m1))).set 2 (.map (O m2))).set 3 (.map (O m3));have am:=A0 (A0 (A0 (A6 wr (A w.heap.size 0 N) (V (O p) (9+n) af)) (A6 _ (A w.heap.size 1 N) (.map (O m1)))) (A6 _ (A w.heap.size 2 N) (.map (O m2)))) (A6 _ (A w.heap.size 3 N) (.map (O m3)));generalize ((((wr.setCell (A w.heap.size 0 N) (V (O p) (9+n) af)).setCell (A w.heap.size 1 N) (.map (O m1))).setCell (A w.heap.size 2 N) (.map (O m2))).setCell (A w.heap.size 3 N) (.map (O m3)))=W6 at d am⊢;have q0:=d.c0;have q1:=d.c1;have q2:=d.c2;have q3:=d.c3;refine lg (v:= .tuple #[Q #[V (O p) (9+n) af, .map (O m1), .map (O m2), .map (O m3)], J I 0, J I 0]) (by simp[lh,results60,go_sem,q0,q1,q2,q3]) rfl ⟨C6 (A0 ad.o (A0 g.o T.o)) am (λk e=>by cases e;exact .inl (le _)),?_⟩;rw[az.o];refine⟨b, V (O p) (9+n) af,m1,m2,m3,rfl,?_⟩;rw[<-a4];exact Am.far ax.o am (Nat.lt_succ_self _)
end Kx
open Go.RowKit Cf
variable {w w':World}{b1 b2 base' e size:Nat}
theorem a1O{F K s1 s2 n1 n2:Nat}{C M:lb}{c1 c2:List lb}(T:w.ownsRow b1 F s1 C n1 c1)(W:w.ownsRow b2 K s2 M n2 c2)(j:F≠K):C.ownBlock=N\/C.ownBlock≠M.ownBlock:=by
 rcases T.2 with⟨rfl,_⟩|⟨g,P,S,rfl,_,hg,_⟩
 ·exact .inl rfl
 ·right;rcases W.2 with⟨rfl,_⟩|⟨g',D,E,rfl,_,d,_⟩
  ·simp[Value.ownBlock]
  ·intro e;simp only[Value.ownBlock,nz.injEq]at e;subst e;rw[hg]at d;simp only[nz.injEq,Obj.cells.injEq]at d;exact j d.2.1
variable {c:List Value}{m:Me}{row:Option Nat}
theorem a1B.keep{base:Nat}(h:a1B (λ_=>True) base w c m)(g:w.grownBy w' row)(P:∀k,row=O k->k<base):a1B (λ_=>True) base w' c m:=by
 obtain⟨pv,F,E,M,j,C,D,K⟩:=h
 have d:∀{e s n:Nat} {v:lb} {cs:List lb},w.ownsRow base e s v n cs->v.ownBlock=N\/v.ownBlock≠row:=fun{e s n v cs} ho=>by
  cases row with
  |none=>cases E:v.ownBlock<;>simp
  |some k=>exact .inr (F9 ho (P k rfl))
 exact⟨pv,F,E,M,lk.kept j g (d j),lk.kept C g (d C),lk.kept D g (d D),K⟩
variable {v:Value}
theorem a1B.onto{base:Nat}{s n:Nat}{cs:List lb}(h:a1B (λ_=>True) base w c m)(g:w.ownsRow b2 102 s v n cs)(d:w.grownBy w' v.ownBlock):a1B (λ_=>True) base w' c m:=by
 obtain⟨pv,E,M,K,j,C,D,F⟩:=h;exact⟨pv,E,M,K,lk.kept j d (a1O j g Od),lk.kept C d (a1O C g Od),lk.kept D d (a1O D g Od),F⟩
def o5(base:Nat)(w:la)(v:lb)(ms:List Me):Prop:=
 ∃css:List (List lb),css.length=ms.length/\w.ownsRow base 102 8 v ms.length css.flatten/\∀(i:Nat) (c:List lb) (m:Me),css[i]? =O c->ms[i]? =O m->a1B (λ_=>True) base w c m
theorem o5.nil(base:Nat)(w:la):o5 base w (V N 0 0) []:=⟨[],rfl,lw _ _ _ _,λi c m h=>by simp at h⟩
variable {ms:List Me}
theorem o5.keep{base:Nat}(h:o5 base w v ms)(j:w.grownBy w' row)(C:∀k,row=O k->k<base):o5 base w' v ms:=by
 obtain⟨d,D,g,E⟩:=h;refine⟨d,D,g.kept j ?_,λi c m F K=>(E i c m F K).keep j C⟩;cases row with
 |none=>cases hv:v.ownBlock<;>simp
 |some k=>exact .inr (F9 g (C k rfl))
theorem a1B.base(h:a1B (λ_=>True) b1 w c m)(d:b2<=b1):a1B (λ_=>True) b2 w c m:=by
 obtain⟨pv,g,K,F,j,C,D,E⟩:=h;exact⟨pv,g,K,F,U6 j d,U6 C d,U6 D d,E⟩
theorem o5.push{base:Nat}{K:lb}{d:List (List lb)}(E:d.length=ms.length)(F:w.ownsRow base 102 8 v ms.length d.flatten)
 (h:∀(i:Nat) (c:List lb) (m:Me),d[i]? =O c->ms[i]? =O m->a1B (λ_=>True) base w c m) (S:a1B (λ_=>True) base w c m)
 (C:w'.ownsRow base 102 8 K (ms.length+1) (d.flatten++c)) (D:w.grownBy w' v.ownBlock):o5 base w' K (ms++ [m]):=by
 refine⟨d++ [c],by simp[E],by simpa using C,λi M T g j=> ?_⟩;by_cases hi:i<d.length
 ·rw[ua hi]at g;rw[ua Oo]at j;exact(h i M T g j).onto F D
 ·rw[List.getElem?_append_right Oo]at g j
  have:i=d.length:=by
   have:=(nn.1 g).1;simp at this;omega
  subst this;simp[E]at g j;subst g j;exact S.onto F D
theorem b6p(w:la)(b:Nat)(f:ByteArray)(pv:lb)(st:St)(d:Nat)(h:X (Rd w b f pv st))(hd:d<=2)(hS:X (Shp w))(ak:2<b):
 ld prog 151 #[U (O (A b 0 N)), J I d, .func (.func 152) #[U (O (A b 0 N))] #[]] w (F6 w b f pv (D8 f d (meth f) st) (o5 w.heap.size)):=by
 have ab:=h.o.lt;go_enter func151,ntmps151;go_wp2_with (go_at_call 146;refine F6.bind (a0j w b f pv st d h Oo) (λer w' hr S=>⟨rfl, .err (er:=er) (by rw[D8,hr]) rfl rfl S⟩) ?_;rintro n st1 v w1 HH rfl hR S)
 have hn:n<65536:=by
  exact a4p
 go_loopw [7,11] (λl i wr=>∃(k:Nat) (xs:List Me) (st2:St),i= J I k/\Mid (meth f) n st1 k xs st2/\o5 w.heap.size wr l xs/\Rd wr b f pv st2/\w.grownBy wr (O b)) (λ_ i _=>n-(lf i).toNat)
 case atStart=>exact⟨0,[],st1,rfl, .start _ _ _, .nil _ _,hR.o,S⟩
 case round=>
  obtain⟨k,xs,st2,rfl,E,K,aa,hg2⟩:=hrel;have HM:=A1 E;have HR2:=A1 aa;have HROW:X (o5 w.heap.size wr _ xs):=K;clear E aa K;by_cases hk:k<n
  ·obtain⟨i,hi,al,am,an⟩:=nh b3L;obtain⟨W,ad,M,ac⟩:=HROW.o;have T:=F9 M ab;have D:X (wr.ownsRow w.heap.size 102 8 _ xs.length W.flatten):=M;have ag:=A1 ac;have ah:=A1 ad;clear ad M ac;have ae:xs.length<65536:=by have:=HM.o.2.1;omega
   go_wp2_with (first
    |(go_at_call 152
      refine F6.bind (b7s wr b f pv st2 HR2 (hS.o.keep hg2 Oi) ak) (λer w' hr C=>⟨rfl, .err (er:=er) (by rw[D8,HH.o];exact HM.o.fail hk hr) rfl rfl (A0 hg2 C)⟩) ?_;rintro x st3 v w3 H3 ⟨c,rfl,af⟩ aj C;have ai:=A1 af;obtain⟨aq,ao,ap,rfl,r1,r2,r3,-⟩:=af;obtain⟨a1,k1,rfl⟩:=F7 r1;obtain⟨a2,k2,rfl⟩:=F7 r2;obtain⟨a3,k3,rfl⟩:=F7 r3;clear r1 r2 r3;dsimp only)
    |(at_builtin;go_loud (refine wpList_append_own _ rfl _ _ 42 rfl w.heap.size 102 i _ 8 128 underlying42 hi al am an rfl Od _ xs.length W.flatten rfl ((lk.kept D.o C (.inr T)).alloc _) (A w3.heap.size 0 N) 1 1 [Z x.n, V a1 x.p.length k1, J I x.r.k, Z x.r.n, J I x.s, J I x.l, V a2 x.c.length k2, V a3 x.h.length k3] rfl rfl (O8 w3 _ _) (by simp[Value.oneCell']) (a0S rfl ae) Oo (by have:=hg2.size;have:=C.size;simp;omega) ?_)))
   intro v' w4 F j _;have hR4:=aj.o.grow (A2 _ _ _) j (by simpa using T) (λg S=>by have:=(K7 D.o S).1;have:=h.o.poolLt this;exact this);have hg4:=C6 (A0 (A0 hg2 C) (A2 _ _ _)) j (λg S=> .inl (K7 D.o S).1);have HM4:=A1 (HM.o.step hk H3.o)
   have HO4:X (o5 w.heap.size w4 v' (xs++ [x])):=by
    refine o5.push ah.o ((lk.kept D.o C (.inr T)).alloc _) (λi c m hc hm=>((ag.o i c m hc hm).keep C (λk e=>by cases e;exact ab)).keep (A2 _ _ N) (λ_ e=>by cases e)) ?_ F j;exact(ai.o.base hg2.size).keep (A2 _ _ N) (λ_ e=>by cases e)
   clear F j;go_wp2
   go_roundw
   case rel=>exact c5l
   case measure=>simp[lf];omega
  ·exact a2e
def a1J(base:Nat)(w:la)(v:lb)(c:Cl):Prop:=
 ∃a1 k1 a2 k2,v= Q #[Z c.n, Z c.s, V a1 c.f.length k1, V a2 c.m.length k2]/\
  F2 base 129 3 K3 w (V a1 c.f.length k1) c.f/\o5 base w (V a2 c.m.length k2) c.m
variable {α:Type}
theorem F2.keep{base:Nat}{enc:α->List lb}{xs:List α}(h:F2 base e size enc w v xs)(d:w.grownBy w' row)(g:∀k,row=O k->k<base):F2 base e size enc w' v xs:=by
 refine lk.kept h d ?_;cases row with
 |none=>cases hv:v.ownBlock<;>simp
 |some k=>exact .inr (F9 h (g k rfl))
theorem F2.base{base:Nat}{enc:α->List lb}{xs:List α}(h:F2 base e size enc w v xs)(d:base'<=base):F2 base' e size enc w v xs:=U6 h d
theorem o5.base{base:Nat}(h:o5 base w v ms)(g:base'<=base):o5 base' w v ms:=by
 obtain⟨d,j,C,D⟩:=h;exact⟨d,j,U6 C g,λi c m E F=>(D i c m E F).base g⟩
theorem o5.slice{base:Nat}(h:o5 base w v ms):∃a c,v= V a ms.length c:=by
 obtain⟨d,j,g,C⟩:=h;exact F7 g
theorem a1J.keep{base:Nat}{c:Cl}(h:a1J base w v c)(d:w.grownBy w' row)(g:∀k,row=O k->k<base):a1J base w' v c:=by
 obtain⟨j,K,C,M,F,D,E⟩:=h;exact⟨j,K,C,M,F,D.keep d g,E.keep d g⟩
theorem a1J.base{c:Cl}(h:a1J b1 w v c)(d:b2<=b1):a1J b2 w v c:=by
 obtain⟨g,F,j,K,E,C,D⟩:=h;exact⟨g,F,j,K,E,C.base d,D.base d⟩
theorem a0G{g:Nat}{i0 d j C:Nat}{D E F K:lb}:
 w.grownBy ((((w.setCell (A g i0 N) D).setCell (A g d N) E).setCell (A g j N) F).setCell (A g C N) K) (O g):=
 A0 (A0 (A0 (A6 _ (A g i0 N) _) (A6 _ (A g d N) _)) (A6 _ (A g j N) _)) (A6 _ (A g C N) _)
theorem b9m(w:la)(b:Nat)(f:ByteArray)(pv:lb)(st:St)(h:X (Rd w b f pv st))(hS:X (Shp w))(al:2<b):
 ld prog 93 #[U (O (A b 0 N))] w (F6 w b f pv (cls f st) (a1J w.heap.size)):=by
 have an:=h.o.lt;have ap:∀(fn:Fn) (first cap:Array lb) (w:la),(Instr.makeFunc fn first cap).run prog w= .ok (.func fn first cap) w:=λ_ _ _ _=>rfl
 go_enter func93,ntmps93
 go_wp2_with (first
  |(go_at_call 148
    refine F6.bind (a5g w1 b f pv st1 ah) (λer w' S K=>⟨rfl, .err (er:=er) (by simp only[cls,H1.o,S]) rfl rfl (A0 ad K)⟩) ?_;rintro su st2 v w2 H2 rfl ai j;have ae:=A0 ad j;have aa:=E.keep j Oi;have s2:=j.size;clear j E;dsimp only)
  |(go_at_call 148
    refine F6.bind (a5g _ b f pv st (h.o.keep (A2 _ _ _))) (λer w' S K=>⟨rfl, .err (er:=er) (by simp only[cls,S]) rfl rfl (A0 (A2 _ _ _) K)⟩) ?_;rintro n st1 v w1 H1 rfl ah D;have ad:=A0 (A2 w _ (O b)) D;have E:=(A4.new w _ _).keep D Oi;have s1:w.heap.size<w1.heap.size:=by have:=E.lt;omega
    clear D;dsimp only)
  |(go_at_call 149
    refine F6.bind (b5K w2 b f pv st2 1 ai Oo (λwx sx ao hx=>a6b wx b f pv sx hx)) (λer w' S K=>⟨rfl, .err (er:=er) (by simp only[cls,H1.o,H2.o,S]) rfl rfl (A0 ae K)⟩) ?_;rintro fs st3 v3 w3 H3 T aj C;have M:=A0 ae C;have ab:=aa.keep C Oi;have s3:=C.size;obtain⟨a3,k3,rfl⟩:=F7 T;have ac:=A1 T;clear T C aa;dsimp only)
  |(go_at_call 151
    refine F6.bind (b6p w3 b f pv st3 1 aj Oo (hS.o.keep M Oi) al) (λer w' S K=>⟨rfl, .err (er:=er) (by simp only[cls,H1.o,H2.o,H3.o,S]) rfl rfl (A0 M K)⟩) ?_;rintro ms st4 v4 w4 H4 W ak d;have am:=A0 M d;have F:=ab.keep d Oi;have s4:=d.size;obtain⟨a4,k4,rfl⟩:=W.slice;have ag:=A1 W;have af:=A1 (ac.o.keep d (λk e=>by cases e;omega));obtain⟨c0,c1,c2,c3⟩:=F.q4;obtain⟨z0,z1,z2,z3⟩:=F.z4;clear W d ab ac F;dsimp only))
 refine lg (v:= Q #[Z n, Z su, V a3 fs.length k3, V a4 ms.length k4]) (by simp[lh,results93,go_sem,c0,c1,c2,c3]) rfl ?_;refine .ok (a:=⟨n,su,fs,ms⟩) (st:=st4) ?_ ?_ ?_ ?_
 ·simp only[cls,H1.o,H2.o,H3.o,H4.o]
 ·exact C6 am (a0G (g:=w.heap.size)) (λk e=> .inl (by cases e;exact le _))
 ·exact⟨_,_,_,_,rfl,(af.o.keep (a0G (g:=w.heap.size)) (λk e=>by cases e;omega)).base Oo,(ag.o.keep (a0G (g:=w.heap.size)) (λk e=>by cases e;omega)).base Oo⟩
 ·exact ak.o.keepAt (a0G (g:=w.heap.size)) Oo (h.o.poolLt (le _))
theorem c2s(w:la)(b:Nat)(f:ByteArray)(pv:lb)(st:St)(h:X (Rd w b f pv st)):
 ld prog 94 #[U (O (A b 0 N))] w
  (F6 w b f pv (if st.u<st.p.length then .error (5,f.size)else if st.t<f.size then .error (6,st.t)else .ok ((),st)) (λ_ v _=>v= .tuple #[])):=by
 obtain⟨-,d,c0,c1,c2,c3,-,-,-⟩:=h.o.cells;obtain⟨a,k,rfl⟩:=F7 d;clear d;by_cases h1:st.u<st.p.length
 ·rw[if_pos h1];go_enter func94,ntmps94;go_wp2
  go_quiet (fail)
  go_wp2
  exact⟨rfl, .err (er:=(5,f.size)) rfl rfl rfl (F4 _ _ _)⟩
 ·rw[if_neg h1];by_cases h2:st.t<f.size
  ·rw[if_pos h2];go_enter func94,ntmps94;go_wp2
   go_quiet (fail)
   go_wp2
   go_quiet (fail)
   go_wp2
   exact⟨rfl, .err (er:=(6,st.t)) rfl rfl rfl (F4 _ _ _)⟩
  ·rw[if_neg h2];go_enter func94,ntmps94;go_wp2
   go_quiet (fail)
   go_wp2
   go_quiet (fail)
   go_wp2
   go_end0;exact .ok rfl (A0 (F4 _ _ _) (F4 _ _ _)) rfl (h.o.keep (A0 (F4 _ _ _) (F4 _ _ _)))
theorem a8c(c:UInt8):a1y c=decide (97<=c.toNat/\c.toNat<=122\/65<=c.toNat/\c.toNat<=90\/48<=c.toNat/\c.toNat<=57):=by
 rw[ni];simp[a1y,UInt8.le_iff_toNat_le];omega
theorem b0z(c:UInt8)(w:la):
 ld prog 288 #[.int .u8 (c.toNat:Int)] w λe w'=>e= Y (G (a1y c))/\w=w':=by
 rw[a8c];have d:=c.toNat_lt;generalize c.toNat=a at d;go_enter func288,ntmps288;go_wp2
 all_goals
  go_ret;refine⟨congrArg (λx=>Ending.returned (G x)) ?_,rfl⟩;rw[ni];simp;omega
variable {s:ByteArray}
theorem b7B(g:1<=s.size)(C:s.size<=12)(h:∀j (d:j<s.size),a1y s.data[j]=true):L7 s=true:=by
 simp only[L7,ub,decide_eq_true_eq,uc];refine⟨⟨g,C⟩,λc D=> ?_⟩;obtain⟨j,d,rfl⟩:=na D;exact h j (by simpa using d)
theorem b1o(j:Nat)(g:j<s.size)(h:a1y s.data[j]=false):L7 s=false:=by
 rw[Bool.eq_false_iff];intro d;simp only[L7,ub,decide_eq_true_eq,uc]at d;have:=d.2 s.data[j] Os;rw[h]at this;cases this
theorem b7A(s:ByteArray)(w:la)(D:s.size<=2048):
 ld prog 212 #[Z s] w λe w'=>e= Y (G (L7 s))/\w=w':=by
 by_cases h1:1<=s.size
 ·by_cases h2:s.size<=12
  ·go_enter func212,ntmps212;go_wp2
   go_loop [14] (λi=>∃k:Nat,k<=s.size/\i= J I k/\X (∀j (g:j<s.size),j<k->a1y s.data[j]=true)) (λi=>s.size-(lf i).toNat)
   case atStart=>exact⟨0,by omega,rfl,λj g h=>by omega⟩
   case round=>
    obtain⟨k,hk,rfl,d⟩:=hrel;by_cases hlt:k<s.size
    ·cases hb:a1y s.data[k]
     ·have C:=A1 hb;go_wp2_with (go_at_call 288;refine(b0z s.data[k] _).mono ?_;rintro e w' ⟨rfl,rfl⟩;rw[hb])
      go_ret;exact⟨by rw[b1o k hlt C.o];rfl,rfl⟩
     ·have C:=A1 hb;go_wp2_with (go_at_call 288;refine(b0z s.data[k] _).mono ?_;rintro e w' ⟨rfl,rfl⟩;rw[hb])
      go_round
      case rel=>exact⟨k+1,hlt,by go_num,λj g h=>by by_cases e:j=k;(subst e;exact C.o);exact d.o j g Oo⟩
      case measure=>simp[lf];omega
    ·go_wp2
     go_ret;exact⟨by rw[b7B h1 h2 (λj g=>d.o j g Oo)];rfl,rfl⟩
  ·go_enter func212,ntmps212;go_wp2
   go_ret;exact⟨by simp[L7,h2],rfl⟩
 ·go_enter func212,ntmps212;go_wp2
  go_ret;exact⟨by simp[L7,h1],rfl⟩
theorem a0U{t:ByteArray}(h:(s.toList==t.toList)=true):s=t:=by
 have h:=eq_of_beq h;rw[ByteArray.toList_eq,ByteArray.toList_eq]at h;cases s;cases t;simpa using h
theorem a8d:LawfulBEq ByteArray where
 eq_of_beq h:=by rw[beq_toListBytes]at h;exact a0U h
 rfl {a}:=by rw[beq_toListBytes];simp
theorem b8R(w:la)(base:Nat)(pv:lb)(l:List ByteArray)(s:ByteArray)(h:X (w.ownsRow base 9 1 pv l.length (l.map Value.string)))(W:l.length<=255):
 ld prog 292 #[pv, Z s] w λe w'=>(∃n:Int,e= Y (J I n)/\(decide (0<=n)=l.contains s))/\w=w':=by
 rcases a4z h.o with⟨rfl,rfl⟩|⟨g,S,rfl,T,d⟩
 ·go_enter func292,ntmps292;go_wp2
  go_loop [8] (λi=>i= J I 0) (λi=>0)
  case atStart=>rfl
  case round=>
   subst hrel;go_wp2
   go_ret;exact⟨⟨-1,rfl,by simp⟩,rfl⟩
 ·have M:=A1 d;clear d;go_enter func292,ntmps292;go_wp2
  go_loop [8] (λi=>∃k:Nat,k<=l.length/\i= J I k/\X (∀j,j<k->l.getD j li≠s)) (λi=>l.length-(lf i).toNat)
  case atStart=>exact⟨0,by omega,rfl,λj h=>by omega⟩
  case round=>
   obtain⟨k,hk,rfl,C⟩:=hrel;by_cases hlt:k<l.length
   ·have K:=M.o k hlt;go_wp2
    ·rename_i he _;have D:=a0U he;go_ret;refine⟨⟨k,rfl,?_⟩,rfl⟩;haveI:=a8d
     have:s∈l:=by rw[D];exact nd _
     simp[this]
    ·rename_i he;refine⟨⟨k+1,hlt,by go_num,λj E=> ?_⟩,by simp[lf];omega⟩;by_cases e:j=k
     ·subst e;intro e;simp[List.getD,hlt]at e;rw[e]at he;simp at he
     ·exact C.o j Oo
   ·go_wp2
    go_ret;refine⟨⟨-1,rfl,?_⟩,rfl⟩;have F:k=l.length:=by omega
    subst F;haveI:=a8d
    have:s∉l:=by
     intro K;obtain⟨j,E,e⟩:=na K;exact C.o j E (by simp[List.getD,E,e])
    simp[this]
theorem b5P(w:la)(base:Nat)(pv:lb)(l:List ByteArray)(s:ByteArray)(h:X (w.ownsRow base 9 1 pv l.length (l.map Value.string)))(d:l.length<=255):
 ld prog 222 #[pv, Z s] w λe w'=>e= Y (G (l.contains s))/\w=w':=by
 obtain⟨a,k,rfl⟩:=F7 h.o;go_enter func222,ntmps222;go_wp2_with (go_at_call 292;refine(b8R w base _ l s h d).mono ?_;rintro e w' ⟨⟨n,rfl,g⟩,rfl⟩)
 go_ret;refine⟨congrArg (λx=>Ending.returned (G x)) ?_,rfl⟩;rw[ni]at g⊢
theorem c2b:(prog.info? 5).map (λi=>(i.zero,i.size,i.bytes))=O (O (.int .u8 0),1,1):=by kernel_rfl
theorem a1e(h:lj w.heap.size w w'):w.grownBy w' N:=⟨h.os,h.tape,h.output,h.size,λk hk _=>h.block k hk⟩
theorem b6E(s:ByteArray)(w:la)(ad:s.size<=2048):
 ld prog 171 #[Z s] w λe w'=>e= .returned (Z s)/\w.grownBy w' N:=by
 by_cases h0:s.size=0
 ·have hs:s=⟨#[]⟩:=ByteArray.ext (Array.eq_empty_of_size_eq_zero h0);subst hs;go_enter func171,ntmps171;go_wp2
  go_ret;exact⟨rfl,C9 _ _⟩
 ·obtain⟨i0,hi,ab,g,ac⟩:=nh c2b;have d:(prog.info? 5).map (·.size)=O 1:=by rw[hi];simp[g]
  have S:prog.cellsOf 5=1:=by simp[Program.cellsOf,hi,g]
  generalize hM:madeCells (Value.int .u8 0).cells (((s.size:Nat):Int).toNat*i0.size)=M;have ae:M.size=s.size:=by rw[<-hM,size_madeCells,g];simp
  have ag:∀W:la,(Instr.makeSlice 193 (J I (s.size:Int)) (J I (s.size:Int))).run prog W= .ok (V (O (A W.heap.size 0 N)) s.size s.size) (W.alloc (H M 5)):=λW=>by
   have h:=run_make (P:=prog) W 193 5 i0 (.int .u8 0) underlying193 hi ab I I (s.size:Int) (s.size:Int) Oo Oo (by rw[ac];omega) Oo;rw[hM]at h;simpa using h
  have T:=Lib.run_copy_row_string (P:=prog) (w.alloc (H M 5)) 193 9 3 5 w.heap.size 0 s.size s.size s M 5 underlying193 d (heap_alloc_new w _) (le _) Oo;generalize hY:(M.toList.take 0++Lib.byteCells s.data.toList++M.toList.drop (0+s.size)).toArray=Y at T
  have C:Y.toList=Lib.byteCells s.data.toList:=by
   rw[<-hY,List.toList_toArray,nt,nj,List.drop_of_length_le (by rw[nk];omega),lx]
  have af:Y.size=s.size:=by rw[<-nk,C,Lib.byteCells_length,<-Lib.size_eq]
  have D:((w.alloc (H M 5)).setRow w.heap.size Y).heap[w.heap.size]? =O (H Y 5 (0,0)):=setRow_heap _ _ M _ 5 (0,0) (heap_alloc_new w _);have aa:s.data.toList≠ []:=λe=>h0 (by rw[Lib.size_eq,e];rfl)
  have E:=Lib.run_unsafeString_row (P:=prog) ((w.alloc (H M 5)).setRow w.heap.size Y) 359 3 9 5 underlying359 S w.heap.size Y.size (by unfold World.shape?;rw[D]) s.data.toList aa (by rw[<-Lib.size_eq];omega) (by rw[<-Lib.size_eq];omega)
   (λj x hx=>Lib.cells_of_row D Y.size j _ (by rw[List.take_of_length_le (by rw[nk];exact le _),C];simp[Lib.byteCells,hx]))
  rw[<-Lib.size_eq]at E;clear hM hY;go_enter func171,ntmps171;go_wp2
  go_ret;have F:lj w.heap.size w (w.alloc (H M 5)):=(Below.refl _ w).alloc (le _) _;have K:lj w.heap.size (w.alloc (H M 5)) ((w.alloc (H M 5)).setRow w.heap.size Y):=⟨rfl,rfl,rfl,by simp,λk hk=>setRow_other _ _ _ _ Oo⟩
  exact⟨rfl,a1e (Lib.below_freeze (F.trans K) (p:=(A w.heap.size 0 N)) (le _) _)⟩
theorem b9l(s:ByteArray)(w:la)(d:s.size<=2048):
 ld prog 107 #[Z s] w λe w'=>e= Y (Z s)/\w.grownBy w' N:=by
 go_enter func107,ntmps107;go_wp2_with (go_at_call 171;refine(b6E s w d).mono ?_;rintro e w' ⟨rfl,g⟩)
 go_ret;exact⟨rfl,g⟩
theorem a7c{f:ByteArray}{k:Nat}{st st1:St}(h:a1E f k st= .ok (s,st1)):st.t+k<=f.size/\s=f.extract st.t (st.t+k)/\st1={st with t:=st.t+k}:=by
 rw[a1E]at h;split at h
 ·cases h;exact⟨by assumption,rfl,rfl⟩
 ·cases h
section
variable{f:ByteArray}{st st1 st2:St}{k:Nat}{s:ByteArray}{er:Er}
theorem b7p(d:C3 f 1 st= .ok (k,st1))(h:a1E f k st1= .error er):l7 f st= .error er:=by
 rw[a1E]at h;split at h
 ·cases h
 ·rename_i hc;cases h;simp only[l7,d,hc,if_false]
theorem b1k(d:C3 f 1 st= .ok (k,st1))(g:a1E f k st1= .ok (s,st2))(C:(L7 s&& !st.p.contains s)=false):l7 f st= .error (4,st.t):=by
 obtain⟨j,rfl,rfl⟩:=a7c g;simp only[l7,d,j,C,if_true,Bool.false_eq_true,if_false]
theorem b0y(d:C3 f 1 st= .ok (k,st1))(g:a1E f k st1= .ok (s,st2)):st2.p=st.p:=by
 rw[(a7c g).2.2,(T4 d).1]
theorem b7o(d:C3 f 1 st= .ok (k,st1))(g:a1E f k st1= .ok (s,st2))(C:(L7 s&& !st.p.contains s)=true):l7 f st= .ok (s,st2):=by
 obtain⟨j,rfl,rfl⟩:=a7c g;simp only[l7,d,j,C,if_true]
end
theorem b6k(w:la)(b:Nat)(f:ByteArray)(pv:lb)(st:St)(h:X (Rd w b f pv st)):
 ld prog 147 #[U (O (A b 0 N))] w (F6 w b f pv (l7 f st) a5E):=by
 obtain⟨-,-,-,c1,-,-,-,-,-⟩:=h.o.cells;go_enter func147,ntmps147
 go_wp2_with (first
  |(go_at_call 146
    refine F6.bind (a0j w b f pv st 1 h Oo) (λer w' W T=>⟨rfl, .err (er:=er) (by simp only[l7,W]) rfl rfl T⟩) ?_;rintro k st1 v w1 j rfl S g;dsimp only)
  |(go_at_call 221
    refine F6.bind (b2A w1 b f pv st1 k S.o (by have:=(T4 j.o).2;omega)) (λer w' W T=>⟨rfl, .err (er:=er) (b7p j.o W) rfl rfl (A0 g T)⟩) ?_;rintro s st2 v w2 D rfl d C;obtain⟨-,F,-,-,c2,-,-,-,-⟩:=d.o.cells;have M:=A1 F;have K:s.size<=2048:=by have h5:=(a7c D.o);have h6:=d.o.inv.fits;rw[h5.2.1];simp;omega
    clear F c1;dsimp only)
  |(go_at_call 212;refine(b7A s w2 K).mono ?_;rintro e w' ⟨rfl,rfl⟩;dsimp only;cases hb:L7 s)
  |(go_at_call 222;refine(b5P w2 (b+1) pv st2.p s M (by have:=d.o.inv.p;exact this)).mono ?_;rintro e w' ⟨rfl,rfl⟩;dsimp only;cases hq:st2.p.contains s)
  |(go_at_call 107;refine(b9l s w2 K).mono ?_;rintro e w4 ⟨rfl,E⟩;dsimp only))
 ·exact⟨rfl, .err (er:=(4,st.t)) (b1k j.o D.o (by rw[hb];rfl)) rfl rfl (A0 g C)⟩
 ·go_ret;exact .ok (b7o j.o D.o (by rw[<-b0y j.o D.o,hb,hq];rfl)) (L8 (A0 g C) E) rfl (d.o.keep E)
 ·exact⟨rfl, .err (er:=(4,st.t)) (b1k j.o D.o (by rw[<-b0y j.o D.o,hb,hq];rfl)) rfl rfl (A0 g C)⟩
def a5k(w:la)(b:Nat)(f:ByteArray)(r:R (List Unit))(e:lq)(w':la):Prop:=
 w.grownBy w' (O b)/\match r with
  | .ok (_,st)=>e= Y (.tuple #[])/\∃pv,Rd w' b f pv st
  | .error er=>e=a7x er
variable {w w' w1 w2:World}{b c i n:Nat}{f s:ByteArray}{r:R (List Unit)}{x y:Int}{er:Er}
theorem a5k.err
 (g:r= .error er) (j:x=er.1) (C:y=er.2) (d:w.grownBy w' (O b)):a5k w b f r (.panicked [{v:= .iface 125 (Q #[J I x, J I y]),recovered:=false}]) w':=by
 subst g j C;exact⟨d,rfl⟩
variable {st st1:St}
theorem a7A(h:l7 f st= .error er):L5 f st= .error er:=by simp only[L5,h]
theorem b3A(h:l7 f st= .ok (s,st1)):L5 f st= .ok ((),{st1 with p:=st1.p++ [s]}):=by simp only[L5,h]
theorem b5l(h:l7 f st= .ok (s,st1)):st1.p=st.p/\st1.u=st.u:=by
 unfold l7 at h;split at h
 ·cases h
 ·rename_i k st2 h2;split at h
  ·dsimp only at h;split at h
   ·cases h;rw[(T4 h2).1];exact⟨rfl,rfl⟩
   ·cases h
  ·cases h
theorem Rd.setPool{pv:lb}{g cap base:Nat}{row:Option Nat}(h:Rd w b f pv st)(j:w.grownBy w1 N)(C:w1.grownBy w2 row)(F:row≠O b)
 (K:b<base) (E:w2.ownsRow base 9 1 (V (O (A g 0 N)) (st.p.length+1) cap) (st.p.length+1) (st.p.map Value.string++ [Z s])) (M:st.p.length<255):
 Rd (w2.setCell (A b 2 N) (V (O (A g 0 N)) (st.p.length+1) cap)) b f (V (O (A g 0 N)) (st.p.length+1) cap) {st with p:=st.p++ [s]}:=by
 refine⟨⟨h.inv.fits,h.inv.t,by have:=h.inv.u;simp;omega,by simp;omega⟩,?_,?_⟩
 ·exact((h.blk.keep j Os).keep C (λe=>F e.symm)).set 2 _
 ·have d:w2.ownsRow (b+1) 9 1 (V (O (A g 0 N)) (st.p.length+1) cap) (st.p.length+1) (st.p.map Value.string++ [Z s]):=U6 E Oo;have D:=d.kept (A6 w2 (A b 2 N) (V (O (A g 0 N)) (st.p.length+1) cap)) (.inr (F9 d (show b<b+1 by omega)));simpa using D
theorem b5F(w:la)(b:Nat)(f:ByteArray)(st:St)(h:X (Rd w b f (V N 0 0) st))(h0:st.p=[]):
 ld prog 92 #[U (O (A b 0 N))] w (a5k w b f (D8 f 1 (L5 f) st)):=by
 have aa:=h.o.lt;have H0:=A1 h0;clear h0;go_enter func92,ntmps92;go_wp2_with (go_at_call 146;refine F6.bind (a0j w b f _ st 1 h Oo) (λer w' hr hg=>⟨rfl, .err (er:=er) (by rw[D8,hr]) rfl rfl hg⟩) ?_;rintro n st1 v w1 HH rfl hR hg;dsimp only)
 have hn:=(T4 HH.o).2;go_loopw [4] (λi wr=>∃(k:Nat) (xs:List Unit) (st2:St) (l:lb),i= J I k/\Mid (L5 f) n st1 k xs st2/\st2.p.length=k/\Rd wr b f l st2/\wr.ownsRow w.heap.size 9 1 l st2.p.length (st2.p.map Value.string)/\w.grownBy wr (O b)) (λi _=>n-(lf i).toNat)
 case atStart=>
  have hp:st1.p=[]:=by rw[(T4 HH.o).1];exact H0.o
  exact⟨0,[],st1,_,rfl, .start _ _ _,by rw[hp];rfl,hR.o,by rw[hp];exact lw _ _ _ _,hg⟩
 case round=>
  obtain⟨k,xs,st2,l,rfl,S,M,T,C,F⟩:=hrel;have HM:=A1 S;have ac:=A1 T;have HO:=A1 C;have HL:=A1 M;have K:=F9 C aa;obtain⟨-,-,-,-,c2,-,-,f2,-⟩:=T.cells;obtain⟨a0,k0,rfl⟩:=F7 C;clear S T C M;by_cases hk:k<n
  ·obtain⟨i,hi,aq,ar,au⟩:=nh a7m;go_wp2_with fail
   have ak:X (Rd wr.drew b f _ st2):=ac.o.keep (A7 _ _)
   go_region_law (first
    |(go_simp
      go_at_call 147
      (refine F6.bind (b6k wr.drew b f _ st2 ak) (λer w' hr D=>⟨rfl, .err (er:=er) (by rw[D8,HH.o];exact HM.o.fail hk (a7A hr)) rfl rfl (A0 (A0 F (A7 _ _)) D)⟩) ?_)
      (rintro s st3 v w3 H3 rfl W D)
      have s3:=lu F.size D.size;(obtain⟨-,-,-,-,ag,-,-,ai,-⟩:=W.o.cells)
      have ad:=W.o.lt;have ah:∀o,(w3.alloc o).cell? (A b 2 N)=O (V a0 st2.p.length k0):=λo=>by rw[World.cell?_alloc_past _ _ _ ad];exact ag
      have aj:=λo=>((A2 w3 o N).frozen_far (A b 2 N) ad Os).trans ai
      dsimp only)
    |(refine step_append_lies _ rfl _ _ 22 rfl w.heap.size 9 i _ 1 16 underlying22 hi aq ar au rfl Od _ st2.p.length (st2.p.map Value.string) rfl ((lk.kept (lk.drew HO.o) D (.inr K)).alloc _) (A w3.heap.size 0 N) 1 1 [Value.string s] rfl rfl (O8 w3 _ _) (by simp[Value.oneCell']) Oo (by have:=HL.o;unfold ln;omega) (by have:=HL.o;omega) Oi _ rfl ?_
      intro g cap w4 j d al av;have c4:=(d.cell_far (A b 2 N) Oi (λe=>K e.symm)).trans (ah _);have f4:=(d.frozen_far (A b 2 N) Oi (λe=>K e.symm)).trans (aj _)))
   all_goals
    have E:=(b5l H3.o).1;have ap:st2.p.length<255:=by have:=HL.o;omega
    have an:=C6 (A0 (A0 (A0 F (A7 _ _)) D) (A2 _ _ _)) d (λg hg=> .inl (K7 HO.o hg).1)
    have ae:X (Rd (w4.setCell (A b 2 N) (V (O (A g 0 N)) (st2.p.length+1) cap)) b f (V (O (A g 0 N)) (st2.p.length+1) cap) {st3 with p:=st3.p++ [s]}):=by
     have:=Rd.setPool (s:=s) (g:=g) (cap:=cap) W.o (A2 w3 _ N) d K aa (by rw[E];exact j) (by rw[E];exact ap);rw[E]at this⊢;exact this
    have ab:X ((w4.setCell (A b 2 N) (V (O (A g 0 N)) (st2.p.length+1) cap)).ownsRow w.heap.size 9 1 (V (O (A g 0 N)) (st2.p.length+1) cap) (st3.p++ [s]).length ((st3.p++ [s]).map Value.string)):=by
     have:=j.kept (A6 w4 (A b 2 N) (V (O (A g 0 N)) (st2.p.length+1) cap)) (.inr (F9 j aa));rw[E];exact c6v
    have af:=A1 (HM.o.step hk (b3A H3.o));have am:w.grownBy (w4.setCell (A b 2 N) (V (O (A g 0 N)) (st2.p.length+1) cap)) (O b):=A0 an (A6 w4 (A b 2 N) _);clear j d al;go_wp2_with fail
    go_roundw
    case rel=>exact⟨k+1,xs++ [()],{st3 with p:=st3.p++ [s]},_,by go_num,af.o,by rw[E];have:=HL.o;simp;omega,ae.o,ab.o,am⟩
    case measure=>simp[lf];omega
  ·go_wp2
   go_end0;have ao:k=n:=by have:=HM.o.1;omega
   subst ao;refine⟨F,?_⟩;rw[D8,HH.o];simp only[HM.o.done];exact⟨trivial,_,ac.o⟩
def a0L(f:ByteArray)(st:St):R Unit:=match K9 f 87 0 st with| .ok (_,st1)=>K9 f 49 1 st1| .error er=> .error er
def c3b(_:la)(v:lb)(_:Unit):Prop:=v= .tuple #[]
theorem b3J(h:C3 f 1 st= .error er):K9 f c i st= .error er:=by simp only[K9,h]
theorem b2W(h:C3 f 1 st= .ok (n,st1))(d:n≠c):K9 f c i st= .error (3,i):=by simp only[K9,h,d,if_false]
theorem b2V(h:C3 f 1 st= .ok (n,st1))(d:n=c):K9 f c i st= .ok ((),st1):=by simp only[K9,h,d,if_true]
theorem c4J(h:¬(n:Int)=IntKind.i64.wrap ((ls #[87,49])[0].toNat:Int)):n≠87:=λe=>h (by subst e;decide)
theorem c4O(h:(n:Int)=IntKind.i64.wrap ((ls #[87,49])[0].toNat:Int)):n=87:=by
 have e:IntKind.i64.wrap ((ls #[87,49])[0].toNat:Int)=87:=by decide
 omega
theorem c4K(h:¬(n:Int)=IntKind.i64.wrap ((ls #[87,49])[1].toNat:Int)):n≠49:=λe=>h (by subst e;decide)
theorem c4P(h:(n:Int)=IntKind.i64.wrap ((ls #[87,49])[1].toNat:Int)):n=49:=by
 have e:IntKind.i64.wrap ((ls #[87,49])[1].toNat:Int)=49:=by decide
 omega
theorem b3I(h:K9 f 87 0 st= .error er):a0L f st= .error er:=by simp only[a0L,h]
theorem a9r{r:R Unit}(h:K9 f 87 0 st= .ok ((),st1))(d:K9 f 49 1 st1=r):a0L f st=r:=by simp only[a0L,h,d]
theorem b5G(w:la)(b:Nat)(f:ByteArray)(pv:lb)(st:St)(h:X (Rd w b f pv st)):
 ld prog 91 #[U (O (A b 0 N))] w (F6 w b f pv (a0L f st) c3b):=by
 go_enter func91,ntmps91;go_wp2_with fail
 go_loopw [3] (λi wr=>w.grownBy wr (O b)/\((i= J I 0/\Rd wr b f pv st)\/(∃st1,i= J I 1/\K9 f 87 0 st= .ok ((),st1)/\Rd wr b f pv st1)\/(∃st2,i= J I 2/\a0L f st= .ok ((),st2)/\Rd wr b f pv st2))) (λi _=>2-(lf i).toNat)
 case atStart=>exact⟨C9 _ _, .inl ⟨rfl,h.o⟩⟩
 case round=>
  obtain⟨D,⟨rfl,g⟩|⟨st1,rfl,M,g⟩|⟨st2,rfl,M,g⟩⟩:=hrel
  ·have K:=A1 (g.keep (A7 _ _));clear g;go_wp2_with fail
   go_region_law (first
    |(go_simp
      go_at_call 146
      refine F6.bind (a0j wr.drew b f pv st 1 K Oo) (λer w' S d=>⟨rfl, .err (er:=er) (b3I (b3J S)) rfl rfl (A0 (A0 D (A7 _ _)) d)⟩) ?_;rintro n st3 v T E rfl C d;dsimp only))
   all_goals
    go_wp2_with fail
    ·rename_i hq _ _;have j:=c4J (by simpa using hq);exact⟨rfl, .err (er:=(3,0)) (b3I (b2W E.o j)) rfl rfl (A0 (A0 D (A7 _ _)) d)⟩
    ·rename_i hq;have j:=c4O (by simpa using hq);exact⟨⟨A0 (A0 D (A7 _ _)) d, .inr (.inl ⟨st3,rfl,b2V E.o j,C.o⟩)⟩,by simp[lf]⟩
  ·have K:=A1 (g.keep (A7 _ _));have F:=A1 M;clear g M;go_wp2_with fail
   go_region_law (first
    |(go_simp
      go_at_call 146
      refine F6.bind (a0j wr.drew b f pv st1 1 K Oo) (λer w' S d=>⟨rfl, .err (er:=er) (a9r F.o (b3J S)) rfl rfl (A0 (A0 D (A7 _ _)) d)⟩) ?_;rintro n st3 v T E rfl C d;dsimp only))
   all_goals
    go_wp2_with fail
    ·rename_i hq _ _;have j:=c4K (by simpa using hq);exact⟨rfl, .err (er:=(3,1)) (a9r F.o (b2W E.o j)) rfl rfl (A0 (A0 D (A7 _ _)) d)⟩
    ·rename_i hq;have j:=c4P (by simpa using hq);exact⟨⟨A0 (A0 D (A7 _ _)) d, .inr (.inr ⟨st3,rfl,a9r F.o (b2V E.o j),C.o⟩)⟩,by simp[lf]⟩
  ·have F:=A1 M;have K:=A1 g;clear g M;go_wp2_with fail
   go_end0;exact .ok F.o D rfl K.o
theorem a5k.bind{P:Program}{j:FuncId}{args:Array lb}{K:lq->la->Prop}
 (E:ld P j args w (a5k w b f r))
 (d:∀er w',r= .error er->w.grownBy w' (O b)->K (.panicked [{v:= .iface 125 (Q #[J I er.1, J I er.2]),recovered:=false}]) w')
 (hok:∀xs st w' pv,X (r= .ok (xs,st))->X (Rd w' b f pv st)->w.grownBy w' (O b)->K (Y (.tuple #[])) w'):ld P j args w K:=
 E.mono λe w' g=>by
  obtain⟨C,g⟩:=g;cases r with
  |ok p=>obtain⟨rfl,pv,D⟩:=g;exact hok p.1 p.2 w' pv rfl D C
  |error er=>subst g;exact d er w' rfl C
theorem b7u{u:Unit}(h:a0L f st= .ok (u,st1))(d:st.p=[]:=by rfl):st1.p=[]:=by
 unfold a0L K9 at h;split at h
 ·rename_i st2 h2;split at h2
  ·cases h2
  ·rename_i h3;split at h2
   ·cases h2;split at h
    ·cases h
    ·rename_i h5;split at h
     ·cases h;rw[(T4 h5).1,(T4 h3).1];exact d
     ·cases h
   ·cases h2
 ·cases h
def a9e(w:la)(r:Except Er Cl)(e:lq)(w':la):Prop:=
 w.grownBy w' N/\match r with
  | .ok c=>∃v,e= Y v/\a1J w.heap.size w' v c
  | .error er=>e=a7x er
theorem a9e.err{r:Except Er Cl}
 (g:r= .error er) (j:x=er.1) (C:y=er.2) (d:w.grownBy w' N):a9e w r (.panicked [{v:= .iface 125 (Q #[J I x, J I y]),recovered:=false}]) w':=by
 subst g j C;exact⟨d,rfl⟩
theorem a3Z(h:w.grownBy w1 N)(d:w1.grownBy w2 (O b))(g:w.heap.size<=b):w.grownBy w2 N:=
 C6 h d (λk e=> .inl (by cases e;exact g))
def a3a(f:ByteArray)(st:St):R Unit:=if st.u<st.p.length then .error (5,f.size)else if st.t<f.size then .error (6,st.t)else .ok ((),st)
section
variable{f:ByteArray}{er:Er}{st2 st3 st4:St}{xs:List Unit}{c:Cl}{u:Unit}
theorem c1e(h:2048<f.size):I9 f= .error (1,0):=by simp only[I9,h,if_true]
theorem b9j(d:¬2048<f.size)(h:a0L f ⟨0,0,[]⟩= .error er):I9 f= .error er:=by
 unfold a0L at h;simp only[I9,d,if_false];split at h
 ·rename_i h1;simp only[h1,h]
 ·rename_i h1;simp only[h1];cases h;rfl
theorem a7a(d:¬2048<f.size)(h:a0L f ⟨0,0,[]⟩= .ok (u,st2)):I9 f=
 match D8 f 1 (L5 f) st2 with
 | .error e=> .error e
 | .ok (_,st3)=>
   match cls f st3 with
   | .error e=> .error e
   | .ok (c,st4)=>
     if st4.u<st4.p.length then .error (5,f.size)else
     if st4.t<f.size then .error (6,st4.t)else .ok c:=by
 unfold a0L at h;simp only[I9,d,if_false];split at h
 ·rename_i h1;simp only[h1,h];rfl
 ·cases h
theorem c1d(d:¬2048<f.size)(g:a0L f ⟨0,0,[]⟩= .ok (u,st2))(h:D8 f 1 (L5 f) st2= .error er):I9 f= .error er:=by rw[a7a d g,h]
theorem c2u(d:¬2048<f.size)(g:a0L f ⟨0,0,[]⟩= .ok (u,st2))(j:D8 f 1 (L5 f) st2= .ok (xs,st3))(h:cls f st3= .error er):I9 f= .error er:=by rw[a7a d g,j];simp only[h]
theorem c2t(d:¬2048<f.size)(g:a0L f ⟨0,0,[]⟩= .ok (u,st2))(j:D8 f 1 (L5 f) st2= .ok (xs,st3))(C:cls f st3= .ok (c,st4))(h:a3a f st4= .error er):I9 f= .error er:=by
 rw[a7a d g,j];simp only[C];unfold a3a at h;split at h
 ·rename_i h5;rw[if_pos h5];cases h;rfl
 ·rename_i h5;rw[if_neg h5];split at h
  ·rename_i h6;rw[if_pos h6];cases h;rfl
  ·cases h
theorem b4m(g:¬2048<f.size)(j:a0L f ⟨0,0,[]⟩= .ok (u,st2))(C:D8 f 1 (L5 f) st2= .ok (xs,st3))(D:cls f st3= .ok (c,st4)){d:St}(h:a3a f st4= .ok (u,d)):I9 f= .ok c:=by
 rw[a7a g j,C];simp only[D];unfold a3a at h;split at h
 ·cases h
 ·rename_i h5;rw[if_neg h5];split at h
  ·cases h
  ·rename_i h6;rw[if_neg h6]
end
theorem b9Q(w:la)(f:ByteArray)(hf:f.size<=ln)(hS:X (Shp w)):
 ld prog 51 #[Z f] w (a9e w (I9 f)):=by
 have HF:f.size<=9223372036854775807:=hf;clear hf;by_cases h0:2048<f.size
 ·go_enter func51,ntmps51;go_wp2
  exact⟨rfl, .err (er:=(1,0)) (c1e h0) rfl rfl (A2 _ _ _)⟩
 ·have aq:=hS.o.1;go_enter func51,ntmps51
  have af:Rd ((w.alloc (H #[Z ⟨#[]⟩, Z ⟨#[]⟩, V N 0 0, V N 0 0] 44)).alloc (H #[Z f, J I 0, V N 0 0, J I 0] 199)) (w.heap.size+1) f (V N 0 0) ⟨0,0,[]⟩:=by
   refine⟨⟨by omega,lr _,lr _,lr _⟩,?_,lw _ _ _ _⟩;have:=A4.new (w.alloc (H #[Z ⟨#[]⟩, Z ⟨#[]⟩, V N 0 0, V N 0 0] 44)) #[Z f, J I 0, V N 0 0, J I 0] 199;simpa using this
  have aa:=(A4.new w #[Z ⟨#[]⟩, Z ⟨#[]⟩, V N 0 0, V N 0 0] 44).keep (A2 _ (H #[Z f, J I 0, V N 0 0, J I 0] 199) N) Os;have ak:w.grownBy ((w.alloc (H #[Z ⟨#[]⟩, Z ⟨#[]⟩, V N 0 0, V N 0 0] 44)).alloc (H #[Z f, J I 0, V N 0 0, J I 0] 199)) N:=A0 (A2 _ _ _) (A2 _ _ _);have W:=(show X _ from af)
  clear af
  go_wp2_with (first
   |(go_at_call 91
     refine F6.bind (b5G _ (w.heap.size+1) f _ _ W) (λer w' S K=>⟨rfl, .err (er:=er) (b9j h0 S) rfl rfl (a3Z ak K Oo)⟩) ?_;rintro u1 st1 v w1 T rfl ag C;have al:=a3Z ak C Oo;have ab:=aa.keep C Os;clear C aa W;dsimp only)
   |(go_at_call 92
     refine a5k.bind (b5F w1 (w.heap.size+1) f st1 ag (b7u T.o)) (λer w' S K=>⟨rfl, .err (er:=er) (c1d h0 T.o S) rfl rfl (a3Z al K Oo)⟩) ?_;rintro xs st2 w2 pv H2 F D;have M:=a3Z al D Oo;have ac:=ab.keep D Os;have s2:=F.o.lt;clear D ab ag;dsimp only)
   |(go_at_call 93
     refine F6.bind (b9m w2 (w.heap.size+1) f pv st2 F (hS.o.keep M Os) Oo) (λer w' S K=>⟨rfl, .err (er:=er) (c2u h0 T.o H2.o S) rfl rfl (a3Z M K Oo)⟩) ?_;rintro c st3 v w3 H3 hc ah j;have am:=a3Z M j Oo;have ad:=ac.keep j Os;have ao:=A1 hc;obtain⟨a1,k1,a2,k2,rfl,-,-⟩:=hc;have s3:=j.size;have au:=ah.o.lt;have ai:=A4.new w3 #[Z c.n, Z c.s, V a1 c.f.length k1, V a2 c.m.length k2] 44;clear j ac F;dsimp only)
   |(go_at_call 94
     refine F6.bind (c2s _ (w.heap.size+1) f pv st3 (ah.o.keep (A2 _ _ _))) (λer w' S K=>⟨rfl, .err (er:=er) (c2t h0 T.o H2.o H3.o S) rfl rfl (a3Z (A0 am (A2 _ _ _)) K Oo)⟩) ?_;rintro u4 st4 v w4 H4 rfl ar d;have ap:=a3Z (A0 am (A2 _ _ _)) d Oo;have E:=(ad.keep (A2 _ _ N) Os).keep d Os;have aj:=ai.keep d Oi;have ae:=(ao.o.keep (A2 _ _ N) (λk e=>by cases e)).keep d (λk e=>by cases e;omega);obtain⟨c0,c1,c2,c3⟩:=E.q4;obtain⟨z0,z1,z2,z3⟩:=E.z4;obtain⟨d0,d1,d2,d3⟩:=aj.q4;have an:=A1 ae;clear d ad ai E aj ae;dsimp only))
  refine lg (v:= Q #[Z c.n, Z c.s, V a1 c.f.length k1, V a2 c.m.length k2]) (by simp[lh,results51,go_sem,c0,c1,c2,c3]) rfl ?_;refine⟨C6 ap (a0G (g:=w.heap.size)) (λk e=> .inl (by cases e;exact le _)),?_⟩;rw[b4m h0 T.o H2.o H3.o H4.o];exact⟨_,rfl,(an.o.keep (a0G (g:=w.heap.size)) (λk e=>by cases e;omega)).base Oo⟩
theorem b2v{P:Program}{c:Code}{fn:Func}{c₀:Frame}{cs:List Frame}{R:lq->FrameMode->la->Prop}{a:Act}{w:la}(u:FrameMode)
 (h:c.wp P (bodyPost P fn (λe w'=>R e u w')) a w):c.wpS P (bodyPostS P fn c₀ cs R) a ({c₀ with mode:=u}::cs) w:=by
 refine wpS_of_wp (Code.wp_mono (λe a' w' hq=> ?_) h);cases e with
 |normal=>obtain⟨hd,v,hr,hR⟩:=hq;exact⟨hd,u,rfl,v,hr,hR⟩
 |ret=>obtain⟨hd,v,hr,hR⟩:=hq;exact⟨hd,u,rfl,v,hr,hR⟩
 |panic F1=>obtain⟨hd,hR⟩:=hq;exact⟨hd,u,rfl,hR⟩
 |outgrown=>exact⟨u,hq⟩
 |exit id=>exact hq
 |goto l=>exact hq
theorem b6F(b1 b2:Nat)(x y ex ey:Int)(w:la)(h1:X (A4 w b1 #[J I x] 46))(h2:X (A4 w b2 #[J I y] 3))(hne:b1≠b2):
 CallsD prog 50 #[U (O (A b1 0 N)), U (O (A b2 0 N))] (.panicking [{v:= .iface 125 (Q #[J I ex, J I ey]),recovered:=false}]) w λe u' w'=>
  e= Y (.tuple #[])/\u'= .panicking [{v:= .iface 125 (Q #[J I ex, J I ey]),recovered:=true}]/\
   A4 w' b1 #[J I ex] 46/\A4 w' b2 #[J I ey] 3/\∃w1,w.grownBy w1 (O b1)/\w1.grownBy w' (O b2):=by
 have c1:=h1.o.cell 0 (J I x) rfl;have c2:=h2.o.cell 0 (J I y) rfl;have f1:=h1.o.frozen 0;have f2:=h2.o.frozen 0;have l1:=h1.o.lt;have l2:=h2.o.lt;refine callsD_of_wpS func50 rfl λc₀ cs hu=> ?_
 simp only[ntmps50,ud,ue,uf,ug,uh,ui,uj,uk,ul,nj,um];apply wpS_seq;apply wpS_region;simp[wpOpsS,go_sem,recoverD,hu,Exit.thenS];refine b2v _ ?_;have hta:∀w,(Instr.typeAssert (.iface 125 (Q #[J I ex, J I ey])) 20 125 true).run prog w= .ok (.tuple #[Q #[J I ex, J I ey], G true]) w:=by intro w;kernel_rfl
 have heq:∀w,(binOp .eql 20 (.iface 125 (Q #[J I ex, J I ey])) .nilIface).run prog w= .ok (G false) w:=by intro w;kernel_rfl
 go_wp2_with fail
 obtain⟨W,hW⟩:=Oe (w.alloc (Obj.cells #[Value.int IntKind.i64 ex,Value.int IntKind.i64 ey] 125))
 rw[<-hW];have hgW:w.grownBy W N:=by rw[hW];exact A2 _ _ _
 have hF:A4 W w.heap.size #[J I ex, J I ey] 125:=by rw[hW];exact A4.new _ _ _
 have HB1:=A1 (h1.o.keep hgW Os);have HB2:=A1 (h2.o.keep hgW Os);have d0:=hF.cell 0 (J I ex) rfl;have d1:=hF.cell 1 (J I ey) rfl;clear c1 c2 f1 f2 hF;have c1:=HB1.o.cell 0 (J I x) rfl;have c2:=HB2.o.cell 0 (J I y) rfl;have f1:=HB1.o.frozen 0;have f2:=HB2.o.frozen 0;have n1:¬b1=w.heap.size:=by omega
 have n2:¬b2=w.heap.size:=by omega
 have n3:¬b2=b1:=λe=>hne e.symm
 clear hW hta heq hu h1 h2;go_region
 go_end0;have hgd:W.grownBy W.drew N:=A7 _ _;have k1:=((HB1.o.keep hgd Os).set 0 (J I ex)).keep (A6 _ (A b2 0 N) (J I ey)) (by simp;exact hne);have k2:=((HB2.o.keep hgd Os).keep (A6 _ (A b1 0 N) (J I ex)) (by simp;exact n3)).set 0 (J I ey);exact⟨rfl,rfl,k1,k2,_,A0 (b3O (A0 hgW hgd)) (A6 _ (A b1 0 N) _),A6 _ (A b2 0 N) _⟩
theorem b7M(b1 b2:Nat)(w:la):
 CallsD prog 50 #[U (O (A b1 0 N)), U (O (A b2 0 N))] .returning w λe u' w'=>e= Y (.tuple #[])/\u'= .returning/\w'=w:=by
 refine callsD_of_wpS func50 rfl λc₀ cs hu=> ?_
 simp only[ntmps50,ud,ue,uf,ug,uh,ui,uj,uk,ul,nj,um];apply wpS_seq;apply wpS_region;simp[wpOpsS,go_sem,recoverD,hu,Exit.thenS];have hc:c₀={c₀ with mode:= .returning}:=by cases c₀;simp_all
 rw[hc];refine b2v _ ?_;go_wp2_with fail
 refine lg (results_none rfl _ _ _) rfl ?_;exact⟨rfl,rfl⟩
theorem G7{p:Prop}(h:p):X p:=h
theorem a8m(w:la)(o:Obj):(w.alloc o).heap.size=w.heap.size+1:=by simp
def a7v(w:la)(r:Except Er Cl)(e:lq)(w':la):Prop:=
 w.grownBy w' N/\∃v c,e= Y (.tuple #[v, J I c.1, J I c.2])/\match r with
  | .ok k=>a1J w.heap.size w' v k/\c=(0,0)
  | .error er=>c=er/\v= Q #[Z ⟨#[]⟩, Z ⟨#[]⟩, V N 0 0, V N 0 0]
theorem b1u(w:la)(f:ByteArray)(hf:f.size<=ln)(hS:X (Shp w)):
 ld prog 18 #[Z f] w (a7v w (I9 f)):=by
 have ab:∀(fn:Fn) (first cap:Array lb) (w:la),(Instr.makeFunc fn first cap).run prog w= .ok (.func fn first cap) w:=λ_ _ _ _=>rfl
 go_enter_defers func18,ntmps18
 have hA:=(((A4.new w #[Z ⟨#[]⟩, Z ⟨#[]⟩, V N 0 0, V N 0 0] 44).keep (A2 _ (H #[J I 0] 46) N) Os).keep (A2 _ (H #[J I 0] 3) N) Os)
 have hE:=((A4.new (w.alloc (H #[Z ⟨#[]⟩, Z ⟨#[]⟩, V N 0 0, V N 0 0] 44)) #[J I 0] 46).keep (A2 _ (H #[J I 0] 3) N) Os)
 have hP:=A4.new ((w.alloc (H #[Z ⟨#[]⟩, Z ⟨#[]⟩, V N 0 0, V N 0 0] 44)).alloc (H #[J I 0] 46)) #[J I 0] 3;have T:w.grownBy (((w.alloc (H #[Z ⟨#[]⟩, Z ⟨#[]⟩, V N 0 0, V N 0 0] 44)).alloc (H #[J I 0] 46)).alloc (H #[J I 0] 3)) N:=A0 (A0 (A2 _ _ _) (A2 _ _ _)) (A2 _ _ _);have aa:=hS.o.keep T Os;simp only[a8m]at hA hE hP;have HA:=G7 hA;have HE:=G7 hE;have HP:=G7 hP;clear hA hE hP;go_wp2_with (go_at_call 51;refine(b9Q _ f hf aa).mono ?_)
 intro e w1 K;obtain⟨D,K⟩:=K;have d:=HA.o.keep D Os;have E:=HE.o.keep D Os;have j:=HP.o.keep D Os;have M:=A1 (A0 T D);cases hd:I9 f with
 |error er=>
  rw[hd]at K;simp only at K;subst K;unfold a7x;dsimp only;have hl:=j.lt;go_wp2_with fail
  refine leaves_cons (f:=50) (args:= #[U (O (A (w.heap.size+1) 0 N)), U (O (A (w.heap.size+1+1) 0 N))]) Os (by simp[go_sem]) ?_;refine(b6F (w.heap.size+1) (w.heap.size+1+1) 0 0 er.1 er.2 w1 E j Oo).mono ?_;rintro e u' w2 ⟨rfl,rfl,k1,k2,w3,g1,g2⟩;have C:=(d.keep g1 Os).keep g2 Oi;have c0:=C.cell 0 (Z ⟨#[]⟩) rfl;have c1:=C.cell 1 (Z ⟨#[]⟩) rfl;have c2:=C.cell 2 (V N 0 0) rfl;have c3:=C.cell 3 (V N 0 0) rfl;have W:=k1.cell 0 (J I er.1) rfl;have d1:=k2.cell 0 (J I er.2) rfl;simp[Leaves,settle,results,results18,go_sem,c0,c1,c2,c3,W,d1];refine⟨?_,_,er,rfl,rfl,rfl⟩;exact C6 (C6 M.o g1 (λk e=>by cases e;exact .inl Oo)) g2 (λk e=>by cases e;exact .inl Oo)
 |ok c=>
  rw[hd]at K;obtain⟨v,rfl,hc⟩:=K;dsimp only;have S:=hc;obtain⟨a1,q1,a2,q2,rfl,-,-⟩:=hc;have HC:X (a1J _ w1 _ c):=S;clear S;have c0:=d.cell 0 (Z ⟨#[]⟩) rfl;have c1:=d.cell 1 (Z ⟨#[]⟩) rfl;have c2:=d.cell 2 (V N 0 0) rfl;have c3:=d.cell 3 (V N 0 0) rfl;obtain⟨z0,z1,z2,z3⟩:=d.z4;have W:=E.cell 0 (J I 0) rfl;have d1:=j.cell 0 (J I 0) rfl;have y0:=E.frozen 0;have y1:=j.frozen 0;have hl:=j.lt;go_wp2_with fail
  refine leaves_cons (f:=50) (args:= #[U (O (A (w.heap.size+1) 0 N)), U (O (A (w.heap.size+1+1) 0 N))]) Os (by simp[go_sem]) ?_;refine(b7M (w.heap.size+1) (w.heap.size+1+1) _).mono ?_;rintro e u' w2 ⟨rfl,rfl,rfl⟩;simp[Leaves,settle,results,results18,go_sem,c0,c1,c2,c3,W,d1]
  have F:a1J (w.heap.size+1+1+1) w1 (Q #[Z c.n, Z c.s, V a1 c.f.length q1, V a2 c.m.length q2]) c:=by
   have:=HC.o;simp only[a8m]at this;exact this
  refine⟨?_,_,(0,0),rfl,?_⟩
  ·exact C6 (C6 (C6 M.o (a0G (g:=w.heap.size)) (λk e=> .inl (by cases e;omega))) (A6 _ (A (w.heap.size+1) 0 N) _) (λk e=> .inl (by cases e;simp))) (A6 _ (A (w.heap.size+1+1) 0 N) _) (λk e=> .inl (by cases e;simp;omega))
  ·rw[hd];refine⟨a1J.base (b1:=w.heap.size+1+1+1) ?_ Oo,rfl⟩;exact((F.keep (a0G (g:=w.heap.size)) (λk e=>by cases e;omega)).keep (A6 _ (A (w.heap.size+1) 0 N) _) (λk e=>by cases e;simp)).keep (A6 _ (A (w.heap.size+1+1) 0 N) _) (λk e=>by cases e;simp)
structure Ey(w:World)(b:Nat)(f:ByteArray)(pv:Value)(a:Nat)(names:List ByteArray)(t0:Int)(e p:Nat):Prop where
 blk:A4 w b #[.string f, .int .i64 a,pv, .int .i64 t0, .int .i64 e, .int .i64 p] 241
 own:w.ownsRow (b+1) 9 1 pv names.length (names.map Value.string)
 fits:f.size<=2048
 t:a<=f.size
 len:names.length<=255
 lo: -1<=t0
 hi:t0<=255
def E7(w:la)(b:Nat)(f:ByteArray)(pv:lb):Except Er St->Prop
 | .ok st=>Inv f st/\Ey w b f pv st.t st.p (st.u-1) 0 0
 | .error er=>er.1≠0/\∃a names t,Ey w b f pv a names t er.1 er.2
section
variable{w w':World}{b k:Nat}{f:ByteArray}{pv:Value}{a e p:Nat}{names:List ByteArray}{t:Int}{s:Except Er St}
theorem Ey.poolNe(h:Ey w b f pv a names t e p):pv.ownBlock≠O b:=F9 h.own Oo
theorem Ey.poolLt(h:Ey w b f pv a names t e p)(hk:w.heap.size<=k):pv.ownBlock≠O k:=by
 intro d;have:=(K7 h.own d).2;omega
variable {row:Option Nat}
theorem Ey.keep(h:Ey w b f pv a names t e p)(d:w.grownBy w' row)(g:O b≠row)(j:pv.ownBlock=N\/pv.ownBlock≠row):Ey w' b f pv a names t e p:=
 ⟨h.blk.keep d g,h.own.kept d j,h.fits,h.t,h.len,h.lo,h.hi⟩
theorem E7.keep(h:E7 w b f pv s)(g:w.grownBy w' row)(d:O b≠row)(j:pv.ownBlock=N\/pv.ownBlock≠row):E7 w' b f pv s:=by
 cases s with
 |ok st=>exact⟨h.1,h.2.keep g d j⟩
 |error er=>obtain⟨C,a,names,t,D⟩:=h;exact⟨C,a,names,t,D.keep g d j⟩
theorem E7.lt(h:E7 w b f pv s):b<w.heap.size:=by
 cases s with
 |ok st=>exact h.2.blk.lt
 |error er=>obtain⟨g,a,names,t,d⟩:=h;exact d.blk.lt
theorem E7.poolLt(h:E7 w b f pv s)(hk:w.heap.size<=k):pv.ownBlock≠O k:=by
 cases s with
 |ok st=>exact h.2.poolLt hk
 |error er=>obtain⟨g,a,names,t,d⟩:=h;exact d.poolLt hk
theorem E7.keep0(h:E7 w b f pv s)(d:w.grownBy w' N):E7 w' b f pv s:=
 h.keep d Os (by cases hv:pv.ownBlock<;>simp)
theorem Ey.setAt(h:Ey w b f pv a names t e p)(n:Nat)(d:n<=f.size):Ey (w.setCell (A b 1 N) (J I n)) b f pv n names t e p:=
 ⟨h.blk.set 1 _,h.own.kept (A6 w (A b 1 N) _) (.inr h.poolNe),h.fits,d,h.len,h.lo,h.hi⟩
theorem Ey.setTop(h:Ey w b f pv a names t e p)(n:Int)(d: -1<=n)(g:n<=255):Ey (w.setCell (A b 3 N) (J I n)) b f pv a names n e p:=
 ⟨h.blk.set 3 _,h.own.kept (A6 w (A b 3 N) _) (.inr h.poolNe),h.fits,h.t,h.len,d,g⟩
theorem Ey.setErr(h:Ey w b f pv a names t e p)(x y:Nat):Ey ((w.setCell (A b 4 N) (J I x)).setCell (A b 5 N) (J I y)) b f pv a names t x y:=
 ⟨(h.blk.set 4 _).set 5 _,(h.own.kept (A6 w (A b 4 N) _) (.inr h.poolNe)).kept (A6 _ (A b 5 N) _) (.inr h.poolNe),h.fits,h.t,h.len,h.lo,h.hi⟩
theorem Ey.cells(h:Ey w b f pv a names t e p):w.cell? (A b 0 N)=O (Z f)/\w.cell? (A b 1 N)=O (J I a)/\w.cell? (A b 2 N)=O pv/\
 w.cell? (A b 3 N)=O (J I t)/\w.cell? (A b 4 N)=O (J I e)/\w.cell? (A b 5 N)=O (J I p)/\
 w.frozen? (A b 1 N)=false/\w.frozen? (A b 2 N)=false/\w.frozen? (A b 3 N)=false/\w.frozen? (A b 4 N)=false/\w.frozen? (A b 5 N)=false:=
 ⟨h.blk.cell 0 _ rfl,h.blk.cell 1 _ rfl,h.blk.cell 2 _ rfl,h.blk.cell 3 _ rfl,h.blk.cell 4 _ rfl,h.blk.cell 5 _ rfl,h.blk.frozen 1,h.blk.frozen 2,h.blk.frozen 3,h.blk.frozen 4,h.blk.frozen 5⟩
end
variable {α β:Type}
def D0(s:Except Er St)(m:St->R α):R α:=match s with| .ok st=>m st| .error er=> .error er
def F5(r:R α):Except Er St:=match r with| .ok (_,st)=> .ok st| .error er=> .error er
def K4(w:la)(b:Nat)(f:ByteArray)(pv:lb)(r:R α)(val:la->lb->α->Prop)(e:lq)(w':la):Prop:=
 w.grownBy w' (O b)/\∃v a,e= Y v/\val w' v a/\(∀a' st,r= .ok (a',st)->a'=a)/\E7 w' b f pv (F5 r)
variable {w w':World}{b k n:Nat}{f:ByteArray}{pv v:Value}
theorem K4.bind{P:Program}{j:FuncId}{args:Array lb}{r:R α}{d:la->lb->α->Prop}{K:lq->la->Prop}
 (C:ld P j args w (K4 w b f pv r d))
 (hok:∀a v w',X (∀g st,r= .ok (g,st)->g=a)->d w' v a->X (E7 w' b f pv (F5 r))->w.grownBy w' (O b)->K (Y v) w'):ld P j args w K:=
 C.mono λe w' D=>by
  obtain⟨E,v,a,rfl,M,ha,F⟩:=D;exact hok a v w' ha M F E
variable {st st1 st2:St}
theorem K4.ok{r:R α}{d:la->lb->α->Prop}(a:α)
 (j:r= .ok (a,st)) (g:w.grownBy w' (O b)) (hv:d w' v a) (h:E7 w' b f pv (.ok st)):K4 w b f pv r d (Y v) w':=by
 subst j;exact⟨g,v,a,rfl,hv,λD C e=>by cases e;rfl,h⟩
variable {er:Er}
theorem K4.err{r:R α}{d:la->lb->α->Prop}(a:α)
 (j:r= .error er) (g:w.grownBy w' (O b)) (hv:d w' v a) (h:E7 w' b f pv (.error er)):K4 w b f pv r d (Y v) w':=by
 subst j;exact⟨g,v,a,rfl,hv,(λD C e=>by cases e),h⟩
def c3W(s:Except Er St)(er:Er):Except Er St:=match s with| .ok _=> .error er| .error er'=> .error er'
theorem Ey.cells0{a:Nat}{names:List ByteArray}{t:Int}(h:Ey w b f pv a names t 0 0):w.cell? (A b 0 N)=O (Z f)/\w.cell? (A b 1 N)=O (J I a)/\w.cell? (A b 2 N)=O pv/\
 w.cell? (A b 3 N)=O (J I t)/\w.cell? (A b 4 N)=O (J I 0)/\w.cell? (A b 5 N)=O (J I 0)/\
 w.frozen? (A b 1 N)=false/\w.frozen? (A b 2 N)=false/\w.frozen? (A b 3 N)=false/\w.frozen? (A b 4 N)=false/\w.frozen? (A b 5 N)=false:=h.cells
theorem a1f(w:la)(b:Nat)(f:ByteArray)(pv:lb)(s:Except Er St)(x y:Nat)(h:X (E7 w b f pv s))(C:x≠0):
 ld prog 115 #[U (O (A b 0 N)), J I x, J I y] w λe w'=>e= Y (.tuple #[])/\w.grownBy w' (O b)/\
  E7 w' b f pv (c3W s (x,y)):=by
 cases s with
 |ok st=>
  obtain⟨j,d⟩:=h.o;have g:=A1 d;obtain⟨-,-,-,-,c4,c5,-,-,-,D,E⟩:=d.cells0;clear h d;go_enter func115,ntmps115;go_wp2_with fail
  go_end0;exact⟨rfl,A0 (A6 _ (A b 4 N) _) (A6 _ (A b 5 N) _),C,_,_,_,g.o.setErr x y⟩
 |error er=>
  have g:=h;obtain⟨j,a,names,t,d⟩:=h.o;obtain⟨-,-,-,-,c4,-,-,-,-,-,-⟩:=d.cells;have F:¬(er.1:Int)=0:=by omega
  clear d;go_enter func115,ntmps115;go_wp2_with fail
  go_end0;exact⟨rfl,C9 _ _,g.o⟩
theorem b8E(x c:Nat)(g:x<2^40)(d:c<256):ll (ll (256*(x:Int))+ll (c:Int))=((x*256+c:Nat):Int):=by unfold ll;omega
theorem b5i(f:ByteArray)(a k m:Nat)(g:m=a+k)(h:m<f.size):(f.data.toList.drop a).take (k+1)=(f.data.toList.drop a).take k++ [f[m]]:=by
 subst g
 have d:k<(f.data.toList.drop a).length:=by
  have:f.data.toList.length=f.size:=by simp
  simp;omega
 rw[ly d];simp;rfl
theorem p8(w:la)(b:Nat)(f:ByteArray)(pv:lb)(s:Except Er St)(n:Nat)(h:X (E7 w b f pv s))(hn:n<=4):
 ld prog 114 #[U (O (A b 0 N)), J I n] w (K4 w b f pv (D0 s (C3 f n)) b4t):=by
 cases s with
 |error er=>
  have F:=h;obtain⟨D,a,names,t,g⟩:=h.o;obtain⟨-,-,-,-,c4,-,-,-,-,-,-⟩:=g.cells;have h3:¬(er.1:Int)=0:=by omega
  clear g;go_enter func114,ntmps114;go_wp2_with fail
  go_loop [5,6] (λx i=>x= J I 0/\i= J I 0) (λ_ _=>0)
  case atStart=>exact⟨rfl,rfl⟩
  case round=>
   obtain⟨rfl,rfl⟩:=hrel;go_wp2_with fail
   all_goals
    go_ret;exact .err (er:=er) 0 rfl (C9 _ _) rfl F.o
 |ok st=>
  obtain⟨D,g⟩:=h.o;have j:=A1 D;have F:=A1 g;have ab:=g.fits;clear h D g;go_enter func114,ntmps114;go_wp2_with fail
  go_loopw [5,6] (λx i wr=>∃k:Nat,k<=n/\st.t+k<=f.size/\i= J I k/\x= J I (beL ((f.data.toList.drop st.t).take k))/\Ey wr b f pv (st.t+k) st.p (st.u-1) 0 0/\w.grownBy wr (O b)) (λ_ i _=>n-(lf i).toNat)
  case atStart=>exact⟨0,lr _,j.o.t,rfl,rfl,F.o,C9 _ _⟩
  case round=>
   obtain⟨k,hk,d,rfl,rfl,E,M⟩:=hrel;obtain⟨m,W⟩:=Oe (st.t+k)
   rw[<-W]at d E;have C:=A1 W;clear W
   have HX:X (beL ((f.data.toList.drop st.t).take k)<256^k):=by
    have D:=a7D ((f.data.toList.drop st.t).take k);have g:((f.data.toList.drop st.t).take k).length<=k:=by simp;omega
    exact nl D (un Oo g)
   obtain⟨c0,c1,-,-,c4,-,f1,-,-,-,-⟩:=E.cells0;have K:=A1 E;clear E;by_cases hlt:k<n
   ·by_cases hs:m<f.size
    ·go_wp2_with fail
     go_quiet (fail)
     go_wp2_with fail
     go_quiet (fail)
     go_wp2_with fail
     refine⟨⟨k+1,hlt,by have:=C.o;omega,by go_num,?_,?_,?_⟩,by simp[lf];omega⟩
     ·rw[b5i f st.t k m C.o hs,b3r];have h4:=HX.o;have h5:256^k<=256^4:=un Oo Oo;exact congrArg (Value.int I) (b8E _ _ Oo (f[m]).toNat_lt)
     ·have h7:=C.o;rw[show st.t+(k+1)=m+1 by omega];exact Ey.setAt (K.o.keep (F4 _ _ N) Os (by cases hv:pv.ownBlock<;>simp)) (m+1) Oo
     ·exact A0 (A0 M (F4 _ _ _)) (A6 _ (A b 1 N) _)
    ·go_wp2_with fail
     go_quiet (fail)
     have HS:X (E7 (wr.drewN nq) b f pv (.ok {st with t:=m})):=⟨⟨j.o.fits,d,j.o.u,j.o.p⟩,K.o.keep (F4 _ _ N) Os (by cases hv:pv.ownBlock<;>simp)⟩
     go_wp2_with (go_at_call 115;refine(a1f _ b f pv _ 2 f.size HS Oo).mono ?_;rintro e w4 ⟨rfl,S,aa⟩)
     go_ret;refine .err (er:=(2,f.size)) 0 ?_ (A0 (A0 M (F4 _ _ _)) S) rfl aa;have h7:=C.o;have h8:¬st.t+n<=f.size:=by omega
     simp only[D0,C3,h8,if_false]
   ·go_wp2_with fail
    go_ret;have T:k=n:=by omega
    subst T;refine .ok (beL ((f.data.toList.drop st.t).take k)) (st:={st with t:=m}) ?_ M rfl ⟨⟨j.o.fits,d,j.o.u,j.o.p⟩,K.o⟩;rw[C.o]at d⊢;simp only[D0,C3,d,if_true]
def E3(r:R α)(m:α->St->R β):R β:=match r with| .ok (a,st)=>m a st| .error er=> .error er
theorem a7o(s:Except Er St)(p:St->R α)(m:α->St->R β):D0 s (λst=>E3 (p st) m)=E3 (D0 s p) m:=by cases s<;>rfl
theorem b2b(f:ByteArray):name f=λst=>E3 (C3 f 1 st) (λn st1=>if n<=st1.u/\n<st1.p.length then .ok (st1.p.getD n li,{st1 with u:=max st1.u (n+1)})else .error (5,st1.t-1)):=by
 funext st
 unfold name E3;cases h:C3 f 1 st with
 |error er=>rfl
 |ok p=>
  obtain⟨n,st1⟩:=p;obtain⟨rfl,-⟩:=T4 h;simp
theorem E7.err(h:E7 w b f pv (.error er)):w.cell? (A b 4 N)=O (J I er.1)/\¬(er.1:Int)=0:=by
 obtain⟨g,a,names,t,d⟩:=h;exact⟨d.cells.2.2.2.2.1,by omega⟩
theorem E7.errAt(h:E7 w b f pv (.error er)):∃a:Nat,w.cell? (A b 1 N)=O (J I a)/\a<=2048:=by
 obtain⟨g,a,names,t,d⟩:=h;exact⟨a,d.cells.2.1,lu d.t d.fits⟩
theorem b0P(w:la)(b:Nat)(f:ByteArray)(pv:lb)(er:Er)(x y:Int)(h:X (E7 w b f pv (.error er))):
 ld prog 115 #[U (O (A b 0 N)), J I x, J I y] w λe w'=>e= Y (.tuple #[])/\w=w':=by
 obtain⟨c4,d⟩:=h.o.err;go_enter func115,ntmps115;go_wp2_with fail
 go_end0;exact⟨rfl,rfl⟩
theorem c2T(h:C3 f k st= .ok (n,st1)):k<=st1.t:=by rw[(T4 h).1];simp
variable {s:Except Er St}
theorem a3i(h:D0 s (C3 f k)= .ok (n,st1)):n<256^k/\k<=st1.t:=by
 cases s with
 |error er=>cases h
 |ok st=>exact⟨(T4 h).2,c2T h⟩
theorem b9i{x:Int}(d:Cf.Inv f st)(D:Ey w b f pv st.t st.p (st.u-1) 0 0)(E:n<st.p.length)(g:n=x/\st.u<=n):
 E7 (w.setCell (A b 3 N) (J I x)) b f pv (.ok {st with u:=max st.u (n+1)}):=by
 obtain⟨rfl,g⟩:=g;have:=d.p;have j:=D.setTop n Oo Oo;refine⟨⟨d.fits,d.t,by simp;omega,d.p⟩,?_⟩;have C:((max st.u (n+1):Nat):Int)-1=n:=by omega
 show Ey _ b f pv st.t st.p (((max st.u (n+1):Nat):Int)-1) 0 0;rw[C];exact j
theorem a3Q(w:la)(b:Nat)(f:ByteArray)(pv:lb)(s:Except Er St)(h:X (E7 w b f pv s)):
 ld prog 117 #[U (O (A b 0 N))] w (K4 w b f pv (D0 s (name f)) a5E):=by
 rw[b2b,a7o];go_enter func117,ntmps117;go_wp2_with (go_at_call 114;refine K4.bind (p8 w b f pv s 1 h Oo) ?_)
 rintro n v w1 K rfl C hg1;try dsimp only
 rcases hr:D0 s (C3 f 1)with er|⟨d,st1⟩
 all_goals
  rw[hr]at K C;have HR:X (D0 s (C3 f 1)=_):=hr;clear hr
 ·
  obtain⟨c4,ad⟩:=C.o.err;go_wp2_with fail
  go_ret;exact .err (er:=er) li (by rw[HR.o];rfl) hg1 rfl C.o
 ·have hn:=K.o d st1 rfl;subst hn;obtain⟨F,M⟩:=C.o;have HI:=A1 F;have E:=A1 M;obtain⟨-,c1,c2,c3,c4,-,-,-,f3,-,-⟩:=M.cells0;have hu:=F.u;have hp:=F.p;have HC:=a3i HR.o;have W:=HC.1;clear C K F M;have HG:=A1 E.o.own;have j:∀(c:¬(d<=st1.u/\d<st1.p.length)),E3 (.ok (d,st1)) (λn st1=>if n<=st1.u/\n<st1.p.length then .ok (st1.p.getD n li,{st1 with u:=max st1.u (n+1)})else .error (5,st1.t-1))=(.error (5,st1.t-1):R ByteArray):=λc=>by simp only[E3];rw[if_neg c]
  have HF:X _:=j;clear j
  have HW:X (ll ((st1.t:Int)-1)=((st1.t-1:Nat):Int)):=by
   exact c6o
  have hsf:X (E7 w1 b f pv (.ok st1)):=⟨HI.o,E.o⟩
  rcases a4z HG.o with⟨rfl,D⟩|⟨g,aa,rfl,ab,hcell⟩
  ·have S:st1.p.length=0:=by rw[D];rfl
   have ac:st1.u=0:=by omega
   by_cases hle:d<=st1.u
   all_goals
    go_wp2_with fail
    rw[HW.o];refine(a1f w1 b f _ _ 5 (st1.t-1) hsf Oo).mono ?_;rintro e w4 ⟨rfl,hg4,hs4⟩;go_wp2_with fail
    go_ret;exact .err (er:=(5,st1.t-1)) li (by rw[HR.o];exact HF.o Oo) (A0 hg1 hg4) rfl hs4
  ·by_cases hle:d<=st1.u
   ·by_cases hlt:d<st1.p.length
    ·have hc:=hcell d hlt;clear hcell;go_wp2_with fail
     ·go_ret;exact .ok st1.p[d] (st:={st1 with u:=max st1.u (d+1)}) (by rw[HR.o];simp[E3,hle,hlt]) (A0 hg1 (A6 _ (A b 3 N) _)) rfl (b9i HI.o E.o hlt Oo)
     ·go_ret;have T:max st1.u (d+1)=st1.u:=by omega
      exact .ok st1.p[d] (st:={st1 with u:=max st1.u (d+1)}) (by rw[HR.o];simp[E3,hle,hlt]) hg1 rfl (by rw[T];exact⟨HI.o,E.o⟩)
    ·exact b0g
   ·exact b0g
theorem a8D(f:ByteArray):kind f=λst=>E3 (C3 f 1 st) (λk st1=>if 4<k then .error (3,st1.t-1)else E3 (Y8 f (a1T k) st1) (λn st2=> .ok (⟨k,n⟩,st2))):=by
 funext st
 unfold kind E3;cases h:C3 f 1 st with
 |error er=>rfl
 |ok p=>
  obtain⟨n,st1⟩:=p;obtain⟨rfl,-⟩:=T4 h;simp only[Nat.add_sub_cancel];split
  ·rfl
  ·cases Y8 f (a1T n) {st with t:=st.t+1}<;>rfl
theorem b3a(W:la)(t:Array lb)(G:Nat)(x y:lb)(T:TypeId)(d:t.getD 2 undef= U (O (A G 0 N)))(h:A4 W G #[x,y] T):(lh Tryz.f118 t).run prog W= .ok (Q #[x,y]) W:=by
 have g:=h.cell 0 x rfl;have j:=h.cell 1 y rfl;rw[uo]at d;simp[lh,results118,go_sem,d,g,j]
theorem a8I(w:la)(b:Nat)(f:ByteArray)(pv:lb)(s:Except Er St)(h:X (E7 w b f pv s)):
 ld prog 118 #[U (O (A b 0 N))] w (K4 w b f pv (D0 s (kind f)) a9X):=by
 rw[a8D,a7o];have aw:=h.o.lt;have D:=h.o.poolLt (le _);go_enter func118,ntmps118;go_wp2_with (go_at_call 114;refine K4.bind (p8 _ b f pv s 1 (h.o.keep0 (A2 _ _ _)) Oo) ?_)
 rintro n v w1 H1 rfl E ab;try dsimp only
 have F:=(A4.new w _ _).keep ab Oi;have ao:=F.lt;obtain⟨w2,W⟩:=Oe (w1.alloc (H #[J I n, Z ⟨#[]⟩] 98))
 have M:w1.grownBy w2 N:=by rw[W];exact A2 _ _ _
 have ag:X (A4 w2 w1.heap.size #[J I n, Z ⟨#[]⟩] 98):=by rw[W];exact A4.new _ _ _
 have ae:=F.keep M Os;have S:=A1 (E.o.keep0 M);have ai:=A1 (L8 (A0 (A2 _ _ _) ab) M);have aa:=A1 (A0 (A2 _ _ _) ab);have au:b<w1.heap.size:=by omega
 have ay:¬w1.heap.size=w.heap.size:=by omega
 have az:¬w.heap.size=w1.heap.size:=by omega
 have ak:=E.o.poolLt (le _);have g0:=F.cell 0 (J I 0) rfl;have g1:=F.cell 1 (Z ⟨#[]⟩) rfl;obtain⟨z0,z1⟩:=F.z2;have af:X (A4 w2 w.heap.size _ _):=ae;have ad:X (A4 w1 w.heap.size #[J I 0, Z ⟨#[]⟩] 98):=F;rcases hr:D0 s (C3 f 1)with er|⟨K,st1⟩
 all_goals
  rw[hr]at H1 S E;have HR:X (D0 s (C3 f 1)=_):=hr;clear hr F ae M
 ·obtain⟨c4,a0⟩:=E.o.err;obtain⟨a,c1,ha⟩:=E.o.errAt;subst W;go_wp2_with (go_at_call 115;refine(b0P _ b f pv er _ _ S).mono ?_;rintro e w4 ⟨rfl,rfl⟩)
  all_goals
   refine lg (v:= Q #[J I n, Z ⟨#[]⟩]) (b3a _ _ w.heap.size (J I n) (Z ⟨#[]⟩) _ rfl (((ad.o.set 0 _).set 1 _).keep (A2 _ _ N) Os)) rfl ?_;exact .err (er:=er) ⟨n,⟨#[]⟩⟩ (by rw[HR.o];rfl) (A0 (a0l aa.o (le _)) (A2 _ _ _)) rfl (((E.o.keep (A6 _ (A w.heap.size 0 N) _) Oi (.inr D)).keep (A6 _ (A w.heap.size 1 N) _) Oi (.inr D)).keep0 (A2 _ _ _))
 ·have hn:=H1.o K st1 rfl;subst hn;have HC:=a3i HR.o;have am:=HC.1;obtain⟨hI,hE⟩:=E.o;have HI:=A1 hI;obtain⟨-,c1,-,-,c4,-,-,-,-,-,-⟩:=hE.cells0;clear hE hI H1
  have HW:X (ll ((st1.t:Int)-1)=((st1.t-1:Nat):Int)):=by
   exact c6o
  subst W;by_cases h4:4<K
  ·go_wp2_with fail
   rw[HW.o];refine(a1f _ b f _ _ 3 (st1.t-1) S Oo).mono ?_;rintro e w4 ⟨rfl,g,T⟩;obtain⟨ar,aq⟩:=(show E7 w4 b f pv (.error (3,st1.t-1))from T).err;have d:=af.o.keep g Oi;have j:=ag.o.keep g Oi;have g0:=d.cell 0 (J I 0) rfl;have g1:=d.cell 1 (Z ⟨#[]⟩) rfl;obtain⟨z0,z1⟩:=d.z2;have t0:=j.cell 0 (J I K) rfl;have t1:=j.cell 1 (Z ⟨#[]⟩) rfl;have ac:=A0 ai.o g;clear d j g;go_wp2_with fail
   refine lg (v:= Q #[J I K, Z ⟨#[]⟩]) (by simp[lh,results118,go_sem,g0,g1]) rfl ?_;exact .err (er:=(3,st1.t-1)) ⟨K,⟨#[]⟩⟩ (by rw[HR.o];simp[E3,h4]) (a0l ac (le _)) rfl ((T.keep (A6 _ (A w.heap.size 0 N) _) Oi (.inr D)).keep (A6 _ (A w.heap.size 1 N) _) Oi (.inr D))
  ·by_cases hh:K=2\/K=4
   ·have HN:X (a1T K=true):=by unfold X a1T;simp;omega
    rcases hh with rfl|rfl
    all_goals
     go_wp2_with (go_at_call 117;refine K4.bind (a3Q _ b f pv _ S) ?_)
     rintro nm v w4 H4 rfl T g;try dsimp only
     have d:=af.o.keep g Oi;have j:=ag.o.keep g Oi;have g0:=d.cell 0 (J I 0) rfl;have g1:=d.cell 1 (Z ⟨#[]⟩) rfl;obtain⟨z0,z1⟩:=d.z2;have t0:=j.c0;have t1:=j.cell 1 (Z ⟨#[]⟩) rfl;have y1:=j.frozen 1;have ac:=A1 (A0 ai.o g);have ax:¬w1.heap.size=w.heap.size:=by omega
     have ap:¬w.heap.size=w1.heap.size:=by omega
     clear d j g;go_wp2_with fail
     refine lg (v:= Q #[J I _, Z nm]) (by simp[lh,results118,go_sem,g0,g1];rfl) rfl ?_;have av:b≠w1.heap.size:=by omega
     have ah:∀x y z,X (E7 ((((w4.setCell (A w1.heap.size 1 N) z).setCell (A w.heap.size 0 N) x).setCell (A w.heap.size 1 N) y)) b f pv (F5 (name f st1))):=λx y z=>
      ((T.o.keep (A6 _ (A w1.heap.size 1 N) _) Oi (.inr ak)).keep (A6 _ (A w.heap.size 0 N) _) Oi (.inr D)).keep (A6 _ (A w.heap.size 1 N) _) Oi (.inr D)
     have aj:∀x y z,w.grownBy (((w4.setCell (A w1.heap.size 1 N) z).setCell (A w.heap.size 0 N) x).setCell (A w.heap.size 1 N) y) (O b):=λx y z=>a0l (Y4 ac.o Oo 1 z) (le _)
     rcases hr2:name f st1 with er|⟨al,st2⟩
     ·have C:=λx y z=>(ah x y z).o
      rw[hr2]at C;exact .err (er:=er) ⟨_,nm⟩ (by rw[HR.o];simp[E3,Y8,HN.o,hr2]) (aj _ _ _) rfl (C _ _ _)
     ·have C:=λx y z=>(ah x y z).o
      rw[hr2]at C;have an:=H4.o al st2 hr2;subst an;exact .ok ⟨_,al⟩ (st:=st2) (by rw[HR.o];simp[E3,Y8,HN.o,hr2]) (aj _ _ _) rfl (C _ _ _)
   ·have HN:X (a1T K=false):=by unfold X a1T;simp;omega
    have k2:((K:Int)==2)=false:=by simp;omega
    have k4:((K:Int)==4)=false:=by simp;omega
    go_wp2_with fail
    refine lg (v:= Q #[J I K, Z ⟨#[]⟩]) (b3a _ _ w.heap.size (J I K) (Z ⟨#[]⟩) _ rfl (((ad.o.set 0 _).set 1 _).keep (A2 _ _ N) Os)) rfl ?_;exact .ok ⟨K,⟨#[]⟩⟩ (st:=st1) (by rw[HR.o];simp[E3,h4,Y8,HN.o];rfl) (A0 (a0l aa.o (le _)) (A2 _ _ _)) rfl (((E.o.keep (A6 _ (A w.heap.size 0 N) _) Oi (.inr D)).keep (A6 _ (A w.heap.size 1 N) _) Oi (.inr D)).keep0 (A2 _ _ _))
def S9(op:Nat):List UInt8:=
 if op=0 then [108]else if op=2\/op=3 then [98]else if 12<=op/\op<=15 then [115]else if op=16\/op=22\/op=28\/op=29 then [99]else if 17<=op/\op<=19 then [99,109]else []
def Y9(op:Nat):ByteArray:=⟨(S9 op).toArray⟩
theorem c0v(d:Nat):(S9 d).length<=2:=by
 unfold S9;repeat' split
 all_goals simp
theorem c1X(g:Nat):∀c∈S9 g,c=98\/c=115\/c=108\/c=99\/c=109:=by
 intro c d;unfold S9 at d;repeat' split at d
 all_goals simp at d
 all_goals first|(subst d;simp)|(rcases d with rfl|rfl<;>simp)
theorem a2h(d:Nat)(w:la):
 ld prog 258 #[J I d] w λe w'=>e= Y (Z (Y9 d))/\w=w':=by
 go_enter func258,ntmps258;go_wp2_with fail
 all_goals
  go_ret;refine⟨congrArg (λx=>Ending.returned (Z x)) ?_,rfl⟩;simp only[Y9,S9];repeat' split
  all_goals first|rfl|(exfalso;simp at*;omega)
def a1l(f:ByteArray)(c:UInt8)(x:In)(st:St):R In:=
 if c=98 then E3 (C3 f 1 st) (λn st1=> .ok ({x with a:=n},st1))
 else if c=115 then E3 (C3 f 2 st) (λn st1=> .ok ({x with a:=n},st1))
 else if c=108 then E3 (C3 f 4 st) (λn st1=> .ok ({x with a:=Y7 4 n},st1))
 else if c=99 then E3 (name f st) (λn st1=> .ok ({x with c:=n},st1))
 else E3 (name f st) (λn st1=> .ok ({x with m:=n},st1))
def a1F(f:ByteArray):List UInt8->In->St->R In
 | [],x,st=> .ok (x,st)
 |c::l,x,st=>E3 (a1l f c x st) (a1F f l)
theorem c4I(f:ByteArray)(st:St)(h:st.t<=f.size):C3 f 0 st= .ok (0,st):=by
 simp[C3,h,beL]
theorem c0D(f:ByteArray)(st:St)(j:st.t<=f.size):ins f st=E3 (C3 f 1 st) (λd st1=>if 32<=d then .error (3,st1.t-1)else a1F f (S9 d) ⟨d,0,li,li⟩ st1):=by
 unfold ins E3;cases h:C3 f 1 st with
 |error er=>rfl
 |ok p=>
  obtain⟨d,st1⟩:=p
  have g:st1.t<=f.size:=by
   rw[C3]at h;split at h
   ·cases h;assumption
   ·cases h
  have C:st1.t-1=st.t:=by rw[(T4 h).1];simp
  simp only[C];split
  ·rfl
  ·rename_i h32;have D:d=0\/d=1\/d=2\/d=3\/d=4\/d=5\/d=6\/d=7\/d=8\/d=9\/d=10\/d=11\/d=12\/d=13\/d=14\/d=15\/d=16\/d=17\/d=18\/d=19\/d=20\/d=21\/d=22\/d=23\/d=24\/d=25\/d=26\/d=27\/d=28\/d=29\/d=30\/d=31:=by omega
   have E:=c4I f st1 g;rcases D with rfl|rfl|rfl|rfl|rfl|rfl|rfl|rfl|rfl|rfl|rfl|rfl|rfl|rfl|rfl|rfl|rfl|rfl|rfl|rfl|rfl|rfl|rfl|rfl|rfl|rfl|rfl|rfl|rfl|rfl|rfl|rfl
   all_goals simp[P0,a0I,a0V,S9,a1F,a1l,E,Y8,Y7,E3]
   all_goals first
    |(cases C3 f 4 st1<;>rfl)
    |(cases C3 f 1 st1<;>rfl)
    |(cases C3 f 2 st1<;>rfl)
    |(cases name f st1<;>rfl)
    |(rcases name f st1 with _|⟨c,st3⟩;rfl;dsimp only;cases name f st3<;>rfl)
theorem c2w(g:∀st,s= .ok st->st.t<=f.size):D0 s (ins f)=E3 (D0 s (C3 f 1)) (λd st1=>if 32<=d then .error (3,st1.t-1)else a1F f (S9 d) ⟨d,0,li,li⟩ st1):=by
 cases s with
 |error er=>rfl
 |ok st=>exact c0D f st (g st rfl)
theorem E7.inv(h:E7 w b f pv s):∀st,s= .ok st->st.t<=f.size:=by
 intro st e;subst e;exact h.1.t
theorem a7s(W:la)(t:Array lb)(G:Nat)(x y z u:lb)(T:TypeId)(d:t.getD 2 undef= U (O (A G 0 N)))(h:A4 W G #[x,y,z,u] T):(lh Tryz.f175 t).run prog W= .ok (Q #[x,y,z,u]) W:=by
 have g:=h.cell 0 x rfl;have j:=h.cell 1 y rfl;have C:=h.cell 2 z rfl;have D:=h.cell 3 u rfl;rw[uo]at d;simp[lh,results175,go_sem,d,g,j,C,D]
def Tot(f:ByteArray)(r:R Nat)(n k:Nat)(x:In)(s2:Except Er St):Prop:=
 match s2 with
 | .ok st2=>E3 r (λop st1=>if 32<=op then .error (3,st1.t-1)else a1F f (S9 op) ⟨op,0,li,li⟩ st1)=a1F f ((S9 n).drop k) x st2
 | .error er=>E3 r (λop st1=>if 32<=op then .error (3,st1.t-1)else a1F f (S9 op) ⟨op,0,li,li⟩ st1)= .error er
variable {r:R Nat}
theorem Tot.start(h:∀g st,r= .ok (g,st)->g=n)(d:¬32<=n):Tot f r n 0 ⟨n,0,⟨#[]⟩,⟨#[]⟩⟩ (F5 r):=by
 cases r with
 |error er=>rfl
 |ok p=>
  obtain⟨a,st⟩:=p;have:=h a st rfl;subst this;simp only[Tot,F5,E3,d,if_false,List.drop_zero];rfl
variable {x:In}
theorem Tot.done(h:Tot f r n k x (.ok st2))(hk:k=(S9 n).length)(j:x.o=n):
 E3 r (λd st1=>if 32<=d then .error (3,st1.t-1)else a1F f (S9 d) ⟨d,0,li,li⟩ st1)= .ok (⟨n,x.a,x.c,x.m⟩,st2):=by
 have g:_=a1F f ((S9 n).drop k) x st2:=h;rw[g,hk,List.drop_length,a1F,<-j]
def a0n(f:ByteArray)(c:UInt8)(x:In)(st:St)(y:In)(s3:Except Er St):Prop:=match s3 with| .ok st3=>a1l f c x st= .ok (y,st3)| .error er=>a1l f c x st= .error er
theorem a4R{y:In}{C:Except Er St}{L:ByteArray}{c:UInt8}(D:X (L.data.toList=S9 n))(j:k<L.size)(E:L.data[k]=c)(h:Tot f r n k x (.ok st2))
 (d:a0n f c x st2 y C):Tot f r n (k+1) y C:=by
 have g:_=a1F f ((S9 n).drop k) x st2:=h;have hk:k<(S9 n).length:=by rw[<-D.o];simpa using j
 have hd:(S9 n).drop k=c::(S9 n).drop (k+1):=by
  rw[List.drop_eq_getElem_cons hk,<-E];congr 1
  have:∀(l:List UInt8) (e:L.data.toList=l) (hk:k<l.length),l[k]=L.data[k]:=by intro l e hk;subst e;simp
  exact this _ D.o hk
 rw[hd]at g;cases C with
 |ok st3=>simp only[Tot];rw[g,a1F];simp only[a0n]at d;rw[d];rfl
 |error er=>simp only[Tot];rw[g,a1F];simp only[a0n]at d;rw[d];rfl
section
variable{f:ByteArray}{x:In}{st:St}
variable {m:Nat}
theorem c1G(h:∀g d,D0 (.ok st) (C3 f 1)= .ok (g,d)->g=m):a0n f 98 x st {x with a:=m} (F5 (C3 f 1 st)):=by
 rcases h1:C3 f 1 st with er|⟨a,s3⟩
 ·simp[a0n,F5,a1l,E3,h1]
 ·exact c6p
theorem c0d(h:∀g d,D0 (.ok st) (C3 f 2)= .ok (g,d)->g=m):a0n f 115 x st {x with a:=m} (F5 (C3 f 2 st)):=by
 rcases h1:C3 f 2 st with er|⟨a,s3⟩
 ·simp[a0n,F5,a1l,E3,h1]
 ·exact c6p
theorem b2P{z:Int}(h:∀g d,D0 (.ok st) (C3 f 4)= .ok (g,d)->g=m)(j:m<256^4->z=Y7 4 m):a0n f 108 x st {x with a:=z} (F5 (C3 f 4 st)):=by
 rcases h1:C3 f 4 st with er|⟨a,C⟩
 ·simp[a0n,F5,a1l,E3,h1]
 ·have:=h a C h1;subst this;simp[a0n,F5,a1l,E3,h1,j (T4 h1).2]
theorem c1F{m:ByteArray}(h:∀g d,D0 (.ok st) (name f)= .ok (g,d)->g=m):a0n f 99 x st {x with c:=m} (F5 (name f st)):=by
 rcases h1:name f st with er|⟨a,s3⟩
 ·simp[a0n,F5,a1l,E3,h1]
 ·exact c6p
theorem c0e{m:ByteArray}(h:∀g d,D0 (.ok st) (name f)= .ok (g,d)->g=m):a0n f 109 x st {x with m:=m} (F5 (name f st)):=by
 rcases h1:name f st with er|⟨a,s3⟩
 ·simp[a0n,F5,a1l,E3,h1]
 ·exact c6p
end
theorem b9I{m:Nat}(h:(2147483648:Int)<=m)(g:m<256^4):ll ((m:Int)-4294967296)=Y7 4 m:=by
 have d:2147483648<=m:=by omega
 unfold ll Y7;rw[if_pos ⟨rfl,d⟩];omega
theorem b6S{m:Nat}(h:¬(2147483648:Int)<=m)(_:m<256^4):(m:Int)=Y7 4 m:=by
 have d:¬2147483648<=m:=by omega
 unfold Y7;rw[if_neg (λhh=>d hh.2)]
theorem c1b(w:la)(b:Nat)(f:ByteArray)(pv:lb)(s:Except Er St)(h:X (E7 w b f pv s)):
 ld prog 175 #[U (O (A b 0 N))] w (K4 w b f pv (D0 s (ins f)) a9Y):=by
 rw[c2w h.o.inv];have a0:=h.o.lt;have ad:=h.o.poolLt (le _);go_enter func175,ntmps175;go_wp2_with (go_at_call 114;refine K4.bind (p8 _ b f pv s 1 (h.o.keep0 (A2 _ _ _)) Oo) ?_)
 rintro n v w1 H1 rfl M ai;try dsimp only
 have ag:=(A4.new w _ _).keep ai Oi;have T:X (A4 w1 w.heap.size #[J I 0, J I 0, Z ⟨#[]⟩, Z ⟨#[]⟩] 120):=ag;have aw:=ag.lt;have ac:=A1 (A0 (A2 _ _ _) ai);have az:b<w1.heap.size:=by omega
 have F:=M.o.poolLt (le _);clear ag;have g0:=T.o.cell 0 (J I 0) rfl;have g1:=T.o.cell 1 (J I 0) rfl;have g2:=T.o.cell 2 (Z ⟨#[]⟩) rfl;have g3:=T.o.cell 3 (Z ⟨#[]⟩) rfl;obtain⟨z0,z1,z2,z3⟩:=T.o.z4;by_cases h32:32<=n
 ·rcases hr:D0 s (C3 f 1)with er|⟨n',st1⟩
  all_goals
   rw[hr]at H1 M;have HR:X (D0 s (C3 f 1)=_):=hr;clear hr
  ·obtain⟨c4,au⟩:=M.o.err;obtain⟨a,c1,ha⟩:=M.o.errAt;go_wp2_with (go_at_call 115;refine(b0P _ b f pv er _ _ (M.o.keep0 (A2 _ _ _))).mono ?_;rintro e w4 ⟨rfl,rfl⟩)
   refine lg (v:= Q #[J I n, J I 0, Z ⟨#[]⟩, Z ⟨#[]⟩]) (a7s _ _ w.heap.size _ _ _ _ _ rfl (((((T.o.set 0 _).set 1 _).set 2 _).set 3 _).keep (A2 _ _ N) Os)) rfl ?_;exact .err (er:=er) ⟨n,0,⟨#[]⟩,⟨#[]⟩⟩ (by rw[HR.o];rfl) (A0 (a1i ac.o (le _)) (A2 _ _ _)) rfl ((M.o.keep (a0G (g:=w.heap.size)) Oi (.inr ad)).keep0 (A2 _ _ _))
  ·have hn:=H1.o n' st1 rfl;subst hn;have HC:=a3i HR.o;have ar:=HC.1;obtain⟨hI,hE⟩:=M.o;have HI:=A1 hI;obtain⟨-,c1,-,-,c4,-,-,-,-,-,-⟩:=hE.cells0;clear hE hI H1
   have HW:X (ll ((st1.t:Int)-1)=((st1.t-1:Nat):Int)):=by
    exact c6o
   go_wp2_with fail
   rw[HW.o];refine(a1f _ b f _ _ 3 (st1.t-1) (M.o.keep0 (A2 _ _ _)) Oo).mono ?_;rintro e w4 ⟨rfl,j,E⟩;have ab:=(T.o.keep (A2 _ _ N) Os).keep j Oi;have C:=A1 ab;have d:=(A4.new w1 #[J I n', J I 0, Z ⟨#[]⟩, Z ⟨#[]⟩] 120).keep j Oi;have g0:=ab.cell 0 (J I 0) rfl;have g1:=ab.cell 1 (J I 0) rfl;have g2:=ab.cell 2 (Z ⟨#[]⟩) rfl;have g3:=ab.cell 3 (Z ⟨#[]⟩) rfl;obtain⟨z0,z1,z2,z3⟩:=ab.z4;have t0:=d.cell 0 (J I n') rfl;have t1:=d.cell 1 (J I 0) rfl;have t2:=d.cell 2 (Z ⟨#[]⟩) rfl;have t3:=d.cell 3 (Z ⟨#[]⟩) rfl;have D:=A0 (A0 ac.o (A2 _ _ _)) j;clear ab d j;go_wp2_with fail
   refine lg (v:= Q #[J I n', J I 0, Z ⟨#[]⟩, Z ⟨#[]⟩]) (a7s _ _ w.heap.size _ _ _ _ _ rfl ((((C.o.set 0 _).set 1 _).set 2 _).set 3 _)) rfl ?_;exact .err (er:=(3,st1.t-1)) ⟨n',0,⟨#[]⟩,⟨#[]⟩⟩ (by rw[HR.o];simp[E3,h32]) (a1i D (le _)) rfl (E7.keep E (a0G (g:=w.heap.size)) Oi (.inr ad))
 ·obtain⟨L,hL⟩:=Oe (Y9 n)
  have HL:=A1 hL;have W:X (L.data.toList=S9 n):=by unfold X;rw[hL];rfl
  have ae:X (L.size=(S9 n).length):=by unfold X;rw[hL];rfl
  clear hL;go_wp2_with (go_at_call 258;refine(a2h n _).mono ?_;rintro e w4 ⟨rfl,rfl⟩;rw[<-HL.o])
  have ak:=c1X n;have ao:X _:=ak;clear ak
  go_loopw [5] (λi wr=>∃(k:Nat) (x:In) (s2:Except Er St),k<=L.size/\i= J I k/\x.o=n/\A4 wr w1.heap.size #[J I n, J I x.a, Z x.c, Z x.m] 120/\
   A4 wr w.heap.size #[J I 0, J I 0, Z ⟨#[]⟩, Z ⟨#[]⟩] 120/\E7 wr b f pv s2/\w.grownBy wr (O b)/\
   Tot f (D0 s (C3 f 1)) n k x s2) (λi _=>L.size-(lf i).toNat)
  case atStart=>
   refine⟨0,⟨n,0,⟨#[]⟩,⟨#[]⟩⟩,F5 (D0 s (C3 f 1)),lr _,rfl,rfl,A4.new _ _ _,T.o.keep (A2 _ _ N) Os,M.o.keep0 (A2 _ _ _),A0 ac.o (A2 _ _ _),?_⟩;exact Tot.start H1.o h32
  case round=>
   obtain⟨k,x,s2,hk,rfl,am,hT,hG,al,aj,af⟩:=hrel;have HT:=A1 hT;have S:=A1 hG;have aa:=A1 am;have ax:L.size<=2:=by have:=ae.o;have:=c0v n;omega
   have HS:=A1 al;have hg:=A1 aj;have HR:=A1 af;have ay:=HT.o.cell 0 (J I n) rfl;clear hT hG am al aj af g0 g1 g2 g3 z0 z1 z2 z3;have av:s2=s2:=rfl;cases s2 with
   |error er=>
    obtain⟨c4,au⟩:=HS.o.err;have g0:=S.o.cell 0 (J I 0) rfl;have g1:=S.o.cell 1 (J I 0) rfl;have g2:=S.o.cell 2 (Z ⟨#[]⟩) rfl;have g3:=S.o.cell 3 (Z ⟨#[]⟩) rfl;obtain⟨z0,z1,z2,z3⟩:=S.o.z4;have t1:=HT.o.cell 1 (J I x.a) rfl;have t2:=HT.o.cell 2 (Z x.c) rfl;have t3:=HT.o.cell 3 (Z x.m) rfl;go_wp2_with fail
    all_goals
     refine lg (v:= Q #[J I n, J I x.a, Z x.c, Z x.m]) (a7s _ _ w.heap.size _ _ _ _ _ rfl ((((S.o.set 0 _).set 1 _).set 2 _).set 3 _)) rfl ?_;exact .err (er:=er) ⟨n,x.a,x.c,x.m⟩ HR.o (a1i hg.o (le _)) rfl (E7.keep HS.o (a0G (g:=w.heap.size)) Oi (.inr ad))
   |ok st2=>
    have c4:=HS.o.2.cells0.2.2.2.2.1;by_cases hlt:k<L.size
    ·have an:=ao.o (L.data[k]) (by rw[<-W.o];simp);have ap:(L[k]'hlt)=L.data[k]:=rfl;have ah:(L[k]'hlt).toNat=(L.data[k]).toNat:=rfl;rcases an with hc|hc|hc|hc|hc
     all_goals
      rw[hc]at ah;have HC:X (L.data[k]=_):=hc;simp only[UInt8.reduceToNat]at ah;clear hc ap
     ·go_wp2_with (go_at_call 114;refine K4.bind (p8 wr b f pv (.ok st2) 1 HS Oo) ?_)
      rintro m v w4 H4 rfl E j;try dsimp only
      have d:=HT.o.keep j Oi;have K:=A1 d;have C:=A1 (S.o.keep j Oi);have t1:=d.cell 1 (J I x.a) rfl;have y1:=d.frozen 1;have D:=A1 (A0 hg.o j);clear d j;go_wp2_with fail
      go_roundw
      case rel=>exact⟨k+1,{x with a:=m},F5 (C3 f 1 st2),hlt,by go_num,aa.o,K.o.set 1 _,C.o.keep (A6 _ (A w1.heap.size 1 N) _) Oi,E.o.keep (A6 _ (A w1.heap.size 1 N) _) Oi (.inr F),Y4 D.o Oo 1 _,a4R W hlt HC.o HR.o (c1G H4.o)⟩
      case measure=>simp[lf];omega
     ·go_wp2_with (go_at_call 114;refine K4.bind (p8 wr b f pv (.ok st2) 2 HS Oo) ?_)
      rintro m v w4 H4 rfl E j;try dsimp only
      have d:=HT.o.keep j Oi;have K:=A1 d;have C:=A1 (S.o.keep j Oi);have t1:=d.cell 1 (J I x.a) rfl;have y1:=d.frozen 1;have D:=A1 (A0 hg.o j);clear d j;go_wp2_with fail
      go_roundw
      case rel=>exact⟨k+1,{x with a:=m},F5 (C3 f 2 st2),hlt,by go_num,aa.o,K.o.set 1 _,C.o.keep (A6 _ (A w1.heap.size 1 N) _) Oi,E.o.keep (A6 _ (A w1.heap.size 1 N) _) Oi (.inr F),Y4 D.o Oo 1 _,a4R W hlt HC.o HR.o (c0d H4.o)⟩
      case measure=>simp[lf];omega
     ·go_wp2_with (go_at_call 114;refine K4.bind (p8 wr b f pv (.ok st2) 4 HS Oo) ?_)
      rintro m v w4 H4 rfl E j;try dsimp only
      have d:=HT.o.keep j Oi;have K:=A1 d;have C:=A1 (S.o.keep j Oi);have t1:=d.cell 1 (J I x.a) rfl;have y1:=d.frozen 1;have D:=A1 (A0 hg.o j);clear d j;by_cases hbig:(2147483648:Int)<=m
      ·go_wp2_with fail
       go_roundw
       case rel=>exact⟨k+1,{x with a:=ll ((m:Int)-4294967296)},F5 (C3 f 4 st2),hlt,by go_num,aa.o,(K.o.set 1 _).set 1 _,(C.o.keep (A6 _ (A w1.heap.size 1 N) _) Oi).keep (A6 _ (A w1.heap.size 1 N) _) Oi,(E.o.keep (A6 _ (A w1.heap.size 1 N) _) Oi (.inr F)).keep (A6 _ (A w1.heap.size 1 N) _) Oi (.inr F),Y4 (Y4 D.o Oo 1 _) Oo 1 _,a4R W hlt HC.o HR.o (b2P H4.o (b9I hbig))⟩
       case measure=>simp[lf];omega
      ·go_wp2_with fail
       go_roundw
       case rel=>exact⟨k+1,{x with a:=m},F5 (C3 f 4 st2),hlt,by go_num,aa.o,K.o.set 1 _,C.o.keep (A6 _ (A w1.heap.size 1 N) _) Oi,E.o.keep (A6 _ (A w1.heap.size 1 N) _) Oi (.inr F),Y4 D.o Oo 1 _,a4R W hlt HC.o HR.o (b2P H4.o (b6S hbig))⟩
       case measure=>simp[lf];omega
     ·go_wp2_with (go_at_call 117;refine K4.bind (a3Q wr b f pv (.ok st2) HS) ?_)
      rintro m v w4 H4 rfl E j;try dsimp only
      have d:=HT.o.keep j Oi;have K:=A1 d;have C:=A1 (S.o.keep j Oi);have t1:=d.cell 2 (Z x.c) rfl;have y1:=d.frozen 2;have D:=A1 (A0 hg.o j);clear d j;go_wp2_with fail
      go_roundw
      case rel=>exact⟨k+1,{x with c:=m},F5 (name f st2),hlt,by go_num,aa.o,K.o.set 2 _,C.o.keep (A6 _ (A w1.heap.size 2 N) _) Oi,E.o.keep (A6 _ (A w1.heap.size 2 N) _) Oi (.inr F),Y4 D.o Oo 2 _,a4R W hlt HC.o HR.o (c1F H4.o)⟩
      case measure=>simp[lf];omega
     ·go_wp2_with (go_at_call 117;refine K4.bind (a3Q wr b f pv (.ok st2) HS) ?_)
      rintro m v w4 H4 rfl E j;try dsimp only
      have d:=HT.o.keep j Oi;have K:=A1 d;have C:=A1 (S.o.keep j Oi);have t1:=d.cell 3 (Z x.m) rfl;have y1:=d.frozen 3;have D:=A1 (A0 hg.o j);clear d j;go_wp2_with fail
      go_roundw
      case rel=>exact⟨k+1,{x with m:=m},F5 (name f st2),hlt,by go_num,aa.o,K.o.set 3 _,C.o.keep (A6 _ (A w1.heap.size 3 N) _) Oi,E.o.keep (A6 _ (A w1.heap.size 3 N) _) Oi (.inr F),Y4 D.o Oo 3 _,a4R W hlt HC.o HR.o (c0e H4.o)⟩
      case measure=>simp[lf];omega
    ·have g0:=S.o.cell 0 (J I 0) rfl;have g1:=S.o.cell 1 (J I 0) rfl;have g2:=S.o.cell 2 (Z ⟨#[]⟩) rfl;have g3:=S.o.cell 3 (Z ⟨#[]⟩) rfl;obtain⟨z0,z1,z2,z3⟩:=S.o.z4;have t1:=HT.o.cell 1 (J I x.a) rfl;have t2:=HT.o.cell 2 (Z x.c) rfl;have t3:=HT.o.cell 3 (Z x.m) rfl;go_wp2_with fail
     refine lg (v:= Q #[J I n, J I x.a, Z x.c, Z x.m]) (a7s _ _ w.heap.size _ _ _ _ _ rfl ((((S.o.set 0 _).set 1 _).set 2 _).set 3 _)) rfl ?_;have aq:k=(S9 n).length:=by have:=ae.o;omega
     exact .ok ⟨n,x.a,x.c,x.m⟩ (st:=st2) (Tot.done HR.o aq aa.o) (a1i hg.o (le _)) rfl (E7.keep HS.o (a0G (g:=w.heap.size)) Oi (.inr ad))
end
end Go.Proofs.YtdhophglnhcjbaaGreatDoor
