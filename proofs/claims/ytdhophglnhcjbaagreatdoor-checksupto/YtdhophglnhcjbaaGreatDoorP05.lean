/- P05: a part of the proof that the last text tells. -/
import Derived.Test.YtdhophglnhcjbaaGreatDoorP04
import Derived.Deep.CutRange
import Derived.Deep.RegionWith
import Derived.Deep.Upon
set_option linter.all false
set_option maxRecDepth 100000
set_option maxHeartbeats 40000000
open Go.Proofs.Tryz
open Go renaming bodyPost_ret->la,results->lb,World->ld,Calls->lf,Addr->lg,Value->lh,bytes->li,maxLen->lj,TypeId->lm,Ending->lq,Operand->nb,TypeInfo->nc,wpList_append_own->ni
open List renaming mem_singleton->lk,getElem_mem->ls,getElem_of_mem->na,length_append->nd,length_eq_zero_iff->nj,getElem_append_left->nk,ext_getElem->nn,mem_map->no,any_eq_false->nq,findIdx?_eq_some_iff_getElem->nt,findIdx?_eq_none_iff->nu
open Go.RowKit renaming intOf->ll
open Go.World renaming size_alloc->ln,ownsRow_nil->lw
open Nat renaming le_refl->lp,le_succ->lu,le_trans->lv,not_lt->ly,lt_or_ge->nh
open Bool renaming eq_iff_iff->lr,and_eq_true->ng,or_eq_false_iff->np,not_eq_true->nr,not_eq_false'->ns
open Option renaming isSome_iff_exists->lx
open Int renaming cast_ofNat_Int->nv
open Option renaming none→N,some→O
open Go.IntKind renaming i64→I
open Go.Value renaming int→J,string→Z,slice→V,pointer→U,bool→G
open Go.Ending renaming returned→Y
open Go.RowKit renaming Hid→X
open Go.Obj renaming cells→H
open Go.Addr renaming mk→A
namespace Go.Proofs.YtdhophglnhcjbaaGreatDoor
section
theorem c8h{P:Prop}(h:P:=by
 have:=A4.new (w.alloc (.cells #[.int .i64 4, .string nm] 98)) #[.int .i64 0, .string ⟨#[]⟩] 98;exact a2f):P:=h
theorem a0i{P:Prop}(h:P:=by
 skip
 go_wp2_with (go_at_call 321;refine(R8 _ _).mono ?_;rintro e w9 ⟨rfl,rfl⟩)
 all_goals exact bodyPost_ret (v:= .slice (some ⟨((w2.alloc (.cells #[.int .i64 1, .string ⟨#[]⟩] 98)).alloc (.cells #[.int .i64 2, .string ⟨#[79,98,106,101,99,116]⟩] 98)).heap.size,0,none⟩) 2 2) (by simp[results,results272,go_sem]) rfl (V4 2 [.int .i64 1, .string ⟨#[]⟩, .int .i64 1, .string ⟨#[]⟩] (HW2.o) (by rw[HT.o.symm];rfl) (by rw[HT.o.symm];rfl) Oo)):P:=h
theorem a0u{P:Prop}(h:P:=by
 skip
 go_wp2_with (go_at_call 321;refine(R8 _ _).mono ?_;rintro e w9 ⟨rfl,rfl⟩)
 all_goals exact bodyPost_ret (v:= .slice (some ⟨((w2.alloc (.cells #[.int .i64 1, .string ⟨#[]⟩] 98)).alloc (.cells #[.int .i64 2, .string ⟨#[79,98,106,101,99,116]⟩] 98)).heap.size,0,none⟩) 1 1) (by simp[results,results272,go_sem]) rfl (V4 1 [.int .i64 1, .string ⟨#[]⟩] (HW2.o) (by rw[HT.o.symm];rfl) (by rw[HT.o.symm];rfl) Oo)):P:=h
theorem a1b{P:Prop}(h:P:=by
 skip
 go_wp2_with (go_at_call 321;refine(R8 _ _).mono ?_;rintro e w9 ⟨rfl,rfl⟩)
 all_goals exact bodyPost_ret (v:= .slice (some ⟨((w2.alloc (.cells #[.int .i64 1, .string ⟨#[]⟩] 98)).alloc (.cells #[.int .i64 2, .string ⟨#[79,98,106,101,99,116]⟩] 98)).heap.size,0,none⟩) 1 1) (by simp[results,results272,go_sem]) rfl (V4 1 [.int .i64 2, .string D5] (HW2.o) (by rw[HT.o.symm];rfl) (by rw[HT.o.symm];rfl) Oo)):P:=h
theorem a1q{P:Prop}(h:P:=by
 skip
 go_wp2_with (go_at_call 320;refine(a0x _ _).mono ?_)
 rintro e w3 ⟨rfl,hg3⟩;go_wp2_with (go_at_call 321;refine(R8 _ _).mono ?_;rintro e w9 ⟨rfl,rfl⟩)
 all_goals exact bodyPost_ret (v:= .slice (some ⟨w3.heap.size,0,none⟩) 1 1) (by simp[results,results272,go_sem]) rfl (V4 1 [.int .i64 0, .string ⟨#[]⟩] (A0 HW2.o hg3) (by rw[HT.o.symm];rfl) (by rw[HT.o.symm];rfl) Oo)):P:=h
theorem a2f{P:Prop}(h:P:=by
 rw[World.size_alloc]at this;exact this):P:=h
theorem b0i{P:Prop}(h:P:=by
 have c0:=hb.c0;have c1:=hb.c1;clear hb;go_enter func268,ntmps268;go_wp2_with fail
 all_goals exact bodyPost_ret (v:= .slice none 0 0) (by simp[results,results268,go_sem]) rfl ⟨HG.o,_,rfl,by simp only[E6];exact World.ownsRow_nil _ _ _ _⟩):P:=h
theorem c6c{P:Prop}(h:P:=by
 have:N7 b=A8:=by unfold N7;rw[if_neg Oo,if_neg Oo]
 rw[this];exact a1M _ _):P:=h
theorem c6m{P:Prop}(h:P:=by
 exact⟨by intro t ht;rw[List.mem_singleton.1 ht];exact h1,by rintro⟨t,ht,e⟩;rw[List.mem_singleton.1 ht]at e;exact absurd e h2⟩):P:=h
theorem c6n{P:Prop}(h:P:=by
 induction l with
 |nil=>rfl
 |cons a l ih=>simp only[List.flatMap_cons,List.length_append,List.length_cons,ih,B8,List.length_nil];omega):P:=h
end
section
open Go.RowKit Go.Shelf Cf
namespace Kx
def a5G:ByteArray:=⟨#[109,105,110,101]⟩
def Rm(w:ld)(B:Nat)(v:lh)(files:List ByteArray)(isnil:Bool):Prop:=
 (isnil=true/\v= V N 0 0)\/
 (isnil=false/\∃g cap,v= V (O (A g 0 N)) files.length cap/\w.ownsRow B 9 1 (V (O (A g 0 N)) (files.length+1) cap) (files.length+1) ((files++ [a5G]).flatMap X3))
theorem a7X:∀(files:List ByteArray),(files.flatMap X3).length=files.length
 | []=>rfl
 |x::l=>by
  rw[List.flatMap_cons,nd,a7X l];simp[X3];omega
variable {w:World}{lim n:Nat}
theorem b2O{base s g cap:Nat}{e:lm}{xs:List lh}(h:w.ownsRow base e s (V (O (A g 0 N)) n cap) n xs):n<=cap/\cap<=lj:=by
 rcases h.2 with⟨v,-⟩|⟨E,d,j,D,-,-,y,B,-⟩
 ·cases v
 ·injection D with _ _ C
  subst C;exact⟨y,B⟩
variable {a:Option Addr}{files:List ByteArray}
theorem c2O{n:Nat}(C:C0 w lim 1 X3 a files){p:lg}(ha:a=O p):∀j u,(files.flatMap X3)[j]? =O u->w.cell? (p.add j)=O u:=by
 intro j u y
 have d:j<files.length:=by
  have:=(List.getElem?_eq_some_iff.1 y).1;have e:=a7X files;omega
 obtain⟨E,v,-,D⟩:=C j d;rw[ha]at v;cases v;have B:=a1U X3 1 (λ_=>rfl) files j d 0 Oo;simp only[Nat.mul_one,Nat.add_zero]at B;have:=D 0 u (by rw[<-B];exact y);simpa using this
theorem b8k(w:ld)(lim:Nat)(hl:lim<=w.heap.size)(files:List ByteArray)(p:lg)(kk:Nat)(hR:X (C0 w lim 1 X3 (O p) files))(hn:files.length<=1048576):
 lf prog 34 #[V (O p) files.length kk] w λe w'=>w.grownBy w' N/\∃v,e= Y v/\Rm w' w.heap.size v files false:=by
 obtain⟨n,C⟩:=Oe files.length
 have HN:=A1 C;have ad:=A1 (c2O (n:=n) hR.o rfl);rw[<-C]at hn⊢;clear C;have ah:∀n k w,(binOp .eql 22 (V (O p) n k) (V N 0 0)).run prog w= .ok (G false) w:=by intro n k w;kernel_rfl
 obtain⟨ab,M,S,T,aa⟩:=info_parts a7m;have ae:X (w.ownsRow w.heap.size 9 1 (V N 0 0) 0 []):=lw _ _ _ _;go_enter func34,ntmps34;go_wp2_with (at_builtin;go_loud (refine ni _ rfl _ _ 22 rfl w.heap.size 9 ab _ 1 16 underlying22 M S T aa rfl Od _ 0 [] rfl ae.o p n kk (files.flatMap X3) rfl (by rw[a7X,Nat.mul_one];exact HN.o.symm) ad.o (by intro u hu;obtain⟨s,-,hs⟩:=List.mem_flatMap.1 hu;simp[X3]at hs;subst hs;rfl) Om Oo (lp _) ?_))
 rintro v1 w1 d y-
 obtain⟨a1,k1,rfl⟩:=F7 d;have D:X (w.grownBy w1 N):=y;have E:=G7 d;clear d y;go_wp2_with (at_builtin;go_loud (refine ni _ rfl _ _ 22 rfl w.heap.size 9 ab _ 1 16 underlying22 M S T aa rfl Od _ n (files.flatMap X3) rfl (World.ownsRow.alloc E.o _) (A w1.heap.size 0 N) 1 1 [Z ⟨#[109,105,110,101]⟩] rfl rfl (O8 w1 [Z ⟨#[109,105,110,101]⟩] 9) (by simp[Value.oneCell']) Om Oo (by have:=D.o.size;simp;omega) ?_))
 rintro v2 w2 j B-
 obtain⟨g,cap,rfl,af,ai⟩:=j.form Oo;have ac:=A1 (C6 (A0 D.o (A2 w1 (H #[Z ⟨#[109,105,110,101]⟩] 9) N)) B (λx e=> .inl (K7 E.o e).1));have F:=G7 j;clear j B;have ag:(n:Int)<=(cap:Int):=by have:=(b2O F.o).1;omega
 go_wp2_with fail
 refine la (v:= V (O (A g 0 N)) n cap) (by simp[lb,results34,go_sem]) rfl ⟨ac.o,_,rfl, .inr ⟨rfl,g,cap,by rw[HN.o],?_⟩⟩;rw[<-HN.o];have:=F.o;rw[List.flatMap_append];exact this
theorem c0z(w:ld)(lim B:Nat)(files:List ByteArray)(p:lg)(kk g cap:Nat)(hR:X (C0 w lim 1 X3 (O p) files))(M:X (w.ownsRow B 9 1 (V (O (A g 0 N)) (files.length+1) cap) (files.length+1) ((files++ [a5G]).flatMap X3)))(hn:files.length<=1048576):
 lf prog 36 #[V (O (A g 0 N)) files.length cap, V (O p) files.length kk] w λe w'=>e= Y (G true)/\w.grownBy w' N:=by
 have d:X (C0 w w.heap.size 1 X3 (O (A g 0 N)) (files++ [a5G])):=V7 (λ_=>rfl) (by rw[nd];exact M.o);have y:=b2O M.o
 have HM:X (w.cell? (A g files.length N)=O (Z ⟨#[109,105,110,101]⟩)):=by
  obtain⟨p',C,-,S⟩:=d.o files.length Os;cases C;have:=S 0 (Z a5G) (by simp[X3]);unfold Addr.add at this;unfold X;by_cases h0:files=[]
  ·subst h0;simpa[a5G]using this
  ·have E:¬files.length=0:=λe=>h0 (nj.1 e)
   simpa[h0,E,a5G]using this
 have HF:X (∀k (hk:k<files.length),w.cell? (A g k N)=O (Z files[k])/\w.cell? (p.add k)=O (Z files[k])):=λk hk=>by
  obtain⟨p',C,-,S⟩:=d.o k Oi;cases C;obtain⟨p',C,-,T⟩:=hR.o k hk;cases C;have F:=S 0 (Z files[k]) (by rw[nk hk];rfl);have h2:=T 0 (Z files[k]) rfl;refine⟨?_,by simpa using h2⟩;unfold Addr.add at F;by_cases h0:k=0
  ·subst h0;simpa using F
  ·simpa[h0]using F
 obtain⟨n,j⟩:=Oe files.length
 have HN:=A1 j;rw[<-j]at hn y HM⊢;clear j d M hR;have ab:∀n k w,(binOp .eql 22 (V (O (A g 0 N)) n k) (V N 0 0)).run prog w= .ok (G false) w:=by intro n k w;kernel_rfl
 have aa:(n:Int)+1<=(cap:Int):=by omega
 have m0:=HM.o;go_enter func36,ntmps36;go_wp2_with fail
 clear m0;go_loopw [5] (λi wr=>∃k:Nat,k<=n/\i= J I k/\X (w.grownBy wr N)) (λi _=>n-(ll i).toNat)
 case atStart=>exact⟨0,by omega,rfl,C9 _ _⟩
 case round=>
  obtain⟨k,hk,rfl,D⟩:=hrel;by_cases hlt:k<n
  ·obtain⟨c0,c1⟩:=HF.o k (by rw[<-HN.o];exact hlt);have c0:=D.o.cell c0 Os;have c1:=D.o.cell c1 Os;generalize files[k]'(by rw[<-HN.o];exact hlt)=s at c0 c1;go_wp2_with fail
   go_quiet (fail)
   go_wp2_with fail
   go_roundw
   case rel=>exact⟨k+1,by omega,by go_num,A0 D.o (F4 _ _ _)⟩
   case measure=>simp[ll];omega
  ·go_wp2_with fail
   refine la (v:= G true) (by simp[lb,results36,go_sem]) rfl ⟨rfl,D.o⟩
theorem b8e(w:ld)(B:Nat)(n g cap:Nat)(xs:List lh)(S:X (w.ownsRow B 9 1 (V (O (A g 0 N)) (n+1) cap) (n+1) xs))(hn:n<=1048576):
 lf prog 37 #[V (O (A g 0 N)) n cap] w λe w'=>(∃v,e= Y v)/\w.grownBy w' (O g):=by
 obtain⟨cs,j⟩:∃cs:Array lh,A4 w g cs 9/\n<cs.size:=by
  rcases S.o.2 with⟨h0,-⟩|⟨g',M,D,hv,-,y,h1,-,h2,-⟩
  ·cases h0
  ·injection hv with ha _ hc
   injection ha with ha
   injection ha with ha _ _
   subst ha hc;exact⟨D,y,by omega⟩
 have T:=A1 j;clear j S;go_enter func37,ntmps37;go_wp2_with fail
 go_loopw [2] (λi wr=>∃k:Nat,k<=n/\i= J I k/\X (w.grownBy wr (O g))/\X (∃cs,A4 wr g cs 9/\n<cs.size)) (λi _=>n-(ll i).toNat)
 case atStart=>exact⟨0,by omega,rfl,C9 _ _,cs,T.o⟩
 case round=>
  obtain⟨k,hk,rfl,y,E⟩:=hrel;by_cases hlt:k<n
  ·obtain⟨aa,d,F⟩:=E.o;have c0:=d.cell k _ (Array.getElem?_eq_getElem Oo);have z0:=d.frozen k;have C:=G7 d;clear d;go_wp2_with fail
   go_roundw
   case rel=>exact⟨k+1,by omega,by go_num,A0 y.o (A6 _ (A g k N) _),_,C.o.set k (Z ⟨#[103,111,110,101]⟩),by simpa using F⟩
   case measure=>simp[ll];omega
  ·go_wp2_with fail
   go_end0;exact⟨⟨_,rfl⟩,y.o⟩
theorem c1H(w:ld)(x:Int):lf prog 38 #[J I x] w λe w'=>e= Y (J I x)/\w'=w:=by
 go_enter func38,ntmps38;go_wp2_with fail
 all_goals exact la (v:= J I x) (by simp[lb,results38,go_sem]) rfl ⟨rfl,rfl⟩
theorem b8j(w:ld):lf prog 34 #[V N 0 0] w λe w'=>e= Y (V N 0 0)/\w'=w:=by
 have d:∀w,(binOp .eql 22 (V N 0 0) (V N 0 0)).run prog w= .ok (G true) w:=by intro w;kernel_rfl
 go_enter func34,ntmps34;go_wp2_with fail
 all_goals exact la (v:= V N 0 0) (by simp[lb,results34,go_sem]) rfl ⟨rfl,rfl⟩
theorem c0y(w:ld):lf prog 36 #[V N 0 0, V N 0 0] w λe w'=>e= Y (G true)/\w'=w:=by
 have d:∀w,(binOp .eql 22 (V N 0 0) (V N 0 0)).run prog w= .ok (G true) w:=by intro w;kernel_rfl
 go_enter func36,ntmps36;go_wp2_with fail
 all_goals exact la (v:= G true) (by simp[lb,results36,go_sem]) rfl ⟨rfl,rfl⟩
theorem b8d(w:ld):lf prog 37 #[V N 0 0] w λe w'=>(∃v,e= Y v)/\w'=w:=by
 go_enter func37,ntmps37;go_wp2_with fail
 go_loopw [2] (λi wr=>i= J I 0/\wr=w) (λ_ _=>0)
 case atStart=>exact⟨rfl,rfl⟩
 case round=>
  obtain⟨rfl,rfl⟩:=hrel;go_wp2_with fail
  go_end0;exact⟨⟨_,rfl⟩,rfl⟩
structure RmK(w:World)(B:Nat)(ra:Option Addr)(n rk:Nat)(files:List ByteArray)(a:Option Addr)(kk:Nat):Prop where
 rd:C0 w w.heap.size 1 X3 ra files
 kept:∀W,w.grownBy W none->Calls prog 36 #[.slice ra n rk, .slice a n kk] W λe w'=>e= .returned (.bool true)/\W.grownBy w' none
 spoil:∀W,w.grownBy W none->Calls prog 37 #[.slice ra n rk] W λe w'=>(∃v,e= .returned v)/\W.grownBy w' (ra.map (·.block))
 low:∀p,ra=some p->B<=p.block/\p.block<w.heap.size
theorem C0.pre{α:Type}{sz:Nat}{enc:α->List lh}{xs B:List α}(h:C0 w lim sz enc a (xs++B)):C0 w lim sz enc a xs:=by
 intro j y;obtain⟨p,e,v,d⟩:=h j Oi;rw[nk y]at d;exact⟨p,e,v,d⟩
theorem b8l(w:ld)(lim:Nat)(hl:lim<=w.heap.size)(files:List ByteArray)(a:Option lg)(y:Nat)(ha:a=N->files.length=0/\y=0)(F:X (C0 w lim 1 X3 a files))(D:files.length<=1048576):
 lf prog 34 #[V a files.length y] w λe w'=>w.grownBy w' N/\∃S rk,e= Y (V S files.length rk)/\RmK w' w.heap.size S files.length rk files a y:=by
 cases a with
 |none=>
  obtain⟨T,rfl⟩:=ha rfl;obtain rfl:=nj.1 T;refine(b8j w).mono ?_;rintro e w' ⟨rfl,rfl⟩;refine⟨C9 _ _,N,0,rfl,⟨λj hj=>absurd hj (Nat.not_lt_zero _),λW _=> ?_,λW _=> ?_,λp e=>by cases e⟩⟩
  ·refine(c0y W).mono ?_;rintro e w' ⟨rfl,rfl⟩;exact⟨rfl,C9 _ _⟩
  ·refine(b8d W).mono ?_;rintro e w' ⟨h,rfl⟩;exact⟨h,C9 _ _⟩
 |some p=>
  refine(b8k w lim hl files p y F D).mono ?_;rintro e w' ⟨M,v,rfl,⟨h,-⟩|⟨-,g,cap,rfl,C⟩⟩
  ·cases h
  ·refine⟨M,_,_,rfl,⟨C0.pre (V7 (λ_=>rfl) (by rw[nd];exact C)),λW B=> ?_,λW B=> ?_,λp e=> ?_⟩⟩
   ·exact c0z W lim w.heap.size files p y g cap (F.o.keep (A0 M B)) (C.kept B (.inr (by simp[Value.ownBlock]))) D
   ·exact b8e W w.heap.size files.length g cap _ (C.kept B (.inr (by simp[Value.ownBlock]))) D
   ·cases e;have:=C.form Oo;obtain⟨g',E,d,h1,h2⟩:=this;injection d with d _ _
    injection d with d
    injection d with d _ _
    subst d;exact⟨h1,h2⟩
def ldE(pv:Option lg)(c x y z:Int):lq:= Y (.tuple #[U pv, J I c, .agg #[J I x, J I y, J I z]])
def b4B(A R:lq->ld->Prop):Prop:=∀e w1 f w2,A e w1->R f w2->∃pv qv c x y z,e=ldE pv c x y z/\f=ldE qv c x y z/\pv.isNone=qv.isNone
def LdA(A R:Nat->lq->ld->Prop)(e:lq)(w':ld):Prop:=
 ∃pv qv c x y z B1 B2 wa wb wm row,e= Y (.tuple #[U pv, U qv, G true])/\pv.isNone=qv.isNone/\A B1 (ldE pv c x y z) wa/\R B2 (ldE qv c x y z) wb/\B1<=B2/\wa.grownBy wm N/\wb.grownBy wm N/\wm.grownBy w' row/\∀g,B1<=g->O g≠row
def LdG(w:ld)(A R:Nat->lq->ld->Prop)(e:lq)(w':ld):Prop:=LdA A R e w'/\w.grownBy w' N
theorem b7w(w:ld)(lim:Nat)(hl:lim<=w.heap.size)(files:List ByteArray)(a:Option lg)(kk:Nat)(ck:Bool)(ha:a=N->files.length=0/\kk=0)(hR:X (C0 w lim 1 X3 a files))(hn:files.length<=1048576)
 (A R:Nat->lq->ld->Prop) (am:∀B e W,A B e W->∃pv c x y z,e=ldE pv c x y z) (al:X (∀B B',b4B (A B) (R B')))
 (an:X (∀W,w.grownBy W N->lf prog 33 #[] W λe w'=>e= Y (G true)/\W.grownBy w' N))
 (hP:X (∀W ra rk,w.grownBy W N->C0 W W.heap.size 1 X3 ra files->lf prog 31 #[V ra files.length rk, G ck] W λe w'=>W.grownBy w' N/\A W.heap.size e w'))
 (hQ:X (∀W,w.grownBy W N->C0 W W.heap.size 1 X3 a files->lf prog 35 #[V a files.length kk, G ck] W λe w'=>W.grownBy w' N/\R W.heap.size e w')):
 lf prog 13 #[V a files.length kk, G ck] w λe w'=>LdG w A R e w':=by
 go_enter func13,ntmps13
 go_wp2_with (first
  |(go_at_call 33;refine(an.o _ (C9 _ _)).mono ?_;rintro e w1 ⟨rfl,j⟩)
  |(go_at_call 34;refine(b8l _ lim (lv hl j.size) files a kk ha (hR.o.keep j) hn).mono ?_;rintro e w2 ⟨ah,ra,rk,rfl,ad⟩)
  |(go_at_call 31;refine(hP.o _ ra rk (A0 j ah) ad.rd).mono ?_))
 rintro e w3 ⟨ab,hA⟩;obtain⟨pv,c,x,y,z,rfl⟩:=am _ _ _ hA;have ac:w3.grownBy (w3.alloc (H #[J I x, J I y, J I z] 78)) N:=A2 _ _ _;have S:=A0 (A0 (A0 j ah) ab) ac;have ai:X (A4 (w3.alloc (H #[J I x, J I y, J I z] 78)) w3.heap.size #[J I x, J I y, J I z] 78):=A4.new w3 _ _;have ak:=G7 (hQ.o _ S ((hR.o.keep S).upto (lv hl S.size)));have F:=G7 ad;have HA:=G7 hA;have T:=A1 (A0 ab ac);clear ad hA;unfold ldE;go_wp2_with (go_at_call 35;refine ak.o.mono ?_)
 rintro e w5 ⟨C,ag⟩;obtain⟨au,qv,c',x',y',z',he,rfl,ar⟩:=al.o _ _ _ _ _ _ HA.o ag;injection he with he
 injection he with he
 simp at he;obtain⟨rfl,rfl,rfl,rfl,rfl⟩:=he;unfold ldE;have D:w5.grownBy (w5.alloc (H #[J I x, J I y, J I z] 78)) N:=A2 _ _ _;have aa:=A1 (A0 (A0 T.o C) D);have aj:X (A4 (w5.alloc (H #[J I x, J I y, J I z] 78)) w5.heap.size #[J I x, J I y, J I z] 78):=A4.new w5 _ _;have ae:=A1 ((ai.o.keep C Os).keep D Os)
 go_wp2_with (first
  |(go_at_call 36;refine(F.o.kept _ aa.o).mono ?_;rintro e w7 ⟨rfl,d⟩)
  |(go_at_call 37;refine(F.o.spoil _ (A0 aa.o d)).mono ?_))
 rintro e w8 ⟨⟨v8,rfl⟩,M⟩
 have E:∀g,w2.heap.size<=g->O g≠ra.map (·.block):=λg hg e=>by
  cases ra with
  |none=>cases e
  |some p=>
   have:=(F.o.low p rfl).2;simp at e;omega
 have af:=T.o.size
 have aq:w.grownBy w8 N:=C6 (A0 (A0 (A0 S C) D) d) M (λk e=> .inl (by
  cases ra with
  |none=>cases e
  |some p=>
   have h1:=(F.o.low p rfl).1;have h2:=j.size;simp at e;omega))
 have ao:=(ae.o.keep d Os).keep M (E _ ab.size);have ap:=(aj.o.keep d Os).keep M (E _ (lv af C.size));obtain⟨r0,r1,r2⟩:=ao.q3;obtain⟨s0,s1,s2⟩:=ap.q3;go_wp2_with (go_at_call 38;refine(c1H _ _).mono ?_;rintro e w9 ⟨rfl,rfl⟩)
 exact la (v:= .tuple #[U pv, U qv, G true]) (by simp[lb,results13,go_sem]) rfl ⟨⟨pv,qv,c,x,y,z,_,_,w3,w5,w7,_,rfl,ar,HA.o,ag,af,A0 (A0 (A0 ac C) D) d,A0 D d,M,E⟩,aq⟩
theorem c2k{d e:List Cl}(B:d.length=files.length)(C:e.length=files.length)(d1:∀i (hi:i<files.length),I9 files[i]= .ok (cl d i))(d2:∀i (hi:i<files.length),I9 files[i]= .ok (cl e i)):d=e:=by
 refine nn Oo λi hi y=> ?_
 have v:=d1 i Oo;have j:=d2 i Oo;rw[v,V8 hi,V8 y]at j;exact Except.ok.inj j
end Kx
namespace Cf
def x8(op:Nat):List UInt8:=
 if op=4\/op=5 then [65]else if op=3 then [78]else if op=6 then [65,65]
 else if(7<=op/\op<=11)\/op=14 then [73,73]else if op=13\/op=21\/op=22\/op=31 then [73]
 else if op=15 then [79,79]else if op=17 then [67]else if op=18 then [67,70]else if op=23 then [76]
 else if op=24 then [74,73]else if op=25 then [74,73,73]else if op=26 then [82,73]else if op=27 then [82,73,69]
 else if op=28\/op=29 then [79]else if op=30 then [84]else []
def N7(t:Ty):Ty:=if t.k=4 then C5 t.n else if t.k=5 then a0X else A8
def a0E(l:List Cl)(c:UInt8)(t first:Ty)(i:In):Bool:=
 if c=73 then decide (t.k=1)
 else if c=78 then decide (t.k≠0)
 else if c=79 then C4 l t (C5 D5)
 else if c=67 then C4 l t (C5 i.c)
 else if c=70 then C4 l t (Z3 l i)
 else if c=84 then C4 l t (C5 G6)
 else if c=76 then decide (t.k=3\/t.k=4\/t.k=5)
 else if c=74 then decide (t.k=3\/t.k=5)
 else if c=82 then decide (t.k=4\/t.k=5)
 else if c=69 then(if first.k=5 then C4 l t (C5 D5)else C4 l t (N7 first))
 else true
def a0R(l:List Cl)(i:In)(first:Ty):List UInt8->List Ty->Bool
 |c::cs,t::ts=>a0E l c t first i&&a0R l i first cs ts
 |_,_=>true
def a3s(l:List Cl)(m:Me)(i:In)(stack locals:List Ty):Bool:=
 a4E l m i stack.length&&
 (if i.o=2 then decide ((locals.getD i.a.toNat A8).k≠0)
  else if i.o=20 then decide (D7 l m i=0)||C4 l ((a1k l m i stack).getD 0 A8) m.r
  else if i.o=19 then C4 l ((a1k l m i stack).getD 0 A8) (C5 i.c)&&T3 l ((a1k l m i stack).drop 1) (O2 l i).p
  else a0R l i ((a1k l m i stack).getD 0 A8) (x8 i.o) (a1k l m i stack))
theorem a9N{n:Nat}(h:n<32):n=0\/n=1\/n=2\/n=3\/n=4\/n=5\/n=6\/n=7\/n=8\/n=9\/n=10\/n=11\/n=12\/n=13\/n=14\/n=15\/n=16\/n=17\/n=18\/n=19\/n=20\/n=21\/n=22\/n=23\/n=24\/n=25\/n=26\/n=27\/n=28\/n=29\/n=30\/n=31:=by omega
variable {l:List Cl}{t:Ty}
theorem b7X(ht:D9 l t):C4 l t O4=decide (t.k=1):=by
 rw[lr,y8 ht (b:=O4) (a3H Oo Oo Oo),decide_eq_true_eq];constructor
 ·rintro(e|e|⟨_,e⟩|⟨_,e,_⟩|⟨_,e⟩)
  ·rw[e];rfl
  ·simp[O4,A8]at e
  ·simp[O4]at e
  ·simp[O4]at e
  ·simp[O4,C5]at e
 ·intro e;exact .inl (a1N ht e Oo Oo)
theorem b1b(ht:D9 l t):C4 l t ⟨3,D4⟩=decide (t.k=3\/t.k=5):=by
 rw[lr,y8 ht (b:=⟨3,D4⟩) (a3H Oo Oo Oo),decide_eq_true_eq];constructor
 ·rintro(e|e|⟨e,_⟩|⟨_,e,_⟩|⟨_,e⟩)
  ·rw[e];exact .inl rfl
  ·simp[A8]at e
  ·exact .inr e
  ·simp at e
  ·simp[C5]at e
 ·rintro(e|e)
  ·exact .inl (a1N ht e Oo Oo)
  ·exact .inr (.inr (.inl ⟨e, .inr (.inl rfl)⟩))
theorem C1.under_object(h:C1 l)(ht:D9 l t):C4 l t (C5 D5)=decide (t.k=2\/t.k=3\/t.k=4\/t.k=5):=by
 rw[lr,y8 ht h.tyOk_object,decide_eq_true_eq];constructor
 ·rintro(e|e|⟨e,_⟩|⟨e,_,_⟩|⟨e,_⟩)
  ·rw[e];exact .inl rfl
  ·simp[C5,A8]at e
  ·omega
  ·omega
  ·omega
 ·intro hk;by_cases h2:t.k=2
  ·have:=ht.2;rw[if_pos (.inl h2)]at this;obtain⟨i,hi⟩:=this;exact .inr (.inr (.inr (.inl ⟨h2,rfl,h.below_object hi⟩)))
  ·by_cases h5:t.k=5
   ·exact .inr (.inr (.inl ⟨h5, .inl rfl⟩))
   ·exact .inr (.inr (.inr (.inr ⟨by omega,rfl⟩)))
theorem len1{l:List Ty}(h:l.length=1):∃a,l=[a]:=by
 match l,h with
 | [a],_=>exact⟨a,rfl⟩
theorem len2{l:List Ty}(h:l.length=2):∃a b,l=[a,b]:=by
 match l,h with
 | [a,b],_=>exact⟨a,b,rfl⟩
theorem len3{l:List Ty}(h:l.length=3):∃a b c,l=[a,b,c]:=by
 match l,h with
 | [a,b,c],_=>exact⟨a,b,c,rfl⟩
theorem c1q{m:Me}{i:In}{s:List Ty}(h:D7 l m i<=s.length):(a1k l m i s).length=D7 l m i:=by
 unfold a1k;simp;omega
theorem C1.fits_eq(h:C1 l)(m:Me)(i:In)(hi:i.o<32)(d C:List Ty)(hs:∀t∈d,D9 l t):a3s l m i d C=Z5 l m i d C:=by
 unfold a3s Z5;cases hr:a4E l m i d.length with
 |false=>rfl
 |true=>
  simp only[Bool.true_and]
  have aa:D7 l m i<=d.length:=by
   unfold a4E at hr;simp only[ng,decide_eq_true_eq]at hr;exact hr.1
  have j:=c1q aa;have B:∀t∈a1k l m i d,D9 l t:=λt ht=>hs t (List.mem_of_mem_drop ht)
  generalize a1k l m i d=top at j B;obtain⟨op,a,c,mb⟩:=i;have E:=λt (ht:D9 l t)=>b7X ht
  have hn:=λt=>a1M l t
  rcases a9N hi with e|e|e|e|e|e|e|e|e|e|e|e|e|e|e|e|e|e|e|e|e|e|e|e|e|e|e|e|e|e|e|e
  all_goals(simp only at e;subst e)
  all_goals(simp[D7,E5]at j)
  all_goals(try(subst j))
  all_goals(try(obtain⟨x,rfl⟩:=len1 j))
  all_goals(try(obtain⟨x,y,rfl⟩:=len2 j))
  all_goals(try(obtain⟨x,y,z,rfl⟩:=len3 j))
  all_goals(try(have D:=B x Os))
  all_goals(try(have S:=B y Os))
  all_goals(try(have hz:=B z Os))
  all_goals(try(simp[x8,a0R,E5,T3,V5,a0E];done))
  all_goals(try(simp[x8,a0R,E5,T3,V5,a0E,E,hn,D];done))
  all_goals(try(simp[x8,a0R,E5,T3,V5,a0E,E,D,S];done))
  ·
   match top,j with
   |x::ts,j=>simp[E5,T3,V5]
  ·
   by_cases hk:m.r.k=0
   ·simp[Z2,hk]at j;subst j;simp[D7,E5,Z2,hk,T3,V5]
   ·simp only[Z2,hk,if_false,List.length_singleton]at j;obtain⟨x,rfl⟩:=len1 j;simp[D7,E5,Z2,hk,T3,V5]
  ·have v:=h.under_object D;simp[x8,a0R,E5,T3,V5,a0E,v];rw[lr];simp;omega
  ·have v:=b1b D;simp[x8,a0R,E5,T3,V5,a0E,v,E,S]
  ·have v:=b1b D;simp[x8,a0R,E5,T3,V5,a0E,v,E,S,hz]
  ·have v:=h.under_object D;simp[x8,a0R,E5,T3,V5,a0E,v,E,S];rw[lr];simp only[a1G];by_cases e4:x.k=4
   ·simp[e4]
   ·by_cases e5:x.k=5
    ·simp[e5]
    ·simp[e4,e5]
  ·have v:=h.under_object D;have T:=h.under_object hz;simp[x8,a0R,E5,T3,V5,a0E,v,T,E,S];by_cases e4:x.k=4
   ·have hc:=D.2;rw[if_pos (.inr e4)]at hc;obtain⟨q,hq⟩:=hc;have M:D9 l (C5 x.n):=⟨by simp[C5],by simp[C5,hq]⟩
    have F:C4 l z (C5 x.n)=true->z.k=2\/z.k=3\/z.k=4\/z.k=5:=λab=>by
     have h3:=h.under_trans hz M h.tyOk_object ab (by rw[h.under_object M];simp[C5]);rw[T]at h3;simpa using h3
    simp[a1G,N7,e4,C5];rw[lr];simp only[ng,decide_eq_true_eq];constructor
    ·rintro⟨g1,g2⟩;exact⟨⟨g1,by simpa using F g2⟩,g2⟩
    ·rintro⟨⟨g1,_⟩,g2⟩;exact⟨g1,g2⟩
   ·by_cases e5:x.k=5
    ·simp[a1G,e5,a0X]
    ·simp[a1G,e4,e5]
end Cf
namespace Cf
def K5(l:List Cl)(a b:List Ty):Prop:=a.length=b.length/\∀j,j<a.length->C4 l (a.getD j A8) (b.getD j A8)=true
def G4(l:List Cl)(a:List Ty):Prop:=∀t∈a,D9 l t
variable {l:List Cl}{a b:List Ty}
theorem b6(h:G4 l a)(j:Nat):D9 l (a.getD j A8):=by
 by_cases hj:j<a.length
 ·have:a.getD j A8=a[j]:=by simp[hj]
  rw[this];exact h _ (ls hj)
 ·have:a.getD j A8=A8:=by simp[Nat.le_of_not_lt hj]
  rw[this];exact a3K
theorem a4u(l:List Cl)(a:List Ty):K5 l a a:=⟨rfl,λ_ _=>a1v _ _⟩
theorem C1.leAll_trans(h:C1 l){c:List Ty}(ha:G4 l a)(y:G4 l b)(B:G4 l c)(d:K5 l a b)(e:K5 l b c):K5 l a c:=
 ⟨d.1.trans e.1,λj v=>h.under_trans (b6 ha j) (b6 y j) (b6 B j) (d.2 j v) (e.2 j (by rw[<-d.1];exact v))⟩
theorem C1.leAll_antisymm(h:C1 l)(ha:G4 l a)(F:G4 l b)(B:K5 l a b)(E:K5 l b a):a=b:=by
 refine nn B.1 λj d e=> ?_
 have v:=B.2 j d;have y:=E.2 j e;have C:a.getD j A8=a[j]:=by simp[d]
 have D:b.getD j A8=b[j]:=by simp[e]
 rw[C,D]at v y;exact h.under_antisymm (ha _ (ls d)) (F _ (ls e)) v y
def T5(c:ByteArray)(m:Me):List Ty:=C5 c::(m.p++List.replicate (m.l-1-m.p.length) A8)
def U8(l:List Cl)(i:In)(s:List Ty)(low:Nat):List Ty:=
 if i.o=2 then [s.getD i.a.toNat A8]
 else if i.o=5 then [s.getD low A8,s.getD low A8]
 else if i.o=6 then [s.getD (low+1) A8,s.getD low A8]
 else if i.o=26 then [N7 (s.getD low A8)]
 else C7 l i
def hdF(m:Me)(d:Hd)(s:List Ty):List Ty:=s.take m.l++ [C5 d.c]
def X9(l:List Cl)(m:Me)(i:In)(s:List Ty):List Ty:=
 (if i.o=3 then(s.take m.l).set i.a.toNat (s.getD (s.length-D7 l m i) A8)else s.take m.l)++((s.take (s.length-D7 l m i)).drop m.l++U8 l i s (s.length-D7 l m i))
def R4(l:List Cl)(m:Me)(at_:Nat):List (Nat×(List Ty->List Ty)):=
 ((m.h.filter λd=>G0 d at_).map λd=>(d.t,hdF m d))++(E6 (A5 m at_) at_).map λx=>(x,X9 l m (A5 m at_))
structure Sol(l:List Cl)(c:ByteArray)(m:Me)(T:Nat->List Ty):Prop where
 shape:∀at_ h,G2 l m at_ h->(T at_).length=m.l+h
 ok:∀at_ h,G2 l m at_ h->G4 l (T at_)
 entry:K5 l (T5 c m) (T 0)
 flow:∀at_ h,G2 l m at_ h->∀q∈R4 l m at_,K5 l (q.2 (T at_)) (T q.1)
structure a2O(l:List Cl)(c:ByteArray)(m:Me)(T:Nat->List Ty):Prop where
 sol:Sol l c m T
 least:∀S,Sol l c m S->∀at_ h,G2 l m at_ h->K5 l (T at_) (S at_)
variable {m:Me}{at_ ht:Nat}
theorem C1.typing_unique(h:C1 l){c:ByteArray}{T S:Nat->List Ty}(j:a2O l c m T)(e:a2O l c m S)(d:G2 l m at_ ht):T at_=S at_:=
 h.leAll_antisymm (j.sol.ok _ _ d) (e.sol.ok _ _ d) (j.least _ e.sol _ _ d) (e.least _ j.sol _ _ d)
structure l4(l:List Cl)(m:Me):Prop where
 room:∀at_ h,G2 l m at_ h->N5 l m at_ h=true
 one:∀at_ h k,G2 l m at_ h->G2 l m at_ k->h=k
 hd:∀at_ h,G2 l m at_ h->∀d∈m.h,G0 d at_=true->m.s≠0
theorem b0A(E:N2 l m)(hi:∀i∈m.c,R7 i)(h:a1R l m N):l4 l m:=by
 have v:=λat_ ht (j:G2 l m at_ ht)=>h at_ (l5 E hi j).1
 refine⟨λa ht j=> ?_,λa ht k B D=> ?_,λa ht j d hd y C=> ?_⟩
 ·cases he:N5 l m a ht with
  |true=>rfl
  |false=>exact absurd (.inl ⟨ht,j,he⟩) (v a ht j)
 ·by_cases e:ht=k
  ·exact e
  ·exact absurd (.inr (.inr ⟨ht,k,e,B,D⟩)) (v a ht B)
 ·exact absurd (.inr (.inl ⟨⟨d,hd,y⟩,⟨ht,j⟩,C⟩)) (v a ht j)
theorem a8y(h:l4 l m)(j:G2 l m at_ ht):
 (∀d∈m.h,G0 d at_=true->G2 l m d.t 1)/\∀x∈E6 (A5 m at_) at_,G2 l m x (a0m l m at_ ht):=by
 refine⟨λd hd e=> ?_,λx v=> ?_⟩
 ·refine(a1c l m).2 at_ ht j (d.t,1) ?_;unfold X6;rw[if_neg (h.hd at_ ht j d hd e)];exact List.mem_append_left _ (no.2 ⟨d,List.mem_filter.2 ⟨hd,e⟩,rfl⟩)
 ·refine(a1c l m).2 at_ ht j (x,a0m l m at_ ht) ?_;unfold X6;rw[if_pos (h.room at_ ht j)];exact List.mem_append_right _ (no.2 ⟨x,v,rfl⟩)
structure Z1(l:List Cl):Prop where
 f:∀i,i<l.length->∀f∈(cl l i).f,D9 l f.ty/\f.ty.k≠0
 meths:∀i,i<l.length->∀m∈(cl l i).m,D9 l m.r/\m.r.k<=4/\(∀p∈m.p,D9 l p/\p.k≠0/\p.k<=4)/\∀d∈m.h,E9 l d.c=true
variable {t:Ty}
theorem a8l(h:a1m t)(ht:V6 l t=true):D9 l t:=by
 obtain⟨v,d,y⟩:=h;refine⟨by omega,?_⟩;by_cases hk:t.k=2\/t.k=4
 ·rw[if_pos hk];have j:t.n≠D4:=λe=>(d.1 e) hk
  unfold V6 at ht;simp only[j,decide_false,Bool.false_or]at ht;exact lx.1 ht
 ·rw[if_neg hk];exact d.2 hk
theorem b3V(d:List Cl)(hok:∀c∈d,a2z c)(h:y6 d= .ok ()):Z1 (B6++d):=by
 have M:=a7l h (λi=>tyR (B6++d) (cl d i)) Os;have S:B6.length=9:=rfl
 have e:∀i,i<9->(cl (B6++d) i).f=[]/\(cl (B6++d) i).m=[]:=by
  intro i v;rw[U0 Oo];rcases a3v v with rfl|rfl|rfl|rfl|rfl|rfl|rfl|rfl|rfl<;>exact⟨rfl,rfl⟩
 have D:∀i,i<(B6++d).length->9<=i->∃q,q<d.length/\i=9+q/\a2z (cl d q)/\tyR (B6++d) (cl d q)=false:=by
  intro i hi v;have y:i-9<d.length:=by simp at hi;omega
  exact⟨i-9,y,by omega,by rw[V8 y];exact hok _ (ls y),M _ y⟩
 constructor
 ·intro i hi f B;by_cases v:i<9
  ·rw[(e i v).1]at B;cases B
  ·obtain⟨q,y,rfl,F,ht⟩:=D i hi Oo;rw[Y6]at B;unfold tyR at ht;simp only[np,nq,nr,ns,decide_eq_false_iff_not]at ht;have:=ht.1 f B;exact⟨a8l (F.f f B).2 this.1,this.2⟩
 ·intro i hi m C;by_cases v:i<9
  ·rw[(e i v).2]at C;cases C
  ·obtain⟨q,y,rfl,F,ht⟩:=D i hi Oo;rw[Y6]at C;unfold tyR at ht;simp only[np,nq,nr]at ht;have:=ht.2 m C;unfold a4a at this;simp only[ns,ng,List.all_eq_true,decide_eq_true_eq]at this;have j:=F.m m C;exact⟨a8l j.2.1 this.1.1,j.2.1.1,λp E=>⟨a8l (j.2.2.1 p E) (this.1.2 p E).1,(this.1.2 p E).2,(j.2.2.1 p E).1⟩,this.2⟩
variable {i:In}
theorem C1.field_ok(h:C1 l)(y:Z1 l)(v:(O0 l i.c i.m).isSome=true):D9 l (Z3 l i)/\(Z3 l i).k≠0:=by
 obtain⟨p,e⟩:=lx.1 v;unfold Z3;rw[e];obtain⟨j,d,_⟩:=h.field_lt e;have:(cl l p.1).f.getD p.2 o7=(cl l p.1).f[p.2]:=by simp[d]
 simp only[this];exact y.f p.1 j _ (ls d)
theorem C1.called_in(h:C1 l)(v:(L6 l i.c i.m).isSome=true):∃k,k<l.length/\O2 l i∈(cl l k).m:=by
 obtain⟨p,e⟩:=lx.1 v;obtain⟨j,d,_⟩:=h.meth_lt e;refine⟨p.1,j,?_⟩;unfold O2;rw[e];unfold V0;have:(cl l p.1).m.getD p.2 G3=(cl l p.1).m[p.2]:=by simp[d]
 simp only[this];exact ls d
theorem C1.puts_ok(h:C1 l)(B:Z1 l)(d:K8 l m i=true):G4 l (C7 l i)/\((∃t∈C7 l i,t.k=0)->i.o=2\/i.o=5\/i.o=6\/i.o=26):=by
 have y:i.o=16\/i.o=22\/i.o=28->∃k,C8 l i.c=O k:=λj=>by
  unfold K8 at d;rw[if_neg Oo,if_neg Oo,if_pos Oo]at d;exact lx.1 d
 have C:i.o=17->D9 l (Z3 l i)/\(Z3 l i).k≠0:=λj=>by
  unfold K8 at d;rw[if_neg Oo,if_neg Oo,if_neg Oo,if_pos Oo]at d;exact h.field_ok B d
 have D:i.o=19->D9 l (O2 l i).r:=λj=>by
  unfold K8 at d;rw[if_neg Oo,if_neg Oo,if_neg Oo,if_neg Oo,if_pos j]at d;obtain⟨k,hk,v⟩:=h.called_in d;exact(B.meths k hk _ v).1
 unfold C7;split
 ·exact⟨by intro t ht;rw[lk.1 ht];exact a3H Oo Oo Oo,by rintro⟨t,ht,e⟩;rw[lk.1 ht]at e;simp[O4]at e⟩
 split
 ·exact⟨by intro t ht;rw[lk.1 ht];exact a3H Oo Oo Oo,by rintro⟨t,ht,e⟩;rw[lk.1 ht]at e;simp[a0X]at e⟩
 split
 ·exact⟨by intro t ht;rw[lk.1 ht];exact a3K,λ_=>by omega⟩
 split
 ·exact⟨by intro t ht;simp only[List.mem_cons,List.not_mem_nil,or_false,or_self]at ht;rw[ht];exact a3K,λ_=>by omega⟩
 split
 ·rename_i e;obtain⟨k,hk⟩:=y Oo;exact⟨by intro t ht;rw[lk.1 ht];exact⟨by simp[C5],by simp[C5,hk]⟩,by rintro⟨t,ht,e⟩;rw[lk.1 ht]at e;simp[C5]at e⟩
 split
 ·rename_i e;obtain⟨h1,h2⟩:=C e;exact c6m
 split
 ·rename_i e;have h1:=D e;unfold Z2;split
  ·exact⟨(by intro t ht;cases ht),(by rintro⟨t,ht,_⟩;cases ht)⟩
  ·rename_i h2;exact c6m
 split
 ·exact⟨by intro t ht;rw[lk.1 ht];exact a3H Oo Oo Oo,by rintro⟨t,ht,e⟩;rw[lk.1 ht]at e;simp at e⟩
 split
 ·rename_i e;obtain⟨k,hk⟩:=y Oo;exact⟨by intro t ht;rw[lk.1 ht];exact⟨by simp,by simp[hk]⟩,by rintro⟨t,ht,e⟩;rw[lk.1 ht]at e;simp at e⟩
 ·exact⟨(by intro t ht;cases ht),(by rintro⟨t,ht,_⟩;cases ht)⟩
theorem b3k(h:D9 l t):D9 l (N7 t):=by
 unfold N7;split
 ·rename_i e;have:=h.2;rw[if_pos (.inr e)]at this;exact⟨by simp[C5],by simpa[C5]using this⟩
 ·split
  ·exact a3H Oo Oo Oo
  ·exact a3K
theorem b1t{a b:Ty}(ha:D9 l a)(B:D9 l b)(h:C4 l a b=true):C4 l (N7 a) (N7 b)=true:=by
 rw[y8 ha B]at h;rcases h with e|e|⟨j,d⟩|⟨j,d,_⟩|⟨j,e⟩
 ·rw[e];exact a1v _ _
 ·rw[e];exact a1M _ _
 ·rcases d with d|d|d
  ·exact c6c
  ·exact c6c
  ·have v:N7 a=a0X:=by unfold N7;rw[if_neg Oo,if_pos j]
   have y:N7 b=C5 b.n:=by unfold N7;rw[if_pos d]
   rw[v,y];simp[C4,a0X,C5]
 ·exact c6c
 ·have:N7 b=A8:=by rw[e];simp[N7,C5]
  rw[this];exact a1M _ _
end Cf
namespace Kx
theorem a2N(w:ld)(s:ByteArray):lf prog 131 #[Z s] w λe w'=>e= Y (.agg #[J I 2, Z s])/\w.grownBy w' N:=by
 have j:w.grownBy (w.alloc (H #[J I 2, Z s] 98)) N:=A2 _ _ _;have d:=A4.new w #[J I 2, Z s] 98;have q0:=d.c0;have y:=d.c1;go_enter func131,ntmps131;go_wp2_with fail
 all_goals exact la (v:= .agg #[J I 2, Z s]) (by simp[lb,results131,go_sem,q0,y]) rfl ⟨rfl,j⟩
theorem a6G(w:ld)(h:Hd)(at_:Nat):lf prog 185 #[.agg #[J I h.f, J I h.to, J I h.t, Z h.c], J I at_] w λe w'=>e= Y (G (G0 h at_))/\w.grownBy w' N:=by
 have B:=A4.new w #[J I h.f, J I h.to, J I h.t, Z h.c] 202;obtain⟨c0,c1⟩:=B.q2;have y:w.grownBy (w.alloc (H #[J I h.f, J I h.to, J I h.t, Z h.c] 202)) N:=A2 _ _ _;go_enter func185,ntmps185;by_cases h1:h.f<=at_
 ·have d:(h.f:Int)<=at_:=by omega
  by_cases h2:at_<h.to
  ·have j:(at_:Int)<h.to:=by omega
   go_wp2_with fail
   all_goals exact la (v:= G true) (by simp[lb,results185,go_sem,h1,h2]) rfl ⟨by simp[G0,h1,h2],y⟩
  ·have j:¬(at_:Int)<h.to:=by omega
   go_wp2_with fail
   all_goals exact la (v:= G false) (by simp[lb,results185,go_sem,h1,h2,ly.1 h2]) rfl ⟨by simp[G0,h2,ly.1 h2],y⟩
 ·have d:¬(h.f:Int)<=at_:=by omega
  go_wp2_with fail
  all_goals exact la (v:= G false) (by simp[lb,results185,go_sem,h1,Nat.not_le.1 h1]) rfl ⟨by simp[G0,h1],y⟩
def M7(t:Ty):lh:= .agg #[J I t.k, Z t.n]
theorem b1U(w:ld)(t:Ty):lf prog 264 #[M7 t] w λe w'=>e= Y (M7 (N7 t))/\w.grownBy w' N:=by
 obtain⟨k,nm⟩:=t;unfold M7 N7;dsimp only;have T:k=4\/k=5\/(k≠4/\k≠5):=by omega
 rcases T with rfl|rfl|⟨M,S⟩
 ·rw[if_pos rfl];dsimp only[C5];have F:X (w.grownBy ((w.alloc (H #[J I 4, Z nm] 98)).alloc (H #[J I 0, Z ⟨#[]⟩] 98)) N):=A0 (A2 _ _ _) (A2 _ _ _)
  have E:X (A4 ((w.alloc (H #[J I 4, Z nm] 98)).alloc (H #[J I 0, Z ⟨#[]⟩] 98)) (w.heap.size+1) #[J I 0, Z ⟨#[]⟩] 98):=by
   exact c8h
  go_enter func264,ntmps264;go_wp2_with (go_at_call 131;refine(a2N _ _).mono ?_)
  rintro e w1 ⟨rfl,B⟩;have j:=E.o.keep B Os;obtain⟨r0,r1⟩:=j.q2;obtain⟨z0,z1⟩:=j.z2;go_wp2_with fail
  all_goals
   clear r0 r1 z0 z1;have y:=(j.set 0 (J I 2)).set 1 (Z nm);have C:=C6 (A0 F.o B) (A0 (A6 w1 (A (w.heap.size+1) 0 N) (J I 2)) (A6 _ (A (w.heap.size+1) 1 N) (Z nm))) (λk e=>by cases e;exact .inl (lu _));generalize (w1.setCell (A (w.heap.size+1) 0 N) (J I 2)).setCell (A (w.heap.size+1) 1 N) (Z nm)=W6 at y C⊢;have q0:=y.c0;have D:=y.c1;exact la (v:= .agg #[J I 2, Z nm]) (by simp[lb,results264,go_sem,q0,D]) rfl ⟨rfl,C⟩
 ·rw[if_neg Od,if_pos rfl];go_enter func264,ntmps264;go_wp2_with fail
  all_goals
   have d:=A4.new (w.alloc (H #[J I 5, Z nm] 98)) #[J I 5, Z ⟨#[]⟩] 98;rw[ln]at d;have q0:=d.c0;have D:=d.c1;exact la (v:= .agg #[J I 5, Z ⟨#[]⟩]) (by simp[lb,results264,go_sem,q0,D]) rfl ⟨rfl,A0 (A2 _ _ _) (A2 _ _ _)⟩
 ·have k4:¬(k:Int)=4:=by omega
  have k5:¬(k:Int)=5:=by omega
  rw[if_neg M,if_neg S];go_enter func264,ntmps264;go_wp2_with fail
  all_goals
   have d:=A4.new (w.alloc (H #[J I k, Z nm] 98)) #[J I 0, Z ⟨#[]⟩] 98;rw[ln]at d;have q0:=d.c0;have D:=d.c1;exact la (v:= .agg #[J I 0, Z ⟨#[]⟩]) (by simp[lb,results264,go_sem,q0,D]) rfl ⟨rfl,A0 (A2 _ _ _) (A2 _ _ _)⟩
def a0K(op:Nat):List UInt8:=
 if op=0\/(7<=op/\op<=11)\/op=23\/op=24\/op=29 then [73]else if op=1 then [48]else if op=2 then [86]
 else if op=5 then [49,49]else if op=6 then [50,49]else if op=16\/op=28 then [67]else if op=17 then [70]
 else if op=21 then [74]else if op=22 then [82]else if op=26 then [69]else []
theorem b1g(d:Nat)(w:ld):
 lf prog 189 #[J I d] w λe w'=>e= Y (Z ⟨(x8 d).toArray⟩)/\w=w':=by
 go_enter func189,ntmps189;go_wp2_with fail
 all_goals
  go_ret;refine⟨congrArg (λx=>Ending.returned (Z x)) ?_,rfl⟩;try simp only[beq_iff_eq,beq_eq_false_iff_ne,ne_eq]at*
  unfold x8;repeat (first|rw[if_pos Oo]|rw[if_neg Oo])
  try rfl
theorem b1N(d:Nat)(w:ld):
 lf prog 263 #[J I d] w λe w'=>e= Y (Z ⟨(a0K d).toArray⟩)/\w=w':=by
 go_enter func263,ntmps263;go_wp2_with fail
 all_goals
  go_ret;refine⟨congrArg (λx=>Ending.returned (Z x)) ?_,rfl⟩;try simp only[beq_iff_eq,beq_eq_false_iff_ne,ne_eq]at*
  unfold a0K;repeat (first|rw[if_pos Oo]|rw[if_neg Oo])
  try rfl
def P7(x:Nat):List lh:=[J I x]
variable {W w w' w1:World}{cap g k lim r wb:Nat}
theorem b9Z{xs:List Nat}(h:w.grownBy w' N)(B:w.heap.size<=g)(e:g<w'.heap.size)(v:∀(j x:Nat),xs[j]? =O x->w'.cell? (A g j N)=O (J I x)):C0 w' w'.heap.size 1 P7 (O (A g 0 N)) xs:=λj y=>
 ⟨(A g 0 N),rfl,e,λr u d=>by
   have:r=0:=by
    rcases r with _|r
    ·rfl
    ·simp[P7]at d
   subst this;simp only[P7,List.getElem?_cons_zero,Option.some.injEq]at d;subst d;rw[show((A g 0 N):lg).add (j*1+0)=(A g j N)by unfold Addr.add;split<;>simp_all];exact v j _ (List.getElem?_eq_getElem y)⟩
def inV(i:In):lh:= .agg #[J I i.o, J I i.a, Z i.c, Z i.m]
theorem c5c(X:ByteArray)(h:X≠⟨#[115]⟩):(X.toList==[115])=false:=by
 have:=l6 h;rwa[show(⟨#[115]⟩:ByteArray).toList=[115]by simp]at this
theorem a9l(w:ld)(g:Nat)(v:g=w.heap.size)(xs:List Nat)(cs:Array lh)(e:cs=(xs.map λx:Nat=>Value.int I x).toArray):C0 (w.alloc (H cs 3)) (w.alloc (H cs 3)).heap.size 1 P7 (O (A g 0 N)) xs:=by
 subst v;have d:=A4.new w cs 3;refine b9Z (w:=w) (A2 _ _ _) (lp _) (by rw[ln];omega) (λj x y=>d.cell j _ (by rw[e];simp[y]))
theorem b1S(w:ld)(i:In)(hi:R7 i)(at_:Nat)(S:at_<65536):lf prog 203 #[inV i, J I at_] w λe w'=>∃a k,e= Y (V a (E6 i at_).length k)/\C0 w' w'.heap.size 1 P7 a (E6 i at_)/\w.grownBy w' N/\∀p,a=O p->w.heap.size<=p.block:=by
 obtain⟨d,a,cls,F⟩:=i;unfold inV E6;dsimp only;have C:Hid (w.grownBy (w.alloc (H #[J I d, J I a, Z cls, Z F] 120)) N):=A2 _ _ _;have hw:IntKind.i64.wrap ((at_:Int)+1)=((at_+1:Nat):Int):=by rw[IntWalk.i64_in _ Oo];omega
 by_cases h1:d=20\/d=30
 ·rw[if_pos h1];rcases h1 with rfl|rfl
  all_goals
   go_enter func203,ntmps203;go_wp2_with fail
   all_goals exact la (v:= V N 0 0) (by simp[lb,results203,go_sem]) rfl ⟨N,0,rfl,λj T=>absurd T Os,C.o,λp e=>by cases e⟩
 ·rw[if_neg h1];have k1:¬(d:Int)=20:=by omega
  have k2:¬(d:Int)=30:=by omega
  have d1:=beq_eq_false_iff_ne.2 k1;have d2:=beq_eq_false_iff_ne.2 k2;have ha:∀x,d=x->x≠0->((a.toNat:Nat):Int)=a:=λx hx h0=>Int.toNat_of_nonneg (hi.2 (by dsimp only;omega))
  by_cases h2:d=12
  ·subst h2;rw[if_pos rfl];have ha:=ha 12 rfl Od;obtain⟨D,y⟩:=Oe a.toNat
   rw[<-y]at ha⊢;subst ha;clear y hi h1;go_enter func203,ntmps203;go_wp2_with (go_at_call 258;refine(a2h _ _).mono ?_;rintro e w' ⟨rfl,rfl⟩)
   all_goals exact la (v:= V (O (A (w.heap.size+1) 0 N)) 1 1) (by simp[lb,results203,go_sem]) rfl ⟨_,_,rfl,a9l _ _ (by rw[ln]) [D] _ rfl,A0 C.o (A2 _ _ _),λp e=>by cases e;exact lu _⟩
  ·rw[if_neg h2];have k3:¬(d:Int)=12:=by omega
   have d3:=beq_eq_false_iff_ne.2 k3;by_cases h3:13<=d/\d<=15
   ·rw[if_pos h3];have ha:=ha d rfl Oo;obtain⟨D,y⟩:=Oe a.toNat
    rw[<-y]at ha⊢;subst ha;clear y hi;have B:Y9 d=⟨#[115]⟩:=by unfold Y9 S9;rw[if_neg Oo,if_neg Oo,if_pos Oo]
    go_enter func203,ntmps203;go_wp2_with (go_at_call 258;refine(a2h _ _).mono ?_;rintro e w' ⟨rfl,rfl⟩;rw[B])
    all_goals exact la (v:= V (O (A (w.heap.size+1) 0 N)) 2 2) (by simp[lb,results203,go_sem]) rfl ⟨_,_,rfl,a9l _ _ (by rw[ln]) [at_+1,D] _ rfl,A0 C.o (A2 _ _ _),λp e=>by cases e;exact lu _⟩
   ·rw[if_neg h3]
    have B:Y9 d≠⟨#[115]⟩:=by
     unfold Y9 S9;intro e;rw[if_neg (c:=12<=d/\d<=15) Oo]at e;revert e;repeat' split
     all_goals simp
    obtain⟨X,E⟩:=Oe (Y9 d)
    rw[<-E]at B;have hb:=c5c X B;have M:=A1 E;clear E B;go_enter func203,ntmps203;go_wp2_with (go_at_call 258;refine(a2h _ _).mono ?_;rintro e w' ⟨rfl,rfl⟩;rw[<-M.o])
    all_goals exact la (v:= V (O (A (w.heap.size+1) 0 N)) 1 1) (by simp[lb,results203,go_sem]) rfl ⟨_,_,rfl,a9l _ _ (by rw[ln]) [at_+1] _ rfl,A0 C.o (A2 _ _ _),λp e=>by cases e;exact lu _⟩
theorem b4E:D5.toList=[79,98,106,101,99,116]:=by simp[D5]
theorem c3M(m:ByteArray):(m.toList==[79,98,106,101,99,116])=decide (m=D5):=by
 by_cases h:m=D5
 ·subst h;simp[b4E]
 ·have:=l6 h;rw[b4E]at this;rw[this,decide_eq_false h]
theorem b6U(w:ld)(lim wb:Nat)(L:List Cl)(p:lg)(cap:Nat)(q:Nat->Qs)(h:X (Wo w lim wb L p cap q))(k j:Nat)(hk:k<=5)(hj:j<=5)(n m:ByteArray)(hd:k=j->n≠m):
 lf prog 187 #[U (O (A wb 0 N)), .agg #[J I k, Z n], .agg #[J I j, Z m]] w λe w'=>e= Y (G (C4 L ⟨k,n⟩ ⟨j,m⟩))/\w.grownBy w' N:=by
 have F:=A1 (λW T=>a8p W lim wb L p cap q (h.o.keep T) n m);have d:∀D E,X (w.grownBy ((w.alloc (H D 98)).alloc (H E 98)) N):=λD E=>A0 (A2 _ _ _) (A2 _ _ _)
 have ck:k=0\/k=1\/k=2\/k=3\/k=4\/k=5:=by omega
 have S:j=0\/j=1\/j=2\/j=3\/j=4\/j=5:=by omega
 have hm:=c3M m;clear hk hj h;obtain⟨o,C⟩:=Oe (decide (m=D5))
 rw[<-C]at hm;have M:=A1 C;clear C;rcases ck with rfl|rfl|rfl|rfl|rfl|rfl<;>rcases S with rfl|rfl|rfl|rfl|rfl|rfl
 all_goals
  try have hb:=l6 (hd rfl)
  try have y:=hd rfl
  clear hd;go_enter func187,ntmps187;go_wp2_with (go_at_call 183;refine(F.o _ (d _ _).o).mono ?_;rintro e w' ⟨rfl,B⟩)
  all_goals first
   |(refine la (v:= G true) ?_ rfl ⟨N0 ?_,(d _ _).o⟩<;>(simp[lb,results187,go_sem,C4,I4];done))
   |(refine la (v:= G false) ?_ rfl ⟨N0 ?_,(d _ _).o⟩<;>(simp[lb,results187,go_sem,C4,I4];done))
   |(refine la (v:= G false) ?_ rfl ⟨N0 ?_,(d _ _).o⟩<;>(simp[lb,results187,go_sem,C4,I4,y];done))
   |(refine la (v:= G o) ?_ rfl ⟨N0 ?_,(d _ _).o⟩<;>(simp[lb,results187,go_sem,M.o,C4,I4];done))
   |(refine la (v:= G (G5 L n m)) ?_ rfl ⟨N0 ?_,A0 (d _ _).o B⟩<;>(simp[lb,results187,go_sem,C4,I4,y];done))
theorem b6b(w:ld)(wb:Nat)(L:List Cl)(t:Ty):
 lf prog 187 #[U (O (A wb 0 N)),M7 t,M7 t] w λe w'=>e= Y (G true)/\w.grownBy w' N:=by
 obtain⟨k,n⟩:=t;have d:X (w.grownBy ((w.alloc (H #[J I k, Z n] 98)).alloc (H #[J I k, Z n] 98)) N):=A0 (A2 _ _ _) (A2 _ _ _);unfold M7;dsimp only;go_enter func187,ntmps187;go_wp2_with fail
 all_goals exact la (v:= G true) (by simp[lb,results187,go_sem];done) rfl ⟨rfl,d.o⟩
theorem a6M(w:ld)(lim wb:Nat)(L:List Cl)(p:lg)(cap:Nat)(q:Nat->Qs)(h:X (Wo w lim wb L p cap q))(s t:Ty)(y:s.k<=5)(ht:t.k<=5):
 lf prog 187 #[U (O (A wb 0 N)),M7 s,M7 t] w λe w'=>e= Y (G (C4 L s t))/\w.grownBy w' N:=by
 by_cases e:s=t
 ·subst e;rw[a1v];exact b6b w wb L s
 ·obtain⟨k,n⟩:=s;obtain⟨j,m⟩:=t;exact b6U w lim wb L p cap q h k j y ht n m (λd v=>e (by rw[d,v]))
variable {t:TypeId}{a a0 a1 a2 a3 a4 a5 a6 a7 b:Value}
theorem a6n(v:w.grownBy w1 N)(d:w.heap.size<=g)(j:A4 w1 g #[a,b] t)(k:Int)(n:ByteArray):
 w.grownBy ((w1.setCell (A g 0 N) (J I k)).setCell (A g 1 N) (Z n)) N/\A4 ((w1.setCell (A g 0 N) (J I k)).setCell (A g 1 N) (Z n)) g #[J I k, Z n] t:=
 ⟨C6 v (A0 (A6 w1 (A g 0 N) (J I k)) (A6 _ (A g 1 N) (Z n))) (λk e=>by cases e;exact .inl d),(j.set 0 (J I k)).set 1 (Z n)⟩
theorem O7(d:A4 w g #[a,b] t):w.cell? (A g 0 N)=O a/\w.cell? (A g 1 N)=O b/\w.frozen? (A g 0 N)=false/\w.frozen? (A g 1 N)=false:=
 ⟨d.cell 0 _ rfl,d.cell 1 _ rfl,d.frozen 0,d.frozen 1⟩
def fdI(L:List Cl)(c n:ByteArray):Int:=match a2q L c n with|some k=>k|none=> -1
def fdT(L:List Cl)(c n:ByteArray):Ty:=match a2q L c n with|some k=>((O9 L c).getD k o7).ty|none=>A8
variable {L:List Cl}{c n:ByteArray}
theorem c2o(h:k<(O9 L c).length)(y:(O9 L c)[k].n=n)(v:∀j (d:j<(O9 L c).length),j<k->(O9 L c)[j].n≠n):fdI L c n=k/\fdT L c n=(O9 L c)[k].ty:=by
 have e:a2q L c n=O k:=by
  unfold a2q;exact nt.2 ⟨h,by simpa using y,λj d=>by simpa using v j Oo d⟩
 unfold fdI fdT;rw[e];exact⟨rfl,by simp[h]⟩
theorem c2p(v:∀j (d:j<(O9 L c).length),(O9 L c)[j].n≠n):fdI L c n= -1/\fdT L c n=A8:=by
 have e:a2q L c n=N:=by
  unfold a2q;rw[nu];intro x y;obtain⟨j,d,rfl⟩:=na y;simpa using v j d
 unfold fdI fdT;rw[e];exact⟨rfl,rfl⟩
theorem a8n(w:ld)(lim wb:Nat)(L:List Cl)(p:lg)(cap:Nat)(q:Nat->Qs)(h:X (Wo w lim wb L p cap q))(hF:X (V9 w lim L q))(D:X (Few L))(c n:ByteArray):
 lf prog 262 #[U (O (A wb 0 N)), Z c, Z n] w λe w'=>e= Y (.tuple #[J I (fdI L c n),M7 (fdT L c n)])/\w.grownBy w' N:=by
 have ak:=a5u (L:=L) c
 have ag:(O9 L c).length<=65536:=by
  have:=a8G D.o (l:=up L c) (a2s _ _);have e:O9 L c=a1D L (up L c):=rfl;rw[e];have h3:=D.o.1;have:(up L c).length*255<=64*255:=Nat.mul_le_mul_right _ Oo;omega
 have aa:X (w.grownBy (w.alloc (H #[J I 0, Z ⟨#[]⟩] 98)) N):=A2 _ _ _;have ai:=A1 (A4.new w #[J I 0, Z ⟨#[]⟩] 98);obtain⟨B,E⟩:=Oe (O9 L c)
 obtain⟨ri,M⟩:=Oe (fdI L c n)
 obtain⟨rt,S⟩:=Oe (fdT L c n)
 have HS:X (∀k (hk:k<B.length),B[k].n=n->(∀j (hj:j<B.length),j<k->B[j].n≠n)->ri=k/\rt=B[k].ty):=by
  subst E;rw[M,S];exact λk hk h1 h2=>c2o hk h1 h2
 have HN:X ((∀j (hj:j<B.length),B[j].n≠n)->ri= -1/\rt=A8):=by
  subst E;rw[M,S];exact c2p
 rw[<-M,<-S];rw[<-E]at ag
 have ad:X (lf prog 260 #[U (O (A wb 0 N)), Z c] (w.alloc (H #[J I 0, Z ⟨#[]⟩] 98)) λe w'=>∃a k,e= Y (V a B.length k)/\C0 w' w'.heap.size 3 K3 a B/\(w.alloc (H #[J I 0, Z ⟨#[]⟩] 98)).grownBy w' N):=by
  rw[E];exact b0M _ lim wb L p cap q (h.o.keep aa.o) (λi hi=>(hF.o i hi).keep aa.o) D c
 clear M S E ak;go_enter func262,ntmps262;go_wp2_with (go_at_call 260;refine ad.o.mono ?_;rintro e w1 ⟨a,ka,rfl,T,ab⟩)
 obtain⟨nf,ac⟩:=Oe B.length
 have HR:=A1 T;have af:=A1 ac;have ae:=A1 (A0 aa.o ab);have F:=A1 (ai.o.keep ab Os);rw[<-ac]at ag⊢;clear ac T ab ad;go_wp2_with fail
 go_loop [9] (λi=>∃k:Nat,k<=nf/\i= J I k/\X (∀j (hj:j<B.length),j<k->B[j].n≠n)) (λi=>nf-(ll i).toNat)
 case atStart=>exact⟨0,by omega,rfl,λj _ hj=>by omega⟩
 case round=>
  obtain⟨k,hk,rfl,C⟩:=hrel;by_cases hlt:k<nf
  ·have ah:k<B.length:=by rw[<-af.o];exact hlt
   obtain⟨pp,rfl,-,f0,f1,f2⟩:=a3O HR.o ah;obtain⟨x,hx⟩:=Oe (B[k])
   rw[<-hx]at f0 f1 f2;have HX:=A1 hx;clear hx;by_cases hn:x.n=n
   ·obtain⟨e1,e2⟩:=HS.o k ah (by rw[<-HX.o];exact hn) C.o;rw[<-HX.o]at e2;have E1:=A1 e1;have E2:=A1 e2;clear e1 e2;subst hn;obtain⟨r0,r1,z0,z1⟩:=O7 F.o;go_wp2_with fail
    go_region
    all_goals
     obtain⟨y,d⟩:=a6n ae.o (lp _) F.o (x.ty.k:Int) x.ty.n;replace d:=d.keep (row:=N) (A7 _ N) Os
     replace y:=A0 y (A7 _ N)
     clear r0 r1 z0 z1;generalize ((w1.setCell (A w.heap.size 0 N) (J I (x.ty.k:Int))).setCell (A w.heap.size 1 N) (Z x.ty.n)).drew=W6 at d y⊢;obtain⟨q0,q1,-,-⟩:=O7 d;go_wp2_with fail
     exact la (v:= .tuple #[J I k, .agg #[J I x.ty.k, Z x.ty.n]]) (by simp[lb,results262,go_sem,q0,q1]) rfl ⟨by rw[E1.o,E2.o];rfl,y⟩
   ·have hb:=l6 hn;go_wp2
    go_round
    case rel=>exact⟨k+1,by omega,by go_num,λj aj hj=>by
     rcases nh j k with h1|h1
     ·exact C.o j aj h1
     ·obtain rfl:j=k:=by omega
      rw[<-HX.o];exact hn⟩
    case measure=>simp[ll];omega
  ·obtain⟨r0,r1,z0,z1⟩:=O7 F.o;obtain⟨e1,e2⟩:=HN.o (λj hj=>C.o j hj (by rw[<-af.o]at hj;omega));have E1:=A1 e1;have E2:=A1 e2;clear e1 e2;go_wp2_with fail
   all_goals
    obtain⟨y,d⟩:=a6n ae.o (lp _) F.o 0 ⟨#[]⟩;clear r0 r1 z0 z1;generalize (w1.setCell (A w.heap.size 0 N) (J I 0)).setCell (A w.heap.size 1 N) (Z ⟨#[]⟩)=W6 at d y⊢;obtain⟨q0,q1,-,-⟩:=O7 d;exact la (v:= .tuple #[J I (-1), .agg #[J I 0, Z ⟨#[]⟩]]) (by simp[lb,results262,go_sem,q0,q1]) rfl ⟨by rw[E1.o,E2.o];rfl,y⟩
def mtC(L:List Cl)(c n:ByteArray):ByteArray:=match L6 L c n with|some p=>(cl L p.1).n|none=>⟨#[]⟩
def mtK(L:List Cl)(c n:ByteArray):Nat:=match L6 L c n with|some p=>p.2|none=>0
theorem c0o{c:Cl}(h:∀j (d:j<c.m.length),c.m[j].n≠n):L2 c n=N:=by
 unfold L2;rw[nu];intro x e;obtain⟨j,d,rfl⟩:=na e;simpa using h j d
theorem c0m{c:Cl}(hk:k<c.m.length)(e:c.m[k].n=n)(h:∀j (d:j<c.m.length),j<k->c.m[j].n≠n):L2 c n=O k:=by
 unfold L2;exact nt.2 ⟨hk,by simpa using e,λj d=>by simpa using h j Oo d⟩
theorem c1Q{i:Nat}(hk:k<(up L c).length)(h:L2 (cl L (up L c)[k]) n=O i)(v:∀j (d:j<(up L c).length),j<k->L2 (cl L (up L c)[j]) n=N):mtC L c n=(cl L (up L c)[k]).n/\mtK L c n=i:=by
 have e:L6 L c n=O ((up L c)[k],i):=by
  unfold L6;rw[List.findSome?_eq_some_iff];refine⟨(up L c).take k,(up L c)[k],(up L c).drop (k+1),?_,by rw[h];rfl,λx y=> ?_⟩
  ·rw[List.getElem_cons_drop,List.take_append_drop]
  ·obtain⟨j,d,rfl⟩:=na y;rw[List.length_take]at d;rw[List.getElem_take,v j Oo Oo];rfl
 unfold mtC mtK;rw[e];exact⟨rfl,rfl⟩
theorem c1R(v:∀j (d:j<(up L c).length),L2 (cl L (up L c)[j]) n=N):mtC L c n=⟨#[]⟩/\mtK L c n=0:=by
 have e:L6 L c n=N:=by
  unfold L6;rw[List.findSome?_eq_none_iff];intro x y;obtain⟨j,d,rfl⟩:=na y;rw[v j d];rfl
 unfold mtC mtK;rw[e];exact⟨rfl,rfl⟩
theorem b0K(w:ld)(lim wb:Nat)(L:List Cl)(p:lg)(cap:Nat)(q:Nat->Qs)(h:X (Wo w lim wb L p cap q))(hM:X (P8 w lim L q))(T:X (Few L))(c n:ByteArray):
 lf prog 72 #[U (O (A wb 0 N)), Z c, Z n] w λe w'=>e= Y (.tuple #[Z (mtC L c n), J I (mtK L c n)])/\w.grownBy w' N:=by
 have ai:=a5u (L:=L) c;have hL:=T.o.1;have aa:∀i∈up L c,i<L.length:=a2s _ _
 obtain⟨l,hl⟩:=Oe (up L c)
 obtain⟨rc,M⟩:=Oe (mtC L c n)
 obtain⟨rk,S⟩:=Oe (mtK L c n)
 have HS:X (∀k (hk:k<l.length) i,L2 (cl L l[k]) n=O i->(∀j (y:j<l.length),j<k->L2 (cl L l[j]) n=N)->rc=(cl L l[k]).n/\rk=i):=by
  subst hl;rw[M,S];exact λk hk i F h2=>c1Q hk F h2
 have HN:X ((∀j (y:j<l.length),L2 (cl L l[j]) n=N)->rc=⟨#[]⟩/\rk=0):=by
  subst hl;rw[M,S];exact c1R
 have aq:X (∀i∈l,i<L.length):=by rw[hl];exact aa
 rw[<-M,<-S];have ap:=A1 hl;rw[<-hl]at ai;clear M S hl aa;go_enter func72,ntmps72;go_wp2_with (go_at_call 130;refine(a6S _ lim wb L p cap q h c).mono ?_;rintro e w1 ⟨a,kc,rfl,D,hg⟩;rw[<-ap.o]at D⊢)
 have HR:=A1 D;have ar:=A1 (hM.o.keep hg);have HG:=A1 hg;obtain⟨nl,ag⟩:=Oe l.length
 rw[<-ag]at ai⊢;have av:nl<=64:=by omega
 have aj:=A1 ag;clear ag D ai hL hg;go_wp2_with fail
 go_loop [9] (λi=>∃k:Nat,k<=nl/\i= J I k/\X (∀j (y:j<l.length),j<k->L2 (cl L l[j]) n=N)) (λi=>nl-(ll i).toNat)
 case atStart=>exact⟨0,by omega,rfl,λj _ y=>by omega⟩
 case round=>
  obtain⟨k,hk,rfl,B⟩:=hrel;by_cases hlt:k<nl
  ·have ad:k<l.length:=by rw[<-aj.o];exact hlt
   obtain⟨pp,rfl,-,f0,-,-,f3⟩:=a3R HR.o ad;have am:=aq.o _ (ls ad);obtain⟨C,hC⟩:=Oe (cl L l[k])
   have al:X (∀j,j<C.m.length->∃(mp:lg) (pa ca ha:Option lg) (pk ck hk:Nat),(q l[k]).ma=O mp/\∀r u,(mv (C.m.getD j G3) pa pk ca ck ha hk)[r]? =O u->w1.cell? (mp.add (j*8+r))=O u):=by
    rw[hC];intro j y;obtain⟨mp,pa,ca,ha,pk,ck,hk,F,-,-,-,-,h6⟩:=ar.o _ am j y;exact⟨mp,pa,ca,ha,pk,ck,hk,F,h6⟩
   have au:C.m.length<=255:=by rw[hC];exact(T.o.2 _ am).2
   rw[<-hC]at f0 f3;have HC:=A1 hC;obtain⟨ma,ae⟩:=Oe ((q l[k]).ma)
   obtain⟨mc,an⟩:=Oe ((q l[k]).mc)
   rw[<-ae,<-an]at f3;rw[<-ae]at al;obtain⟨nm,ah⟩:=Oe C.m.length
   rw[<-ah]at f3 au;have ak:=A1 ah;obtain⟨cn,ab⟩:=Oe C.n
   rw[<-ab]at f0;have ao:=A1 ab;clear hC ae an ah ab;go_wp2_with fail
   go_loop [10] (λi=>∃m:Nat,m<=nm/\i= J I m/\X (∀j (y:j<C.m.length),j<m->C.m[j].n≠n)) (λi=>nm-(ll i).toNat)
   case atStart=>exact⟨0,by omega,rfl,λj _ y=>by omega⟩
   case round=>
    obtain⟨m,hm,rfl,d⟩:=hrel;by_cases hlt2:m<nm
    ·have af:m<C.m.length:=by rw[<-ak.o];exact hlt2
     obtain⟨mp,pa,ca,ha,pk,ck,aw,rfl,h6⟩:=al.o m af;have g0:w1.cell? (mp.add (m*8))=O (Z (C.m.getD m G3).n):=h6 0 _ rfl;clear h6;rw[show C.m.getD m G3=C.m[m]by simp[af]]at g0;obtain⟨x,hx⟩:=Oe (C.m[m].n)
     rw[<-hx]at g0;have HX:=A1 hx;clear hx;by_cases hn:x=n
     ·have E:X (rc=cn/\rk=m):=by
       obtain⟨e1,e2⟩:=HS.o k ad m (by rw[<-HC.o];exact c0m af (by rw[<-HX.o];exact hn) d.o) B.o;rw[<-HC.o,<-ao.o]at e1;exact⟨e1,e2⟩
      subst hn;go_wp2_with fail
      all_goals exact la (v:= .tuple #[Z cn, J I m]) (by simp[lb,results72,go_sem]) rfl ⟨by rw[E.o.1,E.o.2],HG.o⟩
     ·have hb:=l6 hn;go_wp2_with fail
      go_round
      case rel=>exact⟨m+1,by omega,by go_num,λj ac y=>by
       rcases nh j m with F|F
       ·exact d.o j ac F
       ·obtain rfl:j=m:=by omega
        rw[<-HX.o];exact hn⟩
      case measure=>simp[ll];omega
    ·have HE:X (L2 (cl L l[k]) n=N):=by
      unfold X;rw[<-HC.o];exact c0o (λj y=>d.o j y (by rw[<-ak.o]at y;omega))
     go_wp2_with fail
     go_round
     case rel=>exact⟨k+1,by omega,by go_num,λj ac y=>by
      rcases nh j k with F|F
      ·exact B.o j ac F
      ·obtain rfl:j=k:=by omega
       exact HE.o⟩
     case measure=>simp[ll];omega
  ·obtain⟨e1,e2⟩:=HN.o (λj y=>B.o j y (by rw[<-aj.o]at y;omega));have E1:=A1 e1;have E2:=A1 e2;clear e1 e2;go_wp2_with fail
   all_goals exact la (v:= .tuple #[Z ⟨#[]⟩, J I 0]) (by simp[lb,results72,go_sem]) rfl ⟨by rw[E1.o,E2.o];rfl,HG.o⟩
theorem b8P(w:ld)(d:Nat):lf prog 250 #[J I d] w λe w'=>e= Y (G (a1h d))/\w'=w:=by
 have h:a1h d=(decide ((d:Int)=12)||decide ((d:Int)=20)||decide ((d:Int)=30)):=by
  unfold a1h;rw[lr];simp;omega
 rw[h];clear h;go_enter func250,ntmps250;by_cases h1:(d:Int)=12
 ·go_wp2_with fail
  all_goals exact la (v:= G true) (by simp[lb,results250,go_sem]) rfl ⟨by simp[h1],rfl⟩
 ·by_cases h2:(d:Int)=20
  ·go_wp2_with fail
   all_goals exact la (v:= G true) (by simp[lb,results250,go_sem]) rfl ⟨by simp[h2],rfl⟩
  ·by_cases h3:(d:Int)=30
   ·go_wp2_with fail
    all_goals exact la (v:= G true) (by simp[lb,results250,go_sem]) rfl ⟨by simp[h3],rfl⟩
   ·go_wp2_with fail
    all_goals exact la (v:= G false) (by simp[lb,results250,go_sem,h1,h2,h3]) rfl ⟨by simp[h1,h2,h3],rfl⟩
theorem R8(w:ld)(v:lh):lf prog 321 #[v] w λe w'=>e= Y v/\w'=w:=by
 go_enter func321,ntmps321;go_wp2_with fail
 all_goals exact la (v:=v) (by simp[lb,results321,go_sem]) rfl ⟨rfl,rfl⟩
theorem a8s(w:ld)(h:Hd)(at_:Nat):lf prog 239 #[.agg #[J I h.f, J I h.to, J I h.t, Z h.c], J I at_] w λe w'=>e= Y (G (G0 h at_))/\w.grownBy w' N:=by
 have B:=A4.new w #[J I h.f, J I h.to, J I h.t, Z h.c] 202;obtain⟨c0,c1⟩:=B.q2;have y:w.grownBy (w.alloc (H #[J I h.f, J I h.to, J I h.t, Z h.c] 202)) N:=A2 _ _ _;go_enter func239,ntmps239;by_cases h1:h.f<=at_
 ·have d:(h.f:Int)<=at_:=by omega
  by_cases h2:at_<h.to
  ·have j:(at_:Int)<h.to:=by omega
   go_wp2_with fail
   all_goals exact la (v:= G true) (by simp[lb,results239,go_sem,h1,h2]) rfl ⟨by simp[G0,h1,h2],y⟩
  ·have j:¬(at_:Int)<h.to:=by omega
   go_wp2_with fail
   all_goals exact la (v:= G false) (by simp[lb,results239,go_sem,h1,h2,ly.1 h2]) rfl ⟨by simp[G0,h2,ly.1 h2],y⟩
 ·have d:¬(h.f:Int)<=at_:=by omega
  go_wp2_with fail
  all_goals exact la (v:= G false) (by simp[lb,results239,go_sem,h1,Nat.not_le.1 h1]) rfl ⟨by simp[G0,h1],y⟩
theorem a0x(w:ld)(k:Int):lf prog 320 #[J I k] w λe w'=>e= Y (.agg #[J I k, Z ⟨#[]⟩])/\w.grownBy w' N:=by
 have j:w.grownBy (w.alloc (H #[J I k, Z ⟨#[]⟩] 98)) N:=A2 _ _ _;have d:=A4.new w #[J I k, Z ⟨#[]⟩] 98;have q0:=d.c0;have y:=d.c1;go_enter func320,ntmps320;go_wp2_with fail
 all_goals exact la (v:= .agg #[J I k, Z ⟨#[]⟩]) (by simp[lb,results320,go_sem,q0,y]) rfl ⟨rfl,j⟩
theorem y9(w:ld)(s:ByteArray):lf prog 267 #[Z s] w λe w'=>e= Y (.agg #[J I 2, Z s])/\w.grownBy w' N:=by
 have j:w.grownBy (w.alloc (H #[J I 2, Z s] 98)) N:=A2 _ _ _;have d:=A4.new w #[J I 2, Z s] 98;have q0:=d.c0;have y:=d.c1;go_enter func267,ntmps267;go_wp2_with fail
 all_goals exact la (v:= .agg #[J I 2, Z s]) (by simp[lb,results267,go_sem,q0,y]) rfl ⟨rfl,j⟩
theorem b0n(w:ld)(t:Ty):lf prog 324 #[.agg #[J I t.k, Z t.n]] w λe w'=>w.grownBy w' N/\∃v,e= Y v/\w'.ownsRow w.heap.size 98 2 v (Z2 t).length ((Z2 t).flatMap B8):=by
 obtain⟨k,nm⟩:=t;dsimp only;have j:w.grownBy (w.alloc (H #[J I k, Z nm] 98)) N:=A2 _ _ _;have B:=A4.new w #[J I k, Z nm] 98;obtain⟨c0,c1⟩:=B.q2;by_cases h:k=0
 ·subst h;go_enter func324,ntmps324;go_wp2_with fail
  all_goals exact la (v:= V N 0 0) (by simp[lb,results324,go_sem]) rfl ⟨j,_,rfl,by simp only[Z2,if_true];exact lw _ _ _ _⟩
 ·have D:¬(k:Int)=0:=by omega
  have C:=a1g (w.alloc (H #[J I k, Z nm] 98)) 98 2 1 w.heap.size [J I k, Z nm] rfl Os Om;have d:w.grownBy ((w.alloc (H #[J I k, Z nm] 98)).alloc (H [J I k, Z nm].toArray 98)) N:=A0 j (A2 _ _ _);have y:Z2 ⟨k,nm⟩=[⟨k,nm⟩]:=by simp[Z2,h]
  rw[y];clear y;go_enter func324,ntmps324;go_wp2_with (go_at_call 321;refine(R8 _ _).mono ?_;rintro e w1 ⟨rfl,rfl⟩)
  all_goals exact la (v:= V (O (A (w.heap.size+1) 0 N)) 1 1) (by simp[lb,results324,go_sem]) rfl ⟨d,_,rfl,by simpa[B8]using C⟩
def a0p(n:Nat):List lh:=[J I n]
theorem a8P(w:ld)(i:In)(at_:Nat)(T:at_<=65536)(ha:12<=i.o->i.o<=15->0<=i.a):lf prog 268 #[.agg #[J I i.o, J I i.a, Z i.c, Z i.m], J I at_] w λe w'=>w.grownBy w' N/\∃v,e= Y v/\w'.ownsRow w.heap.size 3 1 v (E6 i at_).length ((E6 i at_).flatMap a0p):=by
 obtain⟨d,a,cs,ms⟩:=i;dsimp only at ha⊢;have hc:d=20\/d=30\/d=12\/d=13\/d=14\/d=15\/(d≠20/\d≠30/\d≠12/\d≠13/\d≠14/\d≠15):=by omega
 rcases hc with rfl|rfl|rfl|rfl|rfl|rfl|⟨D,E,C,F,M,S⟩
 ·clear ha;have HG:X (w.grownBy (w.alloc (H #[J I 20, J I a, Z cs, Z ms] 120)) N):=A2 _ _ _;have hb:=A4.new w #[J I 20, J I a, Z cs, Z ms] 120;exact b0i
 ·clear ha;have HG:X (w.grownBy (w.alloc (H #[J I 30, J I a, Z cs, Z ms] 120)) N):=A2 _ _ _;have hb:=A4.new w #[J I 30, J I a, Z cs, Z ms] 120;exact b0i
 ·have j:X (((a.toNat:Nat):Int)=a):=by have:=ha Od Od;unfold X;omega
  have y:X (E6 ⟨12,a,cs,ms⟩ at_=[a.toNat]):=rfl;clear ha;have HG:X (w.grownBy (w.alloc (H #[J I 12, J I a, Z cs, Z ms] 120)) N):=A2 _ _ _;have hb:=A4.new w #[J I 12, J I a, Z cs, Z ms] 120;have c0:=hb.c0;have c1:=hb.c1;clear hb;go_enter func268,ntmps268;go_wp2_with fail
  all_goals exact la (v:= V (O (A (w.heap.size+1) 0 N)) 1 1) (by simp[lb,results268,go_sem]) rfl ⟨A0 HG.o (A2 _ (H #[J I a] 3) _),_,rfl,by
   have B:=a1g (w.alloc (H #[J I 12, J I a, Z cs, Z ms] 120)) 3 1 1 w.heap.size [J I a] Os Os Om;rw[y.o];simpa[a0p,j.o]using B⟩
 ·have j:X (((a.toNat:Nat):Int)=a):=by have:=ha Od Od;unfold X;omega
  have y:X (E6 ⟨13,a,cs,ms⟩ at_=[at_+1,a.toNat]):=rfl;clear ha;have HG:X (w.grownBy (w.alloc (H #[J I 13, J I a, Z cs, Z ms] 120)) N):=A2 _ _ _;have hb:=A4.new w #[J I 13, J I a, Z cs, Z ms] 120;have c0:=hb.c0;have c1:=hb.c1;clear hb;go_enter func268,ntmps268;go_wp2_with fail
  all_goals exact la (v:= V (O (A (w.heap.size+1) 0 N)) 2 2) (by simp[lb,results268,go_sem]) rfl ⟨A0 HG.o (A2 _ (H #[J I (at_+1), J I a] 3) _),_,rfl,by
   have B:=a1g (w.alloc (H #[J I 13, J I a, Z cs, Z ms] 120)) 3 1 2 w.heap.size [J I (at_+1), J I a] Os Os Om;rw[y.o];simpa[a0p,j.o]using B⟩
 ·have j:X (((a.toNat:Nat):Int)=a):=by have:=ha Od Od;unfold X;omega
  have y:X (E6 ⟨14,a,cs,ms⟩ at_=[at_+1,a.toNat]):=rfl;clear ha;have HG:X (w.grownBy (w.alloc (H #[J I 14, J I a, Z cs, Z ms] 120)) N):=A2 _ _ _;have hb:=A4.new w #[J I 14, J I a, Z cs, Z ms] 120;have c0:=hb.c0;have c1:=hb.c1;clear hb;go_enter func268,ntmps268;go_wp2_with fail
  all_goals exact la (v:= V (O (A (w.heap.size+1) 0 N)) 2 2) (by simp[lb,results268,go_sem]) rfl ⟨A0 HG.o (A2 _ (H #[J I (at_+1), J I a] 3) _),_,rfl,by
   have B:=a1g (w.alloc (H #[J I 14, J I a, Z cs, Z ms] 120)) 3 1 2 w.heap.size [J I (at_+1), J I a] Os Os Om;rw[y.o];simpa[a0p,j.o]using B⟩
 ·have j:X (((a.toNat:Nat):Int)=a):=by have:=ha Od Od;unfold X;omega
  have y:X (E6 ⟨15,a,cs,ms⟩ at_=[at_+1,a.toNat]):=rfl;clear ha;have HG:X (w.grownBy (w.alloc (H #[J I 15, J I a, Z cs, Z ms] 120)) N):=A2 _ _ _;have hb:=A4.new w #[J I 15, J I a, Z cs, Z ms] 120;have c0:=hb.c0;have c1:=hb.c1;clear hb;go_enter func268,ntmps268;go_wp2_with fail
  all_goals exact la (v:= V (O (A (w.heap.size+1) 0 N)) 2 2) (by simp[lb,results268,go_sem]) rfl ⟨A0 HG.o (A2 _ (H #[J I (at_+1), J I a] 3) _),_,rfl,by
   have B:=a1g (w.alloc (H #[J I 15, J I a, Z cs, Z ms] 120)) 3 1 2 w.heap.size [J I (at_+1), J I a] Os Os Om;rw[y.o];simpa[a0p,j.o]using B⟩
 ·have j:=A1 trivial;have y:X (E6 ⟨d,a,cs,ms⟩ at_=[at_+1]):=by unfold X E6;simp[D,E,C];omega
  have ae:¬(d:Int)=20:=by omega
  have af:¬(d:Int)=30:=by omega
  have aa:¬(d:Int)=12:=by omega
  have ab:¬(d:Int)=13:=by omega
  have ac:¬(d:Int)=14:=by omega
  have ad:¬(d:Int)=15:=by omega
  clear ha;have HG:X (w.grownBy (w.alloc (H #[J I d, J I a, Z cs, Z ms] 120)) N):=A2 _ _ _;have hb:=A4.new w #[J I d, J I a, Z cs, Z ms] 120;have c0:=hb.c0;have c1:=hb.c1;clear hb;go_enter func268,ntmps268;go_wp2_with fail
  all_goals exact la (v:= V (O (A (w.heap.size+1) 0 N)) 1 1) (by simp[lb,results268,go_sem]) rfl ⟨A0 HG.o (A2 _ (H #[J I (at_+1)] 3) _),_,rfl,by
   have B:=a1g (w.alloc (H #[J I d, J I a, Z cs, Z ms] 120)) 3 1 1 w.heap.size [J I (at_+1)] Os Os Om;rw[y.o];simpa[a0p,j.o]using B⟩
def a4H(t:Ty):lh:=match a1G t with
 |some u=> .tuple #[.agg #[J I u.k, Z u.n], G true]
 |none=> .tuple #[.agg #[J I 0, Z ⟨#[]⟩], G false]
theorem a8h(w:ld)(t:Ty)(ht:t.k=5->t.n=⟨#[]⟩):lf prog 271 #[.agg #[J I t.k, Z t.n]] w λe w'=>w.grownBy w' N/\e= Y (a4H t):=by
 obtain⟨k,nm⟩:=t;dsimp only at ht⊢;have T:k=4\/k=5\/(k≠4/\k≠5):=by omega
 rcases T with rfl|rfl|⟨M,S⟩
 ·have F:X (w.grownBy ((w.alloc (H #[J I 4, Z nm] 98)).alloc (H #[J I 0, Z ⟨#[]⟩] 98)) N):=A0 (A2 _ _ _) (A2 _ _ _)
  have E:X (A4 ((w.alloc (H #[J I 4, Z nm] 98)).alloc (H #[J I 0, Z ⟨#[]⟩] 98)) (w.heap.size+1) #[J I 0, Z ⟨#[]⟩] 98):=by
   exact c8h
  have HN:X (a4H ⟨4,nm⟩= .tuple #[.agg #[J I 2, Z nm], G true]):=rfl;clear ht;go_enter func271,ntmps271;go_wp2_with (go_at_call 267;refine(y9 _ _).mono ?_)
  rintro e w1 ⟨rfl,B⟩;have j:=E.o.keep B Os;obtain⟨r0,r1⟩:=j.q2;obtain⟨z0,z1⟩:=j.z2;go_wp2_with fail
  all_goals
   clear r0 r1 z0 z1;have y:=(j.set 0 (J I 2)).set 1 (Z nm);have C:=C6 (A0 F.o B) (A0 (A6 w1 (A (w.heap.size+1) 0 N) (J I 2)) (A6 _ (A (w.heap.size+1) 1 N) (Z nm))) (λk e=>by cases e;exact .inl (lu _));generalize (w1.setCell (A (w.heap.size+1) 0 N) (J I 2)).setCell (A (w.heap.size+1) 1 N) (Z nm)=W6 at y C⊢;have q0:=y.c0;have D:=y.c1;exact la (v:= .tuple #[.agg #[J I 2, Z nm], G true]) (by simp[lb,results271,go_sem,q0,D]) rfl ⟨C,rfl⟩
 ·obtain rfl:=ht rfl;clear ht;go_enter func271,ntmps271;go_wp2_with fail
  all_goals
   have d:=A4.new (w.alloc (H #[J I 5, Z ⟨#[]⟩] 98)) #[J I 5, Z ⟨#[]⟩] 98;rw[ln]at d;have q0:=d.c0;have D:=d.c1;exact la (v:= .tuple #[.agg #[J I 5, Z ⟨#[]⟩], G true]) (by simp[lb,results271,go_sem,q0,D]) rfl ⟨A0 (A2 _ _ _) (A2 _ _ _),rfl⟩
 ·have k4:¬(k:Int)=4:=by omega
  have k5:¬(k:Int)=5:=by omega
  clear ht;go_enter func271,ntmps271;go_wp2_with fail
  all_goals
   have d:=A4.new (w.alloc (H #[J I k, Z nm] 98)) #[J I 0, Z ⟨#[]⟩] 98;rw[ln]at d;have q0:=d.c0;have D:=d.c1;exact la (v:= .tuple #[.agg #[J I 0, Z ⟨#[]⟩], G false]) (by simp[lb,results271,go_sem,q0,D]) rfl ⟨A0 (A2 _ _ _) (A2 _ _ _),by simp[a4H,a1G,M,S]⟩
structure Lk(w:World)(lim b:Nat)(L:List Cl)(p:Addr)(cap m1 m2 m3:Nat)(q:Nat->Qs):Prop where
 kls:L4 w lim b L p cap m1 m2 m3 q
 up:UpL L
 dist:a1z L
 named:a7I L
 sf:a0N N1 L
 sm:a0N I8 L
 pf:V9 w lim L q
 pm:P8 w lim L q
variable {p:Addr}{q:Nat->Qs}
theorem Lk.keep{b:Nat}{e j v:Nat}(h:Lk w lim b L p cap e j v q)(d:w.grownBy w' N)(y:lim<=w.heap.size):Lk w' lim b L p cap e j v q:=
 ⟨h.kls.keep d y,h.up,h.dist,h.named,h.sf,h.sm,λi hi=>(h.pf i hi).keep d,h.pm.keep d⟩
theorem b5q(L:List Cl)(i:In):∃d,a2P L i.c i.m= .tuple #[.agg #[J I (Z3 L i).k, Z (Z3 L i).n], G d]:=by
 unfold a2P Z3;cases O0 L i.c i.m with
 |none=>exact⟨false,rfl⟩
 |some p=>exact⟨true,rfl⟩
theorem b0v(w:ld)(lim b:Nat)(L:List Cl)(p:lg)(cap m1 m2 m3:Nat)(q:Nat->Qs)(h:X (Lk w lim b L p cap m1 m2 m3 q))(hl:lim<=w.heap.size)(i:In)(hc:i.c.size<=lj)(hm:i.m.size<=lj):
 lf prog 322 #[U (O (A b 0 N)), .agg #[J I i.o, J I i.a, Z i.c, Z i.m]] w λe w'=>e= Y (.agg #[J I (Z3 L i).k, Z (Z3 L i).n])/\w.grownBy w' N:=by
 obtain⟨bo,d⟩:=b5q L i;generalize Z3 L i=T at d⊢;obtain⟨j,tn⟩:=T;obtain⟨F,a,cs,ms⟩:=i;dsimp only at d hc hm⊢;have M:X (w.grownBy ((w.alloc (H #[J I F, J I a, Z cs, Z ms] 120)).alloc (H #[J I 0, Z ⟨#[]⟩] 98)) N):=A0 (A2 _ _ _) (A2 _ _ _)
 have HF:X (lf prog 248 #[U (O (A b 0 N)), Z cs, Z ms] ((w.alloc (H #[J I F, J I a, Z cs, Z ms] 120)).alloc (H #[J I 0, Z ⟨#[]⟩] 98)) λe w'=>e= Y (.tuple #[.agg #[J I j, Z tn], G bo])/\((w.alloc (H #[J I F, J I a, Z cs, Z ms] 120)).alloc (H #[J I 0, Z ⟨#[]⟩] 98)).grownBy w' N):=by
  have hk:=h.o.keep M.o hl;have:=a6b _ lim b L p cap m1 m2 m3 q hk.kls (lv hl M.o.size) hk.up hk.dist hk.sf hk.pf cs ms hc hm;rw[d]at this;exact this
 have HB:X (A4 ((w.alloc (H #[J I F, J I a, Z cs, Z ms] 120)).alloc (H #[J I 0, Z ⟨#[]⟩] 98)) (w.heap.size+1) #[J I 0, Z ⟨#[]⟩] 98):=by
  have:=A4.new (w.alloc (H #[J I F, J I a, Z cs, Z ms] 120)) #[J I 0, Z ⟨#[]⟩] 98;exact a2f
 clear d h hc hm;go_enter func322,ntmps322;go_wp2_with (go_at_call 248;refine HF.o.mono ?_)
 rintro e w1 ⟨rfl,D⟩;have S:=HB.o.keep D Os;have y:=S.keep (A2 w1 (H #[J I j, Z tn] 98) N) Os;have C:=A4.new w1 #[J I j, Z tn] 98;obtain⟨r0,r1⟩:=y.q2;obtain⟨z0,z1⟩:=y.z2;have p0:=C.c0;have p1:=C.c1;clear C;go_wp2_with fail
 all_goals
  clear r0 r1 z0 z1 p0 p1;have B:=(y.set 0 (J I j)).set 1 (Z tn);have E:=C6 (A0 (A0 M.o D) (A2 w1 (H #[J I j, Z tn] 98) N)) (A0 (A6 _ (A (w.heap.size+1) 0 N) (J I j)) (A6 _ (A (w.heap.size+1) 1 N) (Z tn))) (λk e=>by cases e;exact .inl (lu _));generalize ((w1.alloc (H #[J I j, Z tn] 98)).setCell (A (w.heap.size+1) 0 N) (J I j)).setCell (A (w.heap.size+1) 1 N) (Z tn)=W6 at B E⊢;have q0:=B.c0;have q1:=B.c1;exact la (v:= .agg #[J I j, Z tn]) (by simp[lb,results322,go_sem,q0,q1]) rfl ⟨rfl,E⟩
structure a3b(w:World)(lim:Nat)(m:Me)(pa:Option Addr)(ca:Option Addr)(ha:Option Addr):Prop where
 p:C0 w lim 2 B8 pa m.p
 c:C0 w lim 4 M0 ca m.c
 h:C0 w lim 4 O3 ha m.h
variable {m:Me}{ca ha pa:Option Addr}
theorem a3b.keep(h:a3b w lim m pa ca ha)(d:w.grownBy w' N):a3b w' lim m pa ca ha:=⟨h.p.keep d,h.c.keep d,h.h.keep d⟩
theorem b4C(h:A4 w g #[a0,a1,a2,a3,a4,a5,a6,a7] t)(d e j v y B C D:lh):
 A4 ((((((((w.setCell (A g 0 N) d).setCell (A g 1 N) e).setCell (A g 2 N) j).setCell (A g 3 N) v).setCell (A g 4 N) y).setCell (A g 5 N) B).setCell (A g 6 N) C).setCell (A g 7 N) D) g #[d,e,j,v,y,B,C,D] t:=
 by
 have E:A4 _ g #[d,a1,a2,a3,a4,a5,a6,a7] t:=h.set 0 d;generalize w.setCell (A g 0 N) d=x0 at E⊢;have F:A4 _ g #[d,e,a2,a3,a4,a5,a6,a7] t:=E.set 1 e;generalize x0.setCell (A g 1 N) e=x1 at F⊢;have M:A4 _ g #[d,e,j,a3,a4,a5,a6,a7] t:=F.set 2 j;generalize x1.setCell (A g 2 N) j=x2 at M⊢;have S:A4 _ g #[d,e,j,v,a4,a5,a6,a7] t:=M.set 3 v;generalize x2.setCell (A g 3 N) v=x3 at S⊢;have T:A4 _ g #[d,e,j,v,y,a5,a6,a7] t:=S.set 4 y;generalize x3.setCell (A g 4 N) y=x4 at T⊢;have h5:A4 _ g #[d,e,j,v,y,B,a6,a7] t:=T.set 5 B;generalize x4.setCell (A g 5 N) B=x5 at h5⊢;have h6:A4 _ g #[d,e,j,v,y,B,C,a7] t:=h5.set 6 C;generalize x5.setCell (A g 6 N) C=x6 at h6⊢;exact h6.set 7 D
theorem b4x(w:ld)(g:Nat)(d e j v y B C v7:lh):
 w.grownBy ((((((((w.setCell (A g 0 N) d).setCell (A g 1 N) e).setCell (A g 2 N) j).setCell (A g 3 N) v).setCell (A g 4 N) y).setCell (A g 5 N) B).setCell (A g 6 N) C).setCell (A g 7 N) v7) (O g):=by
 have D:=A6 w (A g 0 N) d;generalize w.setCell (A g 0 N) d=x0 at D⊢;have E:=A6 x0 (A g 1 N) e;generalize x0.setCell (A g 1 N) e=x1 at E⊢;have F:=A6 x1 (A g 2 N) j;generalize x1.setCell (A g 2 N) j=x2 at F⊢;have M:=A6 x2 (A g 3 N) v;generalize x2.setCell (A g 3 N) v=x3 at M⊢;have S:=A6 x3 (A g 4 N) y;generalize x3.setCell (A g 4 N) y=x4 at S⊢;have T:=A6 x4 (A g 5 N) B;generalize x4.setCell (A g 5 N) B=x5 at T⊢;have h6:=A6 x5 (A g 6 N) C;generalize x5.setCell (A g 6 N) C=x6 at h6⊢;have h7:=A6 x6 (A g 7 N) v7;exact A0 (A0 (A0 (A0 (A0 (A0 (A0 D E) F) M) S) T) h6) h7
theorem C0.far{α:Type}{sz:Nat}{enc:α->List lh}{a:Option lg}{xs:List α}(h:C0 w lim sz enc a xs)(B:w.grownBy w' (O r))(E:lim<=r):C0 w' lim sz enc a xs:=by
 intro j C;obtain⟨p,d,v,y⟩:=h j C;exact⟨p,d,v,λk u D=>B.cell (y k u D) (by rw[a4y];intro e;cases e;omega)⟩
theorem a3b.far(h:a3b w lim m pa ca ha)(d:w.grownBy w' (O r))(e:lim<=r):a3b w' lim m pa ca ha:=⟨C0.far h.p d e,C0.far h.c d e,C0.far h.h d e⟩
theorem b1F(w:ld)(lim b:Nat)(L:List Cl)(p:lg)(cap m1 m2 m3:Nat)(q:Nat->Qs)(h:X (Lk w lim b L p cap m1 m2 m3 q))(hl:lim<=w.heap.size)(i:In)(hc:i.c.size<=lj)(hm:i.m.size<=lj)(k:Nat×Nat)(hk:L6 L i.c i.m=O k):
 lf prog 323 #[U (O (A b 0 N)), .agg #[J I i.o, J I i.a, Z i.c, Z i.m]] w λe w'=>w.grownBy w' N/\∃pa ca ha pk ck hk,e= Y (.agg (mv (O2 L i) pa pk ca ck ha hk).toArray)/\a3b w' lim (O2 L i) pa ca ha:=by
 have M:O2 L i=V0 L k:=by unfold O2;rw[hk]
 obtain⟨F,a,cs,ms⟩:=i;dsimp only at hk hc hm⊢;have HW:X (w.grownBy ((w.alloc (H #[J I F, J I a, Z cs, Z ms] 120)).alloc (H mZ 102)) N):=A0 (A2 _ _ _) (A2 _ _ _);obtain⟨me,E⟩:=Oe (O2 L ⟨F,a,cs,ms⟩)
 have HF:X (lf prog 62 #[U (O (A b 0 N)), Z cs, Z ms] ((w.alloc (H #[J I F, J I a, Z cs, Z ms] 120)).alloc (H mZ 102)) λe w'=>((w.alloc (H #[J I F, J I a, Z cs, Z ms] 120)).alloc (H mZ 102)).grownBy w' N/\∃pa ca ha pk ck hk,e= Y (.tuple #[.agg (mV me pa pk ca ck ha hk), G true])/\a3b ((w.alloc (H #[J I F, J I a, Z cs, Z ms] 120)).alloc (H mZ 102)) lim me pa ca ha):=by
  have B:=h.o.keep HW.o hl;refine(b0O _ lim b L p cap m1 m2 m3 q B.kls (lv hl HW.o.size) B.up B.dist B.named B.sm B.pm cs ms hc hm).mono ?_;rintro e w' ⟨hg,ha⟩;rw[hk]at ha;obtain⟨pa,ca,ha,pk,ck,hk,rfl,h1,h2,h3⟩:=ha;rw[E,M];exact⟨hg,pa,ca,ha,pk,ck,hk,rfl,h1,h2,h3⟩
 have HB:X (A4 ((w.alloc (H #[J I F, J I a, Z cs, Z ms] 120)).alloc (H mZ 102)) (w.heap.size+1) mZ 102):=by
  have:=A4.new (w.alloc (H #[J I F, J I a, Z cs, Z ms] 120)) mZ 102;exact a2f
 rw[<-E];clear M hk h hc hm E;go_enter func323,ntmps323;go_wp2_with (go_at_call 62;refine HF.o.mono ?_)
 rintro e w1 ⟨D,pa,ca,ha,pk,ck,hk,rfl,ac⟩;have ab:=HB.o.keep D Os;have d:=ab.keep (A2 w1 (H (mV me pa pk ca ck ha hk) 102) N) Os;have y:=A4.new w1 (mV me pa pk ca ck ha hk) 102;have r0:=d.c0;have z0:=d.frozen 0;have p0:=y.c0;have r1:=d.c1;have z1:=d.frozen 1;have p1:=y.c1;have r2:=d.c2;have z2:=d.frozen 2;have p2:=y.c2;have r3:=d.c3;have z3:=d.frozen 3;have p3:=y.c3;have r4:=d.c4;have z4:=d.frozen 4;have p4:=y.c4;have r5:=d.c5;have z5:=d.frozen 5;have p5:=y.c5;have r6:=d.c6;have z6:=d.frozen 6;have p6:=y.c6;have r7:=d.c7;have z7:=d.frozen 7;have p7:=y.c7;have T:=ac.keep (A0 D (A2 w1 (H (mV me pa pk ca ck ha hk) 102) N));clear y;go_wp2_with fail
 all_goals
  clear r0 z0 p0 r1 z1 p1 r2 z2 p2 r3 z3 p3 r4 z4 p4 r5 z5 p5 r6 z6 p6 r7 z7 p7;have j:=b4C d (Z me.n) (V pa me.p.length pk) (J I me.r.k) (Z me.r.n) (J I me.s) (J I me.l) (V ca me.c.length ck) (V ha me.h.length hk);have aa:=b4x (w1.alloc (H (mV me pa pk ca ck ha hk) 102)) (w.heap.size+1) (Z me.n) (V pa me.p.length pk) (J I me.r.k) (Z me.r.n) (J I me.s) (J I me.l) (V ca me.c.length ck) (V ha me.h.length hk);have S:=C6 (A0 (A0 HW.o D) (A2 w1 (H (mV me pa pk ca ck ha hk) 102) N)) aa (λk e=>by cases e;exact .inl (lu _));have C:=T.far aa Oo;generalize (((((((((w1.alloc (H (mV me pa pk ca ck ha hk) 102)).setCell (A (w.heap.size+1) 0 N) (Z me.n)).setCell (A (w.heap.size+1) 1 N) (V pa me.p.length pk)).setCell (A (w.heap.size+1) 2 N) (J I me.r.k)).setCell (A (w.heap.size+1) 3 N) (Z me.r.n)).setCell (A (w.heap.size+1) 4 N) (J I me.s)).setCell (A (w.heap.size+1) 5 N) (J I me.l)).setCell (A (w.heap.size+1) 6 N) (V ca me.c.length ck)).setCell (A (w.heap.size+1) 7 N) (V ha me.h.length hk))=W6 at j S C⊢;have q0:=j.c0;have q1:=j.c1;have q2:=j.c2;have q3:=j.c3;have q4:=j.c4;have q5:=j.c5;have q6:=j.c6;have q7:=j.c7;exact la (v:= .agg (mV me pa pk ca ck ha hk)) (by simp[lb,results323,go_sem,q0,q1,q2,q3,q4,q5,q6,q7]) rfl ⟨S,pa,ca,ha,pk,ck,hk,rfl,C⟩
def a4h(m:Me)(pa:Option lg)(pk:Nat)(ca:Option lg)(ck:Nat)(ha:Option lg)(hk:Nat):Array lh:=(mV m pa pk ca ck ha hk)
theorem c3J(S:w.grownBy w1 N)(F:w.heap.size<=g)(M:A4 w1 g #[a0,a1,a2,a3,a4,a5,a6,a7] t)(d j v y B C D E:lh):
 w.grownBy ((((((((w1.setCell (A g 0 N) d).setCell (A g 1 N) j).setCell (A g 2 N) v).setCell (A g 3 N) y).setCell (A g 4 N) B).setCell (A g 5 N) C).setCell (A g 6 N) D).setCell (A g 7 N) E) N/\
 A4 ((((((((w1.setCell (A g 0 N) d).setCell (A g 1 N) j).setCell (A g 2 N) v).setCell (A g 3 N) y).setCell (A g 4 N) B).setCell (A g 5 N) C).setCell (A g 6 N) D).setCell (A g 7 N) E) g #[d,j,v,y,B,C,D,E] t:=
 ⟨C6 S (b4x w1 g d j v y B C D E) (λk e=>by cases e;exact .inl F),b4C M d j v y B C D E⟩
theorem c1y(w:ld)(lim wb:Nat)(L:List Cl)(p:lg)(cap:Nat)(q:Nat->Qs)(h:X (Wo w lim wb L p cap q))(hM:X (P8 w lim L q))(F:X (Few L))(c:ByteArray)(i k:Nat)(hf:C8 L c=O i)(hk:k<(cl L i).m.length):
 lf prog 73 #[U (O (A wb 0 N)), Z c, J I k] w λe w'=>∃pa pk ca ck ha hk,e= Y (.agg (a4h (V0 L (i,k)) pa pk ca ck ha hk))/\C0 w' lim 2 B8 pa (V0 L (i,k)).p/\C0 w' lim 4 M0 ca (V0 L (i,k)).c/\C0 w' lim 4 O3 ha (V0 L (i,k)).h/\w.grownBy w' N:=by
 have hi:=(M8 hf).1;have hL:=F.o.1;have ab:V0 L (i,k)=(cl L i).m.getD k G3:=rfl;obtain⟨y,pa,ca,ha,pk,ck,D,h1,h2,h3,h4,h5,h6⟩:=hM.o i hi k hk;rw[<-ab]at h3 h4 h5 h6;obtain⟨m,hm⟩:=Oe (V0 L (i,k))
 rw[<-hm]at h3 h4 h5 h6⊢;have HR:X (C0 w lim 2 B8 pa m.p/\C0 w lim 4 M0 ca m.c/\C0 w lim 4 O3 ha m.h):=⟨h3,h4,h5⟩
 have ae:=(F.o.2 i hi).2;have S:=h.o.row i hi 3 (V (O y) (cl L i).m.length (q i).mc) (by rw[G9];simp[h1]);have d:=A1 h6;obtain⟨nm,T⟩:=Oe ((cl L i).m.length)
 obtain⟨mc,aa⟩:=Oe ((q i).mc)
 rw[<-T,<-aa]at S;rw[<-T]at hk ae;have HF:=A1 (b2m hf);obtain⟨nl,ac⟩:=Oe L.length
 have M:=h.o.c0;rw[<-ac]at hi hL M;clear T aa hm ab h1 h2 h3 h4 h5 h6 hf ac;have j:X (w.grownBy (w.alloc (H mZ 102)) N):=A2 _ _ _;have C:=A4.new w mZ 102;go_enter func73,ntmps73;go_upto_region 1 with fail
 generalize w.alloc (H mZ 102)=W1 at j C⊢;have ad:=A1 C;have c0:=j.o.cell M Os;have c3:W1.cell? (A ((p.add (i*4)).block) ((p.add (i*4)).off+3) N)=O (V (O y) nm mc):=by rw[C2 p (i*4) 2];exact j.o.cell S Os
 have m0:W1.cell? (y.add (k*8))=O (Z m.n):=j.o.cell (d.o 0 _ rfl) Os;have m1:W1.cell? (A ((y.add (k*8)).block) ((y.add (k*8)).off+1) N)=O (V pa m.p.length pk):=by rw[C2 y (k*8) 0];exact j.o.cell (d.o 1 _ rfl) Os
 have m2:W1.cell? (A ((y.add (k*8)).block) ((y.add (k*8)).off+2) N)=O (J I m.r.k):=by rw[C2 y (k*8) 1];exact j.o.cell (d.o 2 _ rfl) Os
 have m3:W1.cell? (A ((y.add (k*8)).block) ((y.add (k*8)).off+3) N)=O (Z m.r.n):=by rw[C2 y (k*8) 2];exact j.o.cell (d.o 3 _ rfl) Os
 have m4:W1.cell? (A ((y.add (k*8)).block) ((y.add (k*8)).off+4) N)=O (J I m.s):=by rw[C2 y (k*8) 3];exact j.o.cell (d.o 4 _ rfl) Os
 have m5:W1.cell? (A ((y.add (k*8)).block) ((y.add (k*8)).off+5) N)=O (J I m.l):=by rw[C2 y (k*8) 4];exact j.o.cell (d.o 5 _ rfl) Os
 have m6:W1.cell? (A ((y.add (k*8)).block) ((y.add (k*8)).off+6) N)=O (V ca m.c.length ck):=by rw[C2 y (k*8) 5];exact j.o.cell (d.o 6 _ rfl) Os
 have m7:W1.cell? (A ((y.add (k*8)).block) ((y.add (k*8)).off+7) N)=O (V ha m.h.length D):=by rw[C2 y (k*8) 6];exact j.o.cell (d.o 7 _ rfl) Os
 obtain⟨z0,z1,z2,z3,z4,z5,z6,z7⟩:=C.z8;obtain⟨r0,r1,r2,r3,r4,r5,r6,r7⟩:=C.q8;have HW:=A1 (h.o.keep (A0 j.o (A7 _ _)));clear C M S;go_region_with (go_at_call 121;refine(a2i _ lim wb L p cap q HW c).mono ?_;rintro e w' ⟨rfl,rfl⟩;rw[HF.o])
 all_goals
  obtain⟨B,E⟩:=c3J j.o (lp _) ad.o (Z m.n) (V pa m.p.length pk) (J I m.r.k) (Z m.r.n) (J I m.s) (J I m.l) (V ca m.c.length ck) (V ha m.h.length D);replace E:=E.keep (row:=N) (A7 _ N) Os
  replace B:=A0 B (A7 _ N)
  clear r0 r1 r2 r3 r4 r5 r6 r7 z0 z1 z2 z3 z4 z5 z6 z7 m0 m1 m2 m3 m4 m5 m6 m7;generalize ((((((((W1.setCell (A w.heap.size 0 N) (Z m.n)).setCell (A w.heap.size 1 N) (V pa m.p.length pk)).setCell (A w.heap.size 2 N) (J I m.r.k)).setCell (A w.heap.size 3 N) (Z m.r.n)).setCell (A w.heap.size 4 N) (J I m.s)).setCell (A w.heap.size 5 N) (J I m.l)).setCell (A w.heap.size 6 N) (V ca m.c.length ck)).setCell (A w.heap.size 7 N) (V ha m.h.length D)).drew=W6 at E B⊢;obtain⟨q0,q1,q2,q3,q4,q5,q6,q7⟩:=E.q8;go_wp2_with fail
  exact la (v:= .agg (mV m pa pk ca ck ha D)) (by simp[lb,results73,go_sem,q0,q1,q2,q3,q4,q5,q6,q7]) rfl ⟨pa,pk,ca,ck,ha,D,rfl,HR.o.1.keep B,HR.o.2.1.keep B,HR.o.2.2.keep B,B⟩
structure Rw(w:World)(lim wb:Nat)(L:List Cl)(p:Addr)(cap:Nat)(q:Nat->Qs):Prop where
 wo:Wo w lim wb L p cap q
 pf:V9 w lim L q
 pm:P8 w lim L q
 few:Few L
 wld:C1 L
 mems:a4L L
 tyw:Z1 L
 le:lim<=w.heap.size
 szc:∀i,i<L.length->Szc (cl L i)
theorem Rw.keep(h:Rw w lim wb L p cap q)(d:w.grownBy w' N):Rw w' lim wb L p cap q:=
 ⟨h.wo.keep d,λi hi=>(h.pf i hi).keep d,h.pm.keep d,h.few,h.wld,h.mems,h.tyw,lv h.le d.size,h.szc⟩
def X4(L:List Cl)(c n:ByteArray):Me:=match L6 L c n with|some p=>V0 L p|none=>G3
theorem Rw.calledN(h:Rw w lim wb L p cap q)(c n:ByteArray):(X4 L c n).p.length<=65536:=by
 unfold X4;cases hm:L6 L c n with
 |none=>simp[G3]
 |some x=>
  obtain⟨e,d,-,-,-⟩:=h.wld.meth_lt hm;have:=((h.szc _ e).2.2 _ d).1;simpa[V0,d]using this
theorem a4x(L:List Cl)(i:In):O2 L i=X4 L i.c i.m:=rfl
theorem a7e(w:ld)(lim wb:Nat)(L:List Cl)(p:lg)(cap:Nat)(q:Nat->Qs)(h:Hid (Rw w lim wb L p cap q))(c n:ByteArray):
 lf prog 188 #[U (O (A wb 0 N)), Z c, Z n] w λe w'=>∃pa pk,e= Y (.tuple #[V pa (X4 L c n).p.length pk,M7 (X4 L c n).r, G (L6 L c n).isSome])/\C0 w' lim 2 B8 pa (X4 L c n).p/\w.grownBy w' N:=by
 have y:Hid (w.grownBy (w.alloc (H #[J I 0, Z ⟨#[]⟩] 98)) N):=A2 _ _ _;have ac:=A1 (A4.new w #[J I 0, Z ⟨#[]⟩] 98);cases hma:L6 L c n with
 |none=>
  have HC:Hid (X4 L c n=G3):=by unfold Hid X4;rw[hma]
  have HM:Hid (mtC L c n=⟨#[]⟩/\mtK L c n=0):=by unfold Hid mtC mtK;rw[hma];exact⟨rfl,rfl⟩
  rw[HC.o];clear hma HC;go_enter func188,ntmps188;go_wp2_with (go_at_call 72;refine(b0K _ lim wb L p cap q (h.o.keep y.o).wo (h.o.keep y.o).pm h.o.few c n).mono ?_;rintro e w1 ⟨rfl,C⟩;rw[HM.o.1,HM.o.2];have d:=ac.o.keep C Os;obtain⟨r0,r1,z0,z1⟩:=O7 d)
  all_goals
   obtain⟨D,B⟩:=a6n (A0 y.o C) (lp _) d 0 ⟨#[]⟩;clear r0 r1 z0 z1;generalize (w1.setCell (A w.heap.size 0 N) (J I 0)).setCell (A w.heap.size 1 N) (Z ⟨#[]⟩)=W6 at B D⊢;obtain⟨q0,q1,-,-⟩:=O7 B;exact la (v:= .tuple #[V N 0 0, .agg #[J I 0, Z ⟨#[]⟩], G false]) (by simp[lb,results188,go_sem,q0,q1]) rfl ⟨N,0,rfl,λj hj=>absurd hj (by simp[G3]),D⟩
 |some pp=>
  obtain⟨i,k⟩:=pp;obtain⟨hi,hk,-,-,-⟩:=h.o.wld.meth_lt hma;dsimp only at hi hk;have HC:Hid (X4 L c n=V0 L (i,k)):=by unfold Hid X4;rw[hma]
  have HM:Hid (mtC L c n=(cl L i).n/\mtK L c n=k):=by unfold Hid mtC mtK;rw[hma];exact⟨rfl,rfl⟩
  have ab:=h.o.wld.names i hi;have ad:=h.o.wld.find_name hi;rw[HC.o];obtain⟨m,hm⟩:=Oe (V0 L (i,k))
  have T:Hid (∀W,w.grownBy W N->lf prog 73 #[U (O (A wb 0 N)), Z (cl L i).n, J I k] W λe w'=>∃pa pk ca ck ha hk,e= Y (.agg (a4h m pa pk ca ck ha hk))/\C0 w' lim 2 B8 pa m.p/\C0 w' lim 4 M0 ca m.c/\C0 w' lim 4 O3 ha m.h/\W.grownBy w' N):=by
   rw[hm];exact λW hW=>c1y W lim wb L p cap q (h.o.keep hW).wo (h.o.keep hW).pm h.o.few _ i k ad hk
  rw[<-hm];obtain⟨X,hX⟩:=Oe ((cl L i).n)
  rw[<-hX]at ab HM T;have hb:X.toList.isEmpty=false:=by rw[b0Y];exact decide_eq_false ab
  clear hX hm hma HC ad hk hi ab;go_enter func188,ntmps188
  go_wp2_with (first
   |(go_at_call 72;refine(b0K _ lim wb L p cap q (h.o.keep y.o).wo (h.o.keep y.o).pm h.o.few c n).mono ?_;rintro e w1 ⟨rfl,C⟩;rw[HM.o.1,HM.o.2])
   |(go_at_call 73;refine(T.o _ (A0 y.o C)).mono ?_;rintro e w2 ⟨pa,pk,ca,ck,ha,F,rfl,hp,-,-,aa⟩;dsimp only[a4h]))
  have E:=A4.new w2 (a4h m pa pk ca ck ha F) 102;have d:=(ac.o.keep C Os).keep (row:=N) (A0 aa (A2 w2 (H (a4h m pa pk ca ck ha F) 102) N)) Os;have M:=A0 (A0 (A0 y.o C) aa) (A2 w2 (H (a4h m pa pk ca ck ha F) 102) N);have S:=hp.keep (A2 w2 (H (a4h m pa pk ca ck ha F) 102) N);unfold a4h at E d M S;generalize w2.alloc (H (mV m pa pk ca ck ha F) 102)=W3 at E d M S⊢;have ag:=A1 M;have af:=A1 d;have ah:=A1 S;have m1:=E.c1;have m2:=E.c2;have m3:=E.c3;obtain⟨r0,r1,z0,z1⟩:=O7 d;clear E d M S hp C aa T;go_region
  all_goals
   obtain⟨D,B⟩:=a6n ag.o (lp _) af.o (m.r.k:Int) m.r.n;replace B:=B.keep (row:=N) (A7 _ N) Os
   replace D:=A0 D (A7 _ N)
   have ae:=(C0.far ah.o (A0 (A6 W3 (A w.heap.size 0 N) (J I m.r.k)) (A6 _ (A w.heap.size 1 N) (Z m.r.n))) h.o.le).keep (A7 _ N);clear r0 r1 z0 z1 m1 m2 m3;generalize ((W3.setCell (A w.heap.size 0 N) (J I (m.r.k:Int))).setCell (A w.heap.size 1 N) (Z m.r.n)).drew=W6 at B D ae⊢;obtain⟨q0,q1,-,-⟩:=O7 B;go_wp2_with fail
   exact la (v:= .tuple #[V pa m.p.length pk, .agg #[J I m.r.k, Z m.r.n], G true]) (by simp[lb,results188,go_sem,q0,q1]) rfl ⟨pa,pk,rfl,ae,D⟩
theorem a5r{r:Option Nat}(h:w.grownBy w' r):w.heap.size<=w'.heap.size:=h.size
def a4F(cs:ByteArray)(op:Nat)(t:Ty):Prop:=
 (op=0/\t=O4)\/(op=1/\t=a0X)\/(op=2/\t=A8)\/(op=7/\t=O4)\/(op=8/\t=O4)\/(op=9/\t=O4)\/(op=10/\t=O4)\/(op=11/\t=O4)\/(op=16/\t=C5 cs)\/(op=21/\t=⟨3,D4⟩)\/(op=23/\t=O4)\/(op=24/\t=O4)\/(op=26/\t=A8)\/(op=28/\t=C5 cs)\/(op=29/\t=O4)
def a7F(w:ld)(b:Nat)(L:List Cl)(a:Int)(cs ms:ByteArray)(op:Nat):Prop:=
 lf prog 273 #[U (O (A b 0 N)), .agg #[J I op, J I a, Z cs, Z ms]] w λe w'=>w.grownBy w' N/\∃v,e= Y v/\w'.ownsRow w.heap.size 98 2 v (C7 L ⟨op,a,cs,ms⟩).length ((C7 L ⟨op,a,cs,ms⟩).flatMap B8)
theorem b9R(w:ld)(b:Nat)(L:List Cl)(a:Int)(cs ms:ByteArray)(y:Nat)(t:Ty)(B:a4F cs y t):a7F w b L a cs ms y:=by
 unfold a7F
 have C:X (C7 L ⟨y,a,cs,ms⟩=[t]):=by
  rcases B with h|h|h|h|h|h|h|h|h|h|h|h|h|h|h<;>(obtain⟨rfl,rfl⟩:=h;exact rfl)
 have d:X (w.grownBy (w.alloc (H #[J I y, J I a, Z cs, Z ms] 120)) N):=A2 _ _ _;have E:=A4.new w #[J I y, J I a, Z cs, Z ms] 120;obtain⟨c0,c1,c2,c3⟩:=E.q4;clear E;rcases B with h|h|h|h|h|h|h|h|h|h|h|h|h|h|h
 all_goals
  obtain⟨rfl,D⟩:=h;have F:X (_=_):=D;clear D;simp only[Int.natCast_zero,Int.natCast_one,nv]at c0 c1 c2 c3 d⊢;go_enter func273,ntmps273;go_wp2_with (first|(go_at_call 320;refine(a0x _ _).mono ?_)|(go_at_call 267;refine(y9 _ _).mono ?_))
  rintro e w1 ⟨rfl,j⟩;go_wp2_with (go_at_call 321;refine(R8 _ _).mono ?_;rintro e M ⟨rfl,rfl⟩)
  all_goals exact la (v:= V (O (A w1.heap.size 0 N)) 1 1) (by simp[lb,results273,go_sem]) rfl ⟨A0 (A0 d.o j) (A2 w1 _ N),_,rfl,by
   have B:=a1g w1 98 2 1 w.heap.size (B8 t) rfl (a5r (A0 d.o j)) Om;rw[C.o];have e:=F.o;subst e;simpa[B8,O4,a0X,A8,C5,D4]using B⟩
theorem b2I(w:ld)(b:Nat)(L:List Cl)(a:Int)(cs ms:ByteArray)(j:Nat)(C:j=5\/j=6):a7F w b L a cs ms j:=by
 unfold a7F;have D:X (C7 L ⟨j,a,cs,ms⟩=[A8,A8]):=by rcases C with rfl|rfl<;>exact rfl
 have d:X (w.grownBy (w.alloc (H #[J I j, J I a, Z cs, Z ms] 120)) N):=A2 _ _ _;have F:=A4.new w #[J I j, J I a, Z cs, Z ms] 120;obtain⟨c0,c1,c2,c3⟩:=F.q4;clear F;rcases C with rfl|rfl
 all_goals
  simp only[nv]at c0 c1 c2 c3 d⊢;go_enter func273,ntmps273;go_wp2_with (go_at_call 320;refine(a0x _ _).mono ?_)
  rintro e w1 ⟨rfl,y⟩;go_wp2_with (go_at_call 320;refine(a0x _ _).mono ?_)
  rintro e E ⟨rfl,B⟩;go_wp2_with (go_at_call 321;refine(R8 _ _).mono ?_;rintro e M ⟨rfl,rfl⟩)
  all_goals exact la (v:= V (O (A E.heap.size 0 N)) 2 2) (by simp[lb,results273,go_sem]) rfl ⟨A0 (A0 (A0 d.o y) B) (A2 E _ N),_,rfl,by
   have C:=a1g E 98 2 2 w.heap.size [J I 0, Z ⟨#[]⟩, J I 0, Z ⟨#[]⟩] Os (a5r (A0 (A0 d.o y) B)) Om;rw[D.o];simpa[B8,O4,a0X,A8,C5,D4]using C⟩
theorem c3t(n d:ByteArray)(rk st lo:Int)(j e hv:lh)(w:ld):(Instr.field 102 (.agg #[Z n,j, J I rk, Z d, J I st, J I lo,e,hv]) 2).run prog w= .ok (.agg #[J I rk, Z d]) w:=by kernel_rfl
theorem c1B(w:ld)(b:Nat)(L:List Cl)(a:Int)(cs ms:ByteArray)(lim:Nat)(p:lg)(cap S T m3:Nat)(q:Nat->Qs)(h:X (Lk w lim b L p cap S T m3 q))(hl:lim<=w.heap.size)(F:cs.size<=lj)(M:ms.size<=lj):lf prog 273 #[U (O (A b 0 N)), .agg #[J I 17, J I a, Z cs, Z ms]] w λe w'=>w.grownBy w' N/\∃v,e= Y v/\w'.ownsRow w.heap.size 98 2 v (C7 L ⟨17,a,cs,ms⟩).length ((C7 L ⟨17,a,cs,ms⟩).flatMap B8):=by
 obtain⟨fk,j,d⟩:∃fk j,Z3 L ⟨17,a,cs,ms⟩=⟨fk,j⟩:=⟨_,_,rfl⟩
 have D:X (lf prog 322 #[U (O (A b 0 N)), .agg #[J I 17, J I a, Z cs, Z ms]] (w.alloc (H #[J I 17, J I a, Z cs, Z ms] 120)) λe w'=>e= Y (.agg #[J I fk, Z j])/\(w.alloc (H #[J I 17, J I a, Z cs, Z ms] 120)).grownBy w' N):=by
  have:=b0v (w.alloc (H #[J I 17, J I a, Z cs, Z ms] 120)) lim b L p cap S T m3 q (h.o.keep (A2 _ _ _) hl) Oi ⟨17,a,cs,ms⟩ F M;rw[d]at this;exact this
 have y:X (w.grownBy (w.alloc (H #[J I 17, J I a, Z cs, Z ms] 120)) N):=A2 _ _ _;have B:=A4.new w #[J I 17, J I a, Z cs, Z ms] 120;have c0:=B.c0;have c1:=B.c1;have c2:=B.c2;have c3:=B.c3;have E:X (C7 L ⟨17,a,cs,ms⟩=[⟨fk,j⟩]):=by unfold X;rw[<-d];rfl
 clear B;clear d h F M;go_enter func273,ntmps273;go_wp2_with (go_at_call 322;refine D.o.mono ?_)
 rintro e w1 ⟨rfl,C⟩;go_wp2_with (go_at_call 321;refine(R8 _ _).mono ?_;rintro e w9 ⟨rfl,rfl⟩)
 all_goals exact la (v:= V (O (A w1.heap.size 0 N)) 1 1) (by simp[lb,results273,go_sem]) rfl ⟨A0 (A0 y.o C) (A2 w1 (H #[J I fk, Z j] 98) N),_,rfl,by
  have ho:=a1g w1 98 2 1 w.heap.size [J I fk, Z j] Os (a5r (A0 y.o C)) Om;rw[E.o];simpa[B8,O4,a0X,A8,C5,D4]using ho⟩
theorem c1A(w:ld)(b:Nat)(L:List Cl)(a:Int)(cs ms:ByteArray)(lim:Nat)(p:lg)(cap M S T:Nat)(q:Nat->Qs)(h:X (Lk w lim b L p cap M S T q))(hl:lim<=w.heap.size)(E:cs.size<=lj)(F:ms.size<=lj)(k:Nat×Nat)(hk:L6 L cs ms=O k):lf prog 273 #[U (O (A b 0 N)), .agg #[J I 19, J I a, Z cs, Z ms]] w λe w'=>w.grownBy w' N/\∃v,e= Y v/\w'.ownsRow w.heap.size 98 2 v (C7 L ⟨19,a,cs,ms⟩).length ((C7 L ⟨19,a,cs,ms⟩).flatMap B8):=by
 have B:C7 L ⟨19,a,cs,ms⟩=Z2 (O2 L ⟨19,a,cs,ms⟩).r:=rfl;rw[B]
 have d:X (lf prog 323 #[U (O (A b 0 N)), .agg #[J I 19, J I a, Z cs, Z ms]] (w.alloc (H #[J I 19, J I a, Z cs, Z ms] 120)) λe w'=>(w.alloc (H #[J I 19, J I a, Z cs, Z ms] 120)).grownBy w' N/\∃pa ca ha pk ck hk,e= Y (.agg #[Z (O2 L ⟨19,a,cs,ms⟩).n, V pa (O2 L ⟨19,a,cs,ms⟩).p.length pk, J I (O2 L ⟨19,a,cs,ms⟩).r.k, Z (O2 L ⟨19,a,cs,ms⟩).r.n, J I (O2 L ⟨19,a,cs,ms⟩).s, J I (O2 L ⟨19,a,cs,ms⟩).l, V ca (O2 L ⟨19,a,cs,ms⟩).c.length ck, V ha (O2 L ⟨19,a,cs,ms⟩).h.length hk])/\a3b w' lim (O2 L ⟨19,a,cs,ms⟩) pa ca ha):=
  b1F (w.alloc (H #[J I 19, J I a, Z cs, Z ms] 120)) lim b L p cap M S T q (h.o.keep (A2 _ _ _) hl) Oi ⟨19,a,cs,ms⟩ E F k hk
 generalize O2 L ⟨19,a,cs,ms⟩=me at d⊢;have j:X (w.grownBy (w.alloc (H #[J I 19, J I a, Z cs, Z ms] 120)) N):=A2 _ _ _;have y:=A4.new w #[J I 19, J I a, Z cs, Z ms] 120;have c0:=y.c0;have c1:=y.c1;have c2:=y.c2;have c3:=y.c3;clear y h E F B hk;go_enter func273,ntmps273;go_wp2_with (go_at_call 323;refine d.o.mono ?_)
 rintro e w1 ⟨C,pa,ca,ha,pk,ck,hk,rfl,-⟩;have aa:=c3t me.n me.r.n (me.r.k:Int) (me.s:Int) (me.l:Int) (V pa me.p.length pk) (V ca me.c.length ck) (V ha me.h.length hk) w1;go_wp2_with (go_at_call 324;refine(b0n _ me.r).mono ?_)
 rintro e w2 ⟨D,v,rfl,ho⟩;go_wp2_with fail
 all_goals exact la (v:=v) (by simp[lb,results273,go_sem]) rfl ⟨A0 (A0 j.o C) D,v,rfl,U6 ho (a5r (A0 j.o C))⟩
theorem c1z(w:ld)(b:Nat)(L:List Cl)(a:Int)(cs ms:ByteArray):lf prog 273 #[U (O (A b 0 N)), .agg #[J I 22, J I a, Z cs, Z ms]] w λe w'=>w.grownBy w' N/\∃v,e= Y v/\w'.ownsRow w.heap.size 98 2 v (C7 L ⟨22,a,cs,ms⟩).length ((C7 L ⟨22,a,cs,ms⟩).flatMap B8):=by
 have d:X (w.grownBy (w.alloc (H #[J I 22, J I a, Z cs, Z ms] 120)) N):=A2 _ _ _;have j:=A4.new w #[J I 22, J I a, Z cs, Z ms] 120;have c0:=j.c0;have c1:=j.c1;have c2:=j.c2;have c3:=j.c3;have y:X (C7 L ⟨22,a,cs,ms⟩=[⟨4,cs⟩]):=rfl;clear j;go_enter func273,ntmps273;go_wp2_with (go_at_call 321;refine(R8 _ _).mono ?_;rintro e C ⟨rfl,rfl⟩)
 all_goals exact la (v:= V (O ⟨(w.alloc (H #[J I 22, J I a, Z cs, Z ms] 120)).heap.size,0,N⟩) 1 1) (by simp[lb,results273,go_sem]) rfl ⟨A0 (d.o) (A2 (w.alloc (H #[J I 22, J I a, Z cs, Z ms] 120)) (H #[J I 4, Z cs] 98) N),_,rfl,by
  have B:=a1g (w.alloc (H #[J I 22, J I a, Z cs, Z ms] 120)) 98 2 1 w.heap.size [J I 4, Z cs] Os (a5r (d.o)) Om;rw[y.o];simpa[B8,O4,a0X,A8,C5,D4]using B⟩
theorem b8t(w:ld)(b:Nat)(L:List Cl)(a:Int)(cs ms:ByteArray)(d:Nat)(B:d≠0/\d≠7/\d≠8/\d≠9/\d≠10/\d≠11/\d≠23/\d≠24/\d≠29/\d≠1/\d≠2/\d≠26/\d≠5/\d≠6/\d≠16/\d≠28/\d≠17/\d≠19/\d≠21/\d≠22):lf prog 273 #[U (O (A b 0 N)), .agg #[J I d, J I a, Z cs, Z ms]] w λe w'=>w.grownBy w' N/\∃v,e= Y v/\w'.ownsRow w.heap.size 98 2 v (C7 L ⟨d,a,cs,ms⟩).length ((C7 L ⟨d,a,cs,ms⟩).flatMap B8):=by
 obtain⟨n0,n7,n8,n9,ag,ah,an,ao,ar,n1,n2,ap,n5,n6,ai,aq,aj,ak,al,am⟩:=B;have k0:¬(d:Int)=0:=by omega
 have k7:¬(d:Int)=7:=by omega
 have k8:¬(d:Int)=8:=by omega
 have k9:¬(d:Int)=9:=by omega
 have D:¬(d:Int)=10:=by omega
 have E:¬(d:Int)=11:=by omega
 have ab:¬(d:Int)=23:=by omega
 have ac:¬(d:Int)=24:=by omega
 have af:¬(d:Int)=29:=by omega
 have k1:¬(d:Int)=1:=by omega
 have k2:¬(d:Int)=2:=by omega
 have ad:¬(d:Int)=26:=by omega
 have k5:¬(d:Int)=5:=by omega
 have k6:¬(d:Int)=6:=by omega
 have F:¬(d:Int)=16:=by omega
 have ae:¬(d:Int)=28:=by omega
 have M:¬(d:Int)=17:=by omega
 have S:¬(d:Int)=19:=by omega
 have T:¬(d:Int)=21:=by omega
 have aa:¬(d:Int)=22:=by omega
 have y:X (C7 L ⟨d,a,cs,ms⟩=[]):=by
  unfold X C7;dsimp only;rw[if_neg Oo,if_neg Oo,if_neg Oo,if_neg Oo,if_neg Oo,if_neg Oo,if_neg Oo,if_neg Oo,if_neg Oo]
 have j:X (w.grownBy (w.alloc (H #[J I d, J I a, Z cs, Z ms] 120)) N):=A2 _ _ _;have C:=A4.new w #[J I d, J I a, Z cs, Z ms] 120;have c0:=C.c0;clear C;go_enter func273,ntmps273;go_wp2_with fail
 all_goals exact la (v:= V N 0 0) (by simp[lb,results273,go_sem]) rfl ⟨j.o,_,rfl,by rw[y.o];exact lw _ _ _ _⟩
theorem b9S(w:ld)(lim b:Nat)(L:List Cl)(p:lg)(cap D E F:Nat)(q:Nat->Qs)(h:X (Lk w lim b L p cap D E F q))(M:lim<=w.heap.size)(i:In)(j:i.c.size<=lj)(B:i.m.size<=lj)(hk:i.o=19->∃k,L6 L i.c i.m=O k):
 lf prog 273 #[U (O (A b 0 N)), .agg #[J I i.o, J I i.a, Z i.c, Z i.m]] w λe w'=>w.grownBy w' N/\∃v,e= Y v/\w'.ownsRow w.heap.size 98 2 v (C7 L i).length ((C7 L i).flatMap B8):=by
 obtain⟨d,a,cs,ms⟩:=i;dsimp only at j B hk⊢;have S:=λt ht=>b9R w b L a cs ms d t ht
 have y:(∃t,a4F cs d t)\/d=5\/d=6\/d=17\/d=19\/d=22\/(d≠0/\d≠7/\d≠8/\d≠9/\d≠10/\d≠11/\d≠23/\d≠24/\d≠29/\d≠1/\d≠2/\d≠26/\d≠5/\d≠6/\d≠16/\d≠28/\d≠17/\d≠19/\d≠21/\d≠22):=by
  by_cases hI:d=0\/d=7\/d=8\/d=9\/d=10\/d=11\/d=23\/d=24\/d=29
  ·rcases hI with rfl|rfl|rfl|rfl|rfl|rfl|rfl|rfl|rfl<;>exact .inl ⟨O4,by simp[a4F]⟩
  by_cases hR:d=16\/d=28
  ·rcases hR with rfl|rfl<;>exact .inl ⟨C5 cs,by simp[a4F]⟩
  by_cases hN:d=2\/d=26
  ·rcases hN with rfl|rfl<;>exact .inl ⟨A8,by simp[a4F]⟩
  by_cases hL:d=1
  ·subst hL;exact .inl ⟨a0X,by simp[a4F]⟩
  by_cases hA:d=21
  ·subst hA;exact .inl ⟨⟨3,D4⟩,by simp[a4F]⟩
  omega
 rcases y with⟨t,ht⟩|T|h6|rfl|rfl|rfl|C
 ·exact S t ht
 ·exact b2I w b L a cs ms d (.inl T)
 ·exact b2I w b L a cs ms d (.inr h6)
 ·exact c1B w b L a cs ms lim p cap D E F q h M j B
 ·obtain⟨k,hk⟩:=hk rfl;exact c1A w b L a cs ms lim p cap D E F q h M j B k hk
 ·exact c1z w b L a cs ms
 ·exact b8t w b L a cs ms d C
def a1o(tn pn ahead most:Nat)(ends:Bool):lh:=if ends then .tuple #[J I 0, G (decide (tn<=ahead))]else .tuple #[J I ((ahead:Int)-tn+pn), G (decide (tn<=ahead)&&decide ((ahead:Int)-tn+pn<=most))]
theorem b1G(w:ld)(D pa:Option lg)(tn E B pk d y:Nat)(ends:Bool)(F:tn<=65536)(M:B<=65536)(S:d<=65536)(T:y<=65536):
 lf prog 275 #[.agg #[V D tn E, V pa B pk, G ends], J I d, J I y] w λe w'=>e= Y (a1o tn B d y ends)/\w.grownBy w' N:=by
 have C:w.grownBy (w.alloc (H #[V D tn E, V pa B pk, G ends] 315)) N:=A2 _ _ _;cases ends with
 |true=>
  by_cases hle:tn<=d
  ·have j:(0:Int)<=(d:Int)-tn:=by omega
   go_enter func275,ntmps275;go_wp2_with fail
   all_goals exact la (v:= .tuple #[J I 0, G true]) (by simp[lb,results275,go_sem,hle,j]) rfl ⟨by simp[a1o,hle],C⟩
  ·have j:¬(0:Int)<=(d:Int)-tn:=by omega
   go_enter func275,ntmps275;go_wp2_with fail
   all_goals exact la (v:= .tuple #[J I 0, G false]) (by simp[lb,results275,go_sem,hle,j]) rfl ⟨by simp[a1o,hle],C⟩
 |false=>
  by_cases hle:tn<=d
  ·have j:(0:Int)<=(d:Int)-tn:=by omega
   by_cases hm:(d:Int)-tn+B<=y
   ·go_enter func275,ntmps275;go_wp2_with fail
    all_goals exact la (v:= .tuple #[J I ((d:Int)-tn+B), G true]) (by simp[lb,results275,go_sem,hle,j,hm]) rfl ⟨by simp[a1o,hle,hm],C⟩
   ·go_enter func275,ntmps275;go_wp2_with fail
    all_goals exact la (v:= .tuple #[J I ((d:Int)-tn+B), G false]) (by simp[lb,results275,go_sem,hle,j,hm]) rfl ⟨by simp[a1o,hle,hm],C⟩
  ·have j:¬(0:Int)<=(d:Int)-tn:=by omega
   go_enter func275,ntmps275;go_wp2_with fail
   all_goals exact la (v:= .tuple #[J I ((d:Int)-tn+B), G false]) (by simp[lb,results275,go_sem,hle,j]) rfl ⟨by simp[a1o,hle],C⟩
theorem S0(d:W.grownBy w1 N):(∀b o,b<W.heap.size->w1.cell? (A b o N)=W.cell? (A b o N))/\(∀b o,b<W.heap.size->w1.frozen? (A b o N)=W.frozen? (A b o N)):=
 ⟨λb o h=>World.cell?_of_block (a:=(A b o N)) (d.block b h Os),λb o h=>World.frozen?_of_block (a:=(A b o N)) (d.block b h Os)⟩
theorem V4{d:List Ty}(n:Nat)(cells:List lh)(j:w.grownBy W N)(e:cells=d.flatMap B8)(y:n=d.length)(C:n<=4):
 w.grownBy (W.alloc (H cells.toArray 98)) N/\∃v,Ending.returned (V (O (A W.heap.size 0 N)) n n)= Y v/\(W.alloc (H cells.toArray 98)).ownsRow w.heap.size 98 2 v d.length (d.flatMap B8):=by
 refine⟨A0 j (A2 _ _ _),_,rfl,?_⟩
 have B:cells.length=n*2:=by
  rw[e,y]
  have:∀l:List Ty,(l.flatMap B8).length=l.length*2:=λl=>by
   exact c6n
  exact this d
 subst e y;exact a1g W 98 2 d.length w.heap.size _ B j.size Om
theorem b5Z(w:ld)(b:Nat)(L:List Cl)(pp:List Ty)(T F:ByteArray)(rk y j:Nat)(D:List In)(E:List Hd)(pa ca ha:Option lg)(pn pk cn ck hn hk:Nat)(d:Nat)(a:Int)(cs ms:ByteArray)
 (aj:d≠18/\d≠19):
 lf prog 272 #[U (O (A b 0 N)), .agg #[Z T, V pa pn pk, J I rk, Z F, J I y, J I j, V ca cn ck, V ha hn hk], .agg #[J I d, J I a, Z cs, Z ms]] w λe w'=>w.grownBy w' N/\∃v,e= Y v/\w'.ownsRow w.heap.size 98 2 v (E5 L ⟨T,pp,⟨rk,F⟩,y,j,D,E⟩ ⟨d,a,cs,ms⟩).length ((E5 L ⟨T,pp,⟨rk,F⟩,y,j,D,E⟩ ⟨d,a,cs,ms⟩).flatMap B8):=by
 generalize HTT:E5 L ⟨T,pp,⟨rk,F⟩,y,j,D,E⟩ ⟨d,a,cs,ms⟩=TT;have HT:=A1 HTT;clear HTT;have M:w.grownBy ((w.alloc (H #[Z T, V pa pn pk, J I rk, Z F, J I y, J I j, V ca cn ck, V ha hn hk] 102)).alloc (H #[J I d, J I a, Z cs, Z ms] 120)) N:=A0 (A2 _ _ _) (A2 _ _ _);have aa:=A1 M;clear M;have ab:d=3\/d=4\/d=5\/d=6\/d=7\/d=8\/d=9\/d=10\/d=11\/d=14\/d=13\/d=21\/d=22\/d=31\/d=15\/d=17\/d=20\/d=23\/d=28\/d=29\/d=26\/d=27\/d=30\/d=24\/d=25\/(d≠3/\d≠4/\d≠5/\d≠6/\d≠7/\d≠8/\d≠9/\d≠10/\d≠11/\d≠14/\d≠13/\d≠21/\d≠22/\d≠31/\d≠15/\d≠17/\d≠20/\d≠23/\d≠28/\d≠29/\d≠26/\d≠27/\d≠30/\d≠24/\d≠25):=by omega
 go_enter func272,ntmps272;go_wp2_with (go_at_call 320;refine(a0x _ _).mono ?_)
 rintro e w1 ⟨rfl,B⟩;obtain⟨af,ah⟩:=S0 B;have ae:=B.size;simp only[ln]at ae;have am:w.heap.size<w1.heap.size:=by omega
 have an:w.heap.size+1<w1.heap.size:=by omega
 go_wp2_with (go_at_call 267;refine(y9 _ _).mono ?_)
 rintro e w2 ⟨rfl,C⟩;obtain⟨ag,ai⟩:=S0 C;have ao:=C.size;have ak:w.heap.size<w2.heap.size:=by omega
 have al:w.heap.size+1<w2.heap.size:=by omega
 have HW2:X (w.grownBy ((w2.alloc (H #[J I 1, Z ⟨#[]⟩] 98)).alloc (H #[J I 2, Z ⟨#[79,98,106,101,99,116]⟩] 98)) N):=A0 (A0 (A0 (A0 aa.o B) C) (A2 _ _ _)) (A2 _ _ _);clear B C;go_upto_region 3 with fail
 rcases ab with rfl|rfl|rfl|rfl|rfl|rfl|rfl|rfl|rfl|rfl|rfl|rfl|rfl|rfl|rfl|rfl|rfl|rfl|rfl|rfl|rfl|rfl|rfl|rfl|rfl|ad
 ·exact a1q
 ·exact a1q
 ·exact a1q
 ·skip
  go_wp2_with (go_at_call 320;refine(a0x _ _).mono ?_)
  rintro e w3 ⟨rfl,hg3⟩;go_wp2_with (go_at_call 320;refine(a0x _ _).mono ?_)
  rintro e w4 ⟨rfl,ac⟩;go_wp2_with (go_at_call 321;refine(R8 _ _).mono ?_;rintro e w9 ⟨rfl,rfl⟩)
  all_goals exact la (v:= V (O (A w4.heap.size 0 N)) 2 2) (by simp[lb,results272,go_sem]) rfl (V4 2 [J I 0, Z ⟨#[]⟩, J I 0, Z ⟨#[]⟩] (A0 (A0 HW2.o hg3) ac) (by rw[HT.o.symm];rfl) (by rw[HT.o.symm];rfl) Oo)
 ·exact a0i
 ·exact a0i
 ·exact a0i
 ·exact a0i
 ·exact a0i
 ·exact a0i
 ·exact a0u
 ·exact a0u
 ·exact a0u
 ·exact a0u
 ·skip
  go_wp2_with (go_at_call 321;refine(R8 _ _).mono ?_;rintro e w9 ⟨rfl,rfl⟩)
  all_goals exact la (v:= V (O ⟨((w2.alloc (H #[J I 1, Z ⟨#[]⟩] 98)).alloc (H #[J I 2, Z ⟨#[79,98,106,101,99,116]⟩] 98)).heap.size,0,N⟩) 2 2) (by simp[lb,results272,go_sem]) rfl (V4 2 [J I 2, Z D5, J I 2, Z D5] (HW2.o) (by rw[HT.o.symm];rfl) (by rw[HT.o.symm];rfl) Oo)
 ·skip
  go_wp2_with (go_at_call 267;refine(y9 _ _).mono ?_)
  rintro e w3 ⟨rfl,hg3⟩;go_wp2_with (go_at_call 321;refine(R8 _ _).mono ?_;rintro e w9 ⟨rfl,rfl⟩)
  all_goals exact la (v:= V (O (A w3.heap.size 0 N)) 1 1) (by simp[lb,results272,go_sem]) rfl (V4 1 [J I 2, Z cs] (A0 HW2.o hg3) (by rw[HT.o.symm];rfl) (by rw[HT.o.symm];rfl) Oo)
 ·skip
  go_wp2_with (go_at_call 324;refine(b0n _ ⟨rk,F⟩).mono ?_)
  rintro e w3 ⟨hg3,v,rfl,ho⟩;go_wp2_with fail
  all_goals exact la (v:=v) (by simp[lb,results272,go_sem]) rfl ⟨A0 HW2.o hg3,v,rfl,by rw[<-HT.o];exact U6 ho (a5r HW2.o)⟩
 ·exact a1b
 ·exact a1b
 ·exact a1b
 ·skip
  go_wp2_with (go_at_call 321;refine(R8 _ _).mono ?_;rintro e w9 ⟨rfl,rfl⟩)
  all_goals exact la (v:= V (O ⟨((w2.alloc (H #[J I 1, Z ⟨#[]⟩] 98)).alloc (H #[J I 2, Z ⟨#[79,98,106,101,99,116]⟩] 98)).heap.size,0,N⟩) 2 2) (by simp[lb,results272,go_sem]) rfl (V4 2 [J I 2, Z D5, J I 1, Z ⟨#[]⟩] (HW2.o) (by rw[HT.o.symm];rfl) (by rw[HT.o.symm];rfl) Oo)
 ·skip
  go_wp2_with (go_at_call 321;refine(R8 _ _).mono ?_;rintro e w9 ⟨rfl,rfl⟩)
  all_goals exact la (v:= V (O ⟨((w2.alloc (H #[J I 1, Z ⟨#[]⟩] 98)).alloc (H #[J I 2, Z ⟨#[79,98,106,101,99,116]⟩] 98)).heap.size,0,N⟩) 3 3) (by simp[lb,results272,go_sem]) rfl (V4 3 [J I 2, Z D5, J I 1, Z ⟨#[]⟩, J I 2, Z D5] (HW2.o) (by rw[HT.o.symm];rfl) (by rw[HT.o.symm];rfl) Oo)
 ·skip
  go_wp2_with (go_at_call 267;refine(y9 _ _).mono ?_)
  rintro e w3 ⟨rfl,hg3⟩;go_wp2_with (go_at_call 321;refine(R8 _ _).mono ?_;rintro e w9 ⟨rfl,rfl⟩)
  all_goals exact la (v:= V (O (A w3.heap.size 0 N)) 1 1) (by simp[lb,results272,go_sem]) rfl (V4 1 [J I 2, Z G6] (A0 HW2.o hg3) (by rw[HT.o.symm];rfl) (by rw[HT.o.symm];rfl) Oo)
 ·skip
  go_upto_region 36 with fail
  have S:=(A4.new w2 #[J I 1, Z ⟨#[]⟩] 98).keep (A2 _ (H #[J I 2, Z ⟨#[79,98,106,101,99,116]⟩] 98) N) Os;obtain⟨Q0,Q1⟩:=S.q2;clear S;go_region_held2 (λw'=>w'.cell? (A w2.heap.size 0 N)=O (J I 1)/\w'.cell? (A w2.heap.size 1 N)=O (Z ⟨#[]⟩)) (go_keep) (first|(go_at_call 321;refine(R8 _ _).mono ?_;rintro e w9 ⟨rfl,rfl⟩)|(go_at_call 320;refine(a0x _ _).mono ?_;rintro e w3 ⟨rfl,hg3⟩;have s0:w3.cell? (A w2.heap.size 0 N)=O (J I 1):=hg3.cell Q0 Os;have s1:w3.cell? (A w2.heap.size 1 N)=O (Z ⟨#[]⟩):=hg3.cell Q1 Os))
  go_wp2_with fail
  all_goals exact la (v:= V (O (A w3.heap.size 0 N)) 2 2) (by simp[lb,results272,go_sem]) rfl (V4 2 [J I 3, Z ⟨#[]⟩, J I 1, Z ⟨#[]⟩] (A0 (A0 HW2.o (A7 _ _)) hg3) (by rw[HT.o.symm];rfl) (by rw[HT.o.symm];rfl) Oo)
 ·skip
  go_upto_region 38 with fail
  have S:=(A4.new w2 #[J I 1, Z ⟨#[]⟩] 98).keep (A2 _ (H #[J I 2, Z ⟨#[79,98,106,101,99,116]⟩] 98) N) Os;obtain⟨Q0,Q1⟩:=S.q2;clear S;go_region_held2 (λw'=>w'.cell? (A w2.heap.size 0 N)=O (J I 1)/\w'.cell? (A w2.heap.size 1 N)=O (Z ⟨#[]⟩)) (go_keep) (first|(go_at_call 321;refine(R8 _ _).mono ?_;rintro e w9 ⟨rfl,rfl⟩)|(go_at_call 320;refine(a0x _ _).mono ?_;rintro e w3 ⟨rfl,hg3⟩;have s0:w3.cell? (A w2.heap.size 0 N)=O (J I 1):=hg3.cell Q0 Os;have s1:w3.cell? (A w2.heap.size 1 N)=O (Z ⟨#[]⟩):=hg3.cell Q1 Os))
  go_wp2_with fail
  all_goals exact la (v:= V (O (A w3.heap.size 0 N)) 3 3) (by simp[lb,results272,go_sem]) rfl (V4 3 [J I 3, Z ⟨#[]⟩, J I 1, Z ⟨#[]⟩, J I 1, Z ⟨#[]⟩] (A0 (A0 HW2.o (A7 _ _)) hg3) (by rw[HT.o.symm];rfl) (by rw[HT.o.symm];rfl) Oo)
 ·obtain⟨n3,n4,n5,n6,n7,n8,n9,bk,bl,bn,bm,br,bs,b2,bo,bp,bq,bt,bz,b0,bw,bx,b1,bu,bv⟩:=ad;have k3:¬(d:Int)=3:=by omega
  have k4:¬(d:Int)=4:=by omega
  have k5:¬(d:Int)=5:=by omega
  have k6:¬(d:Int)=6:=by omega
  have k7:¬(d:Int)=7:=by omega
  have k8:¬(d:Int)=8:=by omega
  have k9:¬(d:Int)=9:=by omega
  have ap:¬(d:Int)=10:=by omega
  have aq:¬(d:Int)=11:=by omega
  have au:¬(d:Int)=14:=by omega
  have ar:¬(d:Int)=13:=by omega
  have a':¬(d:Int)=21:=by omega
  have ba:¬(d:Int)=22:=by omega
  have bj:¬(d:Int)=31:=by omega
  have av:¬(d:Int)=15:=by omega
  have aw:¬(d:Int)=17:=by omega
  have az:¬(d:Int)=20:=by omega
  have bb:¬(d:Int)=23:=by omega
  have bg:¬(d:Int)=28:=by omega
  have bh:¬(d:Int)=29:=by omega
  have be:¬(d:Int)=26:=by omega
  have bf:¬(d:Int)=27:=by omega
  have bi:¬(d:Int)=30:=by omega
  have bc:¬(d:Int)=24:=by omega
  have bd:¬(d:Int)=25:=by omega
  have ax:¬(d:Int)=18:=by omega
  have ay:¬(d:Int)=19:=by omega
  have HN:X (TT=[]):=by
   unfold X;rw[<-HT.o];unfold E5;dsimp only;repeat rw[if_neg Oo]
  go_wp2_with fail
  all_goals exact la (v:= V N 0 0) (by simp[lb,results272,go_sem]) rfl ⟨HW2.o,_,rfl,by rw[HN.o];exact lw _ _ _ _⟩
open Go.RowKit Cf
variable {P:Program}{w:World}{o:Oper}{a:Act}{K:Act->World->Prop}{Q:Exit->Act->World->Prop}
theorem a7V(s x:nb)(t:lm)
 (ho:o.op= .call {callee:= .builtin .append,args:= #[s,x],argTypes:= #[t,t]})
 (base:Nat) (e:lm) (i:nc) (z:lh) (size li:Nat) (ht:P.underlying t=O (.slice e)) (hi:P.info? e=O i) (hz:i.zero=O z)
 (E:i.size=size) (af:i.bytes=li) (ah:z.cells.size=size) (ac:0<size)
 (F:Option lg) (n M:Nat) (xs:List lh) (hs:a.eval s= .slice F n M) (y:w.ownsRow base e size (.slice F n M) n xs)
 (S:Option lg) (m c:Nat) (d:List lh) (hx:a.eval x= .slice S m c) (hl:d.length=m*size) (v:∀j u,d[j]? =O u->∃B,S=O B/\w.cell? (B.add j)=O u) (h1:∀u∈d,u.oneCell'=true)
 (ae:n+m<=lj) (C:(n+m)*li<=140737488355328) (D:base<=w.heap.size)
 (h:∀a' cap w',w'.ownsRow base e size (.slice a' (n+m) cap) (n+m) (xs++d)->w.grownBy w' (Value.slice F n M).ownBlock->(∀p,a'=O p->(∃q,F=O q/\q.block=p.block)\/w.heap.size<=p.block)->K (a.put o.dst (.slice a' (n+m) cap)) w'):o.wp P a w K Q:=by
 by_cases hm:m=0
 ·subst hm
  have aa:d=[]:=by
   apply List.eq_nil_of_length_eq_zero;omega
  subst aa
  have ag:n<=M:=by
   rcases y.2 with⟨h2,h3⟩|⟨g,cap,aj,hv,_,_,hc,_⟩
   ·injection h2 with _ _ h4;omega
   ·injection hv with _ h5 h4;omega
  have ab:Src P i.size t (.slice S 0 c) 0 [] w:=by
   cases S with
   |none=>exact Src.ofNil w ht c
   |some B=>exact Src.ofSlice w ht B 0 c [] Os (λj u hu=>by cases hu) (λu hu=>by cases hu)
  have hr:=run_append_nothing (P:=P) w t t o.type e i ht hi F n M ag (.slice S 0 c) ab;unfold Oper.wp execOp;simp only[ho,resolve,invoke,builtin,Sem.run_bind,Sem.run_pure,Result.andThen_ok,List.map_toArray,List.map_cons,List.map_nil,hs,hx,hr];exact h F M w (by simpa using y) (C9 _ _) (λp e=> .inl ⟨p,e,rfl⟩)
 ·obtain⟨B,rfl⟩:∃B,S=O B:=by
   have:0<d.length:=by rw[hl];exact Nat.mul_pos Oo ac
   obtain⟨B,h2,_⟩:=v 0 d[0] (by simp[this]);exact⟨B,h2⟩
  exact wp_append_lies w s x t ho base e i z size li ht hi hz E af ah ac _ n xs hs y B m c d hx hl (λj u hu=>by
   obtain⟨ai,h2,h3⟩:=v j u hu;cases h2;exact h3) h1 Oo ae C D w.heap.size rfl (λg cap w' g1 g2 T _=>h _ cap w' g1 g2 (λp e=>by
   cases e;rcases T with T|T
   ·cases F with
    |none=>simp[Value.ownBlock]at T
    |some q=>exact .inl ⟨q,rfl,by simpa[Value.ownBlock]using T⟩
   ·exact .inr (by show w.heap.size<=g;omega)))
theorem b0r(s x:nb)(t:lm)
 (ho:o.op= .call {callee:= .builtin .append,args:= #[s,x],argTypes:= #[t,t]})
 (base:Nat) (e:lm) (i:nc) (z:lh) (size li:Nat) (ht:P.underlying t=O (.slice e)) (hi:P.info? e=O i) (hz:i.zero=O z)
 (C:i.size=size) (S:i.bytes=li) (aa:z.cells.size=size) (T:0<size)
 (F:Option lg) (n E:Nat) (xs:List lh) (hs:a.eval s= .slice F n E) (D:w.ownsRow base e size (.slice F n E) n xs)
 (oa:Option lg) (m c:Nat) (d:List lh) (hx:a.eval x= .slice oa m c) (hl:d.length=m*size) (B:∀j u,d[j]? =O u->∃ad,oa=O ad/\w.cell? (ad.add j)=O u) (h1:∀u∈d,u.oneCell'=true)
 (M:n+m<=lj) (v:(n+m)*li<=140737488355328) (y:base<=w.heap.size)
 (h:∀a' cap w',w'.ownsRow base e size (.slice a' (n+m) cap) (n+m) (xs++d)->w.grownBy w' (Value.slice F n E).ownBlock->K (a.put o.dst (.slice a' (n+m) cap)) w'):o.wp P a w K Q:=
 a7V s x t ho base e i z size li ht hi hz C S aa T F n E xs hs D oa m c d hx hl B h1 M v y λa1 cap w1 h2 h3 _=>h a1 cap w1 h2 h3
variable {ops:Array Oper}
theorem b5c{E:Prop}(aa:o.guard=N)(s x:nb)(t:lm)
 (ho:o.op= .call {callee:= .builtin .append,args:= #[s,x],argTypes:= #[t,t]})
 (base:Nat) (e:lm) (i:nc) (z:lh) (size li:Nat) (ht:P.underlying t=O (.slice e)) (hi:P.info? e=O i) (hz:i.zero=O z)
 (C:i.size=size) (T:i.bytes=li) (ac:z.cells.size=size) (ab:0<size)
 (M:Option lg) (n F:Nat) (xs:List lh) (hs:a.eval s= .slice M n F) (D:w.ownsRow base e size (.slice M n F) n xs)
 (oa:Option lg) (m c:Nat) (d:List lh) (hx:a.eval x= .slice oa m c) (hl:d.length=m*size) (B:∀j u,d[j]? =O u->∃ad,oa=O ad/\w.cell? (ad.add j)=O u) (h1:∀u∈d,u.oneCell'=true)
 (S:n+m<=lj) (v:(n+m)*li<=140737488355328) (y:base<=w.heap.size)
 (h:∀a' cap w',w'.ownsRow base e size (.slice a' (n+m) cap) (n+m) (xs++d)->w.grownBy w' (Value.slice M n F).ownBlock->K (a.put o.dst (.slice a' (n+m) cap)) w'):
 if Region.wanted o (yielded ops a.tmps)=true then Oper.wp P o a w K Q else E:=by
 have hw:Region.wanted o (yielded ops a.tmps)=true:=by simp[Region.wanted,aa]
 rw[if_pos hw];exact b0r s x t ho base e i z size li ht hi hz C T ac ab M n F xs hs D oa m c d hx hl B h1 S v y h
theorem b4W{y:List Oper}(aa:o.guard=N)(s x:nb)(t:lm)
 (ho:o.op= .call {callee:= .builtin .append,args:= #[s,x],argTypes:= #[t,t]})
 (base:Nat) (e:lm) (i:nc) (z:lh) (size li:Nat) (ht:P.underlying t=O (.slice e)) (hi:P.info? e=O i) (hz:i.zero=O z)
 (D:i.size=size) (T:i.bytes=li) (ac:z.cells.size=size) (ab:0<size)
 (M:Option lg) (n F:Nat) (xs:List lh) (hs:a.eval s= .slice M n F) (E:w.ownsRow base e size (.slice M n F) n xs)
 (oa:Option lg) (m c:Nat) (d:List lh) (hx:a.eval x= .slice oa m c) (hl:d.length=m*size) (C:∀j u,d[j]? =O u->∃ad,oa=O ad/\w.cell? (ad.add j)=O u) (h1:∀u∈d,u.oneCell'=true)
 (S:n+m<=lj) (v:(n+m)*li<=140737488355328) (B:base<=w.heap.size)
 (h:∀a' cap w',w'.ownsRow base e size (.slice a' (n+m) cap) (n+m) (xs++d)->w.grownBy w' (Value.slice M n F).ownBlock->wpList P ops Q y (a.put o.dst (.slice a' (n+m) cap)) w'):
 wpList P ops Q (o::y) a w:=
 wpList_plain aa λ_ hK=>b0r s x t ho base e i z size li ht hi hz D T ac ab M n F xs hs E oa m c d hx hl C h1 S v B λg cap w' h2 h3=>hK _ _ (h g cap w' h2 h3)
end Kx
end
end Go.Proofs.YtdhophglnhcjbaaGreatDoor
