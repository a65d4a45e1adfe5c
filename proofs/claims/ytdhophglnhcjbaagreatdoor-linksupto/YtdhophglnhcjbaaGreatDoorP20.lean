/- P20: a part of the proof that the last text tells. -/
import Derived.Test.YtdhophglnhcjbaaGreatDoorP18
import Derived.Test.YtdhophglnhcjbaaGreatDoorP19
set_option linter.all false
namespace Go.Proofs.YtdhophglnhcjbaaGreatDoor
namespace Cf
variable {c:ByteArray}
variable {m:Me}
theorem b7I(h:0<m.locals):(P8 c m).take 1=[(0,0,C9 c)]:=by
 unfold P8;obtain⟨n,hn⟩:∃n,m.locals=n+1:=⟨m.locals-1,by omega⟩
 rw[hn,List.range_succ_eq_map];simp[a0A]
theorem a8M(c:ByteArray)(m:Me)(k:Nat):(a0A c m).getD (k+1) B6=m.params.getD k B6:=by
 unfold a0A;rw[List.getD_cons_succ,List.getD_eq_getElem?_getD,List.getD_eq_getElem?_getD,List.getElem?_append];split
 ·rfl
 ·rename_i h;rw[List.getElem?_eq_none (by omega:m.params.length≤k),List.getElem?_replicate];split<;>rfl
variable {a j k low:Nat}
theorem b6h(h:k+1<m.locals):(P8 c m).take (k+2)=(P8 c m).take (k+1)++ [(0,k+1,m.params.getD k B6)]:=by
 have hl:k+1<(P8 c m).length:=by unfold P8;simpa using h
 rw[List.take_succ_eq_append_getElem hl];have e:(P8 c m)[k+1]'hl=(0,k+1,(a0A c m).getD (k+1) B6):=by simp[P8]
 rw[e,a8M]
theorem b7J(c:ByteArray)(m:Me):(P8 c m).take m.locals=P8 c m:=List.take_of_length_le (by unfold P8;simp)
theorem b6j(h:0<m.locals):(0,0,C9 c)∈P8 c m:=List.mem_map.2 ⟨0,List.mem_range.2 h,rfl⟩
theorem b6i(h:k+1<m.locals):(0,k+1,m.params.getD k B6)∈P8 c m:=List.mem_map.2 ⟨k+1,List.mem_range.2 h,by rw[a8M]⟩
def fxH(m:Me)(a k:Nat):List (Nat×Nat×Ty):=((m.handlers.take k).filter fun d=>O8 d a).map fun d=>(d.at_,m.locals,C9 d.cls)
def a6g(l:List Cl)(m:Me)(a low k:Nat):List (Nat×Nat×Ty):=if((C4 l (A8 m a)).getD k B6).kind=0 then []else(G6 (A8 m a) a).map fun x=>(x,low+k,(C4 l (A8 m a)).getD k B6)
def Z0(l:List Cl)(m:Me)(a low k:Nat):List (Nat×Nat×Ty):=fxH m a m.handlers.length++(List.range k).flatMap (a6g l m a low)
def m8(l:List Cl)(m:Me)(a low k j:Nat):List (Nat×Nat×Ty):=Z0 l m a low k++((G6 (A8 m a) a).take j).map fun x=>(x,low+k,(C4 l (A8 m a)).getD k B6)
theorem b6a(l:List Cl)(m:Me)(a low:Nat):N9 l m a low=Z0 l m a low (C4 l (A8 m a)).length:=by
 unfold N9 Z0 fxH;rw[List.take_length];rfl
theorem b8u(hk:k<m.handlers.length)(hc:O8 m.handlers[k] a=true):fxH m a (k+1)=fxH m a k++ [(m.handlers[k].at_,m.locals,C9 m.handlers[k].cls)]:=by
 unfold fxH;rw[List.take_succ_eq_append_getElem hk,List.filter_append,List.map_append];simp[hc]
theorem b9w(hk:k<m.handlers.length)(hc:O8 m.handlers[k] a=false):fxH m a (k+1)=fxH m a k:=by
 unfold fxH;rw[List.take_succ_eq_append_getElem hk,List.filter_append,List.map_append];simp[hc]
theorem b7A(l:List Cl)(m:Me)(a low:Nat):Z0 l m a low 0=fxH m a m.handlers.length:=by unfold Z0;simp
theorem b0y(l:List Cl)(m:Me)(a low k:Nat):Z0 l m a low (k+1)=Z0 l m a low k++a6g l m a low k:=by
 unfold Z0;rw[List.range_succ,List.flatMap_append,List.append_assoc];simp
variable {l:List Cl}
theorem b7B(h:((C4 l (A8 m a)).getD k B6).kind=0):Z0 l m a low (k+1)=Z0 l m a low k:=by
 rw[b0y];unfold a6g;rw[if_pos h,List.append_nil]
theorem b7C(l:List Cl)(m:Me)(a low k:Nat):m8 l m a low k 0=Z0 l m a low k:=by unfold m8;simp
theorem b7D(hj:j<(G6 (A8 m a) a).length):m8 l m a low k (j+1)=m8 l m a low k j++ [((G6 (A8 m a) a).getD j 0,low+k,(C4 l (A8 m a)).getD k B6)]:=by
 unfold m8;rw[List.take_succ_eq_append_getElem hj,List.map_append,List.append_assoc];simp[hj]
theorem b8t(h:¬((C4 l (A8 m a)).getD k B6).kind=0):m8 l m a low k (G6 (A8 m a) a).length=Z0 l m a low (k+1):=by
 rw[b0y];unfold m8 a6g;rw[if_neg h,List.take_length]
theorem b1s(k:Nat):∀x∈fxH m a k,x∈N9 l m a low:=fun x hx=>by
 unfold fxH at hx;obtain⟨d,hd,rfl⟩:=List.mem_map.1 hx;obtain⟨h1,h2⟩:=List.mem_filter.1 hd;unfold N9;exact List.mem_append_left _ (List.mem_map.2 ⟨d,List.mem_filter.2 ⟨List.mem_of_mem_take h1,h2⟩,rfl⟩)
theorem b9t{d:Hd}(hd:d∈m.handlers)(hc:O8 d a=true):(d.at_,m.locals,C9 d.cls)∈N9 l m a low:=by
 unfold N9;exact List.mem_append_left _ (List.mem_map.2 ⟨d,List.mem_filter.2 ⟨hd,hc⟩,rfl⟩)
theorem b9u(hk:k≤(C4 l (A8 m a)).length):∀x∈Z0 l m a low k,x∈N9 l m a low:=fun x hx=>by
 unfold Z0 at hx;rcases List.mem_append.1 hx with hx|hx
 ·exact b1s _ x hx
 ·obtain⟨j,hj,hx⟩:=List.mem_flatMap.1 hx;unfold N9;exact List.mem_append_right _ (List.mem_flatMap.2 ⟨j,List.mem_range.2 (by have:=List.mem_range.1 hj;omega),hx⟩)
theorem b9s(hk:k<(C4 l (A8 m a)).length)(h:¬((C4 l (A8 m a)).getD k B6).kind=0)(hj:j<(G6 (A8 m a) a).length):((G6 (A8 m a) a).getD j 0,low+k,(C4 l (A8 m a)).getD k B6)∈N9 l m a low:=by
 unfold N9;refine List.mem_append_right _ (List.mem_flatMap.2 ⟨k,List.mem_range.2 hk,?_⟩);rw[if_neg h];refine List.mem_map.2 ⟨(G6 (A8 m a) a).getD j 0,?_,rfl⟩;rw[List.getD_eq_getElem?_getD,List.getElem?_eq_getElem hj];exact List.getElem_mem hj
theorem b9v(hk:k<(C4 l (A8 m a)).length)(h:¬((C4 l (A8 m a)).getD k B6).kind=0):∀x∈m8 l m a low k j,x∈N9 l m a low:=fun x hx=>by
 unfold m8 at hx;rcases List.mem_append.1 hx with hx|hx
 ·exact b9u (Nat.le_of_lt hk) x hx
 ·obtain⟨y,hy,rfl⟩:=List.mem_map.1 hx;unfold N9;refine List.mem_append_right _ (List.mem_flatMap.2 ⟨k,List.mem_range.2 hk,?_⟩);rw[if_neg h];exact List.mem_map.2 ⟨y,List.mem_of_mem_take hy,rfl⟩
end Cf
open Go.RowKit Go.Shelf Cf
namespace Kx
set_option maxRecDepth 100000 in
set_option maxHeartbeats 40000000 in
theorem b6g(L:List Cl)(c:ByteArray)(m:Me)(ht:Nat→Option Nat)(hP:Hid (PE L c m ht))(w0:World)(lim b:Nat)(p:Addr)(cap m1 m2 m3:Nat)(q:Nat→Qs)(h:Hid (Lk w0 lim b L p cap m1 m2 m3 q))(hl:lim≤w0.heap.size)(pa ca ha:Option Addr)(pk ck hk bw eg hg:Nat)(hE:Hid (TyE w0 lim L m pa pk ca ck ha hk bw eg hg ht))(t tg:Nat)(g:Nat→Nat)(w:World)(s0:Ps)(hT:Hid (F2 w0 w w [] t bw b tg g m.code.length L s0 []))(hs0:Hid (N2 L c m s0))(hmu:T4 L s0≤8000000000000):
 Calls Tryz.prog 192 #[.pointer (some ⟨t,0,none⟩), .string c] w fun e w'=>e= .returned (.tuple #[])∧F2 w0 w w' [] t bw b tg g m.code.length L s0 (P8 c m):=by
 have hcm:=hP.out.wld.ent_comes hP.out.cok hP.out.has hP.out.pars;have HRS:=A0 (F2.raise hP.out w0 lim b p cap m1 m2 m3 q h.out hl t bw tg g s0 hs0.out hmu (P8 c m) hcm);have hl1:0<m.locals:=by have:=hP.out.cok.locals;omega
 have hlo:=hP.out.lo;have hpl:m.params.length<m.locals:=by have:=hP.out.cok.locals;omega
 have HI0:Hid ((0,0,C9 c)∈P8 c m):=b6j hl1;have HL1:=A0 hl1;clear hcm hl1;go_enter Tryz.func192,Tryz.ntmps192;go_wp2_with (first|(go_at_call 267;go_loud (refine(U8 _ _).mono ?_;rintro e w1 ⟨rfl,hg1⟩))|(go_at_call 266;go_loud (refine(HRS.out w w1 [] [] (hT.out.keep hg1) (fun y hy=>by cases hy) (0,0,C9 c) HI0.out).mono ?_;rintro e w2 ⟨rfl,hR2⟩)))
 go_loopw [4] (fun v W=>∃k:Nat,v= .int .i64 ((k:Int)+1)∧k+1≤m.locals∧F2 w0 w W [] t bw b tg g m.code.length L s0 ((P8 c m).take (k+1))) (fun v _=>m.locals-(intOf v).toNat)
 case atStart=>exact⟨0,rfl,by have:=HL1.out;omega,by rw[b7I HL1.out];exact hR2⟩
 case round=>
  obtain⟨k,rfl,hk,hR⟩:=hrel;have HR:=A0 hR;clear hR;have zt:=HR.out.t0;have z5:=(hE.out.keep HR.out.gb).meth 5 _ rfl;have z1:=(hE.out.keep HR.out.gb).meth 1 _ rfl;have lt:t<wr.heap.size:=block_lt_of_cell zt;have lbw:bw<wr.heap.size:=block_lt_of_cell z5;by_cases hlt:k+1<m.locals
  ·have hltI:(k:Int)+1<(m.locals:Int):=by omega
   obtain⟨T,hTy⟩:∃T,T=m.params.getD k B6:=⟨_,rfl⟩
   have HIN:Hid ((0,k+1,T)∈P8 c m):=by rw[hTy];exact b6i hlt
   have HSU:Hid ((P8 c m).take (k+2)=(P8 c m).take (k+1)++ [(0,k+1,T)]):=by rw[hTy];exact b6h hlt
   have HPRE:Hid (∀y∈(P8 c m).take (k+1),y∈P8 c m):=fun y hy=>List.mem_of_mem_take hy
   by_cases hkp:k<m.params.length
   ·have hkpI:(k:Int)+1≤(m.params.length:Int):=by omega
    have hkpJ:(k:Int)<(m.params.length:Int):=by omega
    obtain⟨pd,hpd,-,hcd⟩:=(hE.out.keep HR.out.gb).par k hkp;have hTe:m.params[k]=T:=by rw[hTy];simp[hkp]
    rw[hTe]at hcd;have HPD:=A0 hpd;rw[hpd]at z1;have y0:wr.cell? (pd.add (k*2))=some (.int .i64 T.kind):=hcd 0 _ rfl;have y1:wr.cell? ⟨(pd.add (k*2)).block,(pd.add (k*2)).off+1,none⟩=some (.string T.name):=by rw[B9 pd (k*2) 0];exact hcd 1 _ rfl
    have lpd:=block_lt_of_cell y0;clear hcd hTe hTy hpd;go_wp2_with (go_at_call 266;go_loud (refine(HRS.out w _ [] _ (HR.out.keep (A2 _ _ none)) HPRE.out (0,k+1,T) HIN.out).mono ?_;rintro e w2 ⟨rfl,hR2⟩))
    go_roundw
    case rel=>exact⟨k+1,by first|rfl|go_num,by omega,by rw[HSU.out];exact hR2⟩
    case measure=>first|omega|(go_num;omega)|(simp[intOf];omega)
   ·have hkpI:¬(k:Int)+1≤(m.params.length:Int):=by omega
    have hTn:T=B6:=by rw[hTy];simp[Nat.le_of_not_lt hkp]
    subst hTn;clear hTy;go_wp2_with (go_at_call 266;go_loud (refine(HRS.out w _ [] _ (HR.out.keep (A2 _ _ none)) HPRE.out (0,k+1,B6) HIN.out).mono ?_;rintro e w2 ⟨rfl,hR2⟩))
    go_roundw
    case rel=>exact⟨k+1,by first|rfl|go_num,by omega,by rw[HSU.out];exact hR2⟩
    case measure=>first|omega|(go_num;omega)|(simp[intOf];omega)
  ·have hkn:k+1=m.locals:=by omega
   have HFN:Hid (F2 w0 w wr [] t bw b tg g m.code.length L s0 (P8 c m)):=by have:=HR.out;rw[hkn,b7J]at this;exact this
   have hltI:¬(k:Int)+1<(m.locals:Int):=by omega
   clear hkn;go_wp2_with fail
   go_end0;exact⟨rfl,HFN.out⟩
variable {V W W' w w0:World}
variable {Bs:List Nat}
variable {a b base bw j k n t tg:Nat}
variable {g:Nat→Nat}
variable {L:List Cl}
variable {s s1:Ps}
variable {pre:List (Nat×Nat×Ty)}
theorem F2.free{V':World}(h:F2 w0 V W Bs t bw b tg g n L s1 pre):F2 w0 V' W [] t bw b tg g n L s1 pre:=by
 obtain⟨ra,rk,hM,hG,-⟩:=h;exact⟨ra,rk,hM,hG,fun k hk=>by cases hk⟩
set_option maxRecDepth 100000 in
set_option maxHeartbeats 40000000 in
theorem b2F(L:List Cl)(c:ByteArray)(m:Me)(ht:Nat→Option Nat)(hP:Hid (PE L c m ht))(w0:World)(lim b:Nat)(p:Addr)(cap m1 m2 m3:Nat)(q:Nat→Qs)(h:Hid (Lk w0 lim b L p cap m1 m2 m3 q))(hl:lim≤w0.heap.size)(pa ca ha:Option Addr)(pk ck hk bw eg hg:Nat)(hE:Hid (TyE w0 lim L m pa pk ca ck ha hk bw eg hg ht))(t tg:Nat)(g:Nat→Nat)(w:World)(s0:Ps)(hT:Hid (F2 w0 w w [] t bw b tg g m.code.length L s0 []))(hs0:Hid (N2 L c m s0))(hmu:T4 L s0≤8000000000000)(a k:Nat)(hak:Hid (a<m.code.length∧ht a=some k)):
 Calls Tryz.prog 194 #[.pointer (some ⟨t,0,none⟩), .int .i64 a] w fun e w'=>e= .returned (.tuple #[])∧F2 w0 w w' [] t bw b tg g m.code.length L s0 (N9 L m a (E4 L m a k)):=by
 have hkr:=(hP.out.hts a k hak.out.1).1 hak.out.2;have hroom:=hP.out.room hkr;obtain⟨lw,hlw⟩:∃lw,lw=E4 L m a k:=⟨_,rfl⟩
 have hcm:=hP.out.wld.fixed_comes (c:=c) hP.out.tyw hP.out.cok hP.out.ok hP.out.hok hkr;rw[←hlw]at hcm⊢;have HRS:=A0 (F2.raise hP.out w0 lim b p cap m1 m2 m3 q h.out hl t bw tg g s0 hs0.out hmu (N9 L m a lw) hcm)
 have HLW:Hid (∀(W:World) (pre:List (Nat×Nat×Ty)) {V:World} {Bs:List Nat},F2 w0 V W Bs t bw b tg g m.code.length L s0 pre→Calls Tryz.prog 269 #[.pointer (some ⟨t,0,none⟩), .int .i64 a] W fun e w'=>e= .returned (.int .i64 (lw:Nat))∧W.grownBy w' none):=fun W pre V Bs hR=>by
  rw[hlw];exact a9d W lim L c m pa pk ca ck ha hk bw eg hg ht hP (hE.out.keep hR.gb) t hR.t0 a k hak.out.1 hak.out.2
 have hlwb:lw≤510:=by rw[hlw];unfold E4;have:=hP.out.lo;have:=hP.out.st;omega
 have hpnb:(C4 L (A8 m a)).length≤255:=by
  have h1:=hP.out.hok.room a k hkr;unfold Y5 at h1;simp only[Bool.and_eq_true,decide_eq_true_eq]at h1;have:=hP.out.st;have h3:(C4 L (A8 m a)).length=P1 L (A8 m a):=rfl;omega
 obtain⟨ta,tk,ua,uk,-,e2,e3⟩:=hE.out.eff a hak.out.1;have HEF:Hid (w0.cell? ⟨eg,a*3+1,none⟩=some (.slice ua (C4 L (A8 m a)).length uk)∧C0 w0 w0.heap.size 2 C1 ua (C4 L (A8 m a))):=⟨e2,e3⟩
 obtain⟨pn,hpn⟩:∃pn,pn=(C4 L (A8 m a)).length:=⟨_,rfl⟩
 have HPN:=A0 hpn;rw[←hpn]at hpnb;have hnh:=hP.out.nh;have hnc:=hP.out.nc;have haI:(a:Int)<(m.code.length:Int):=by have:=hak.out.1;omega
 have c0:=hT.out.t0;have c7:=(hE.out.keep hT.out.gb).meth 7 _ rfl;clear hkr hroom hlw hcm e2 e3 hpn;go_enter Tryz.func194,Tryz.ntmps194;go_wp2_with fail
 go_loopw [19] (fun v W=>∃jj:Nat,v= .int .i64 jj∧jj≤m.handlers.length∧F2 w0 w W [] t bw b tg g m.code.length L s0 (fxH m a jj)) (fun v _=>m.handlers.length-(intOf v).toNat)
 case atStart=>exact⟨0,rfl,Nat.zero_le _,hT.out⟩
 case round=>
  obtain⟨jj,rfl,hjj,hR⟩:=hrel;have HR:=A0 hR;clear hR c0 c7;by_cases hlt:jj<m.handlers.length
  ·obtain⟨pd,hpd,-,hcd⟩:=(hE.out.keep HR.out.gb).hand jj hlt;obtain⟨d,hd⟩:∃d,d=m.handlers[jj]:=⟨_,rfl⟩
   rw[←hd]at hcd;have HD:Hid (d=m.handlers[jj]∧d∈m.handlers):=⟨hd,by rw[hd];exact List.getElem_mem hlt⟩
   subst hpd;have y0:wr.cell? (pd.add (jj*4))=some (.int .i64 d.from_):=hcd 0 _ rfl;have y1:wr.cell? ⟨(pd.add (jj*4)).block,(pd.add (jj*4)).off+1,none⟩=some (.int .i64 d.to):=by rw[B9 pd (jj*4) 0];exact hcd 1 _ rfl
   have y2:wr.cell? ⟨(pd.add (jj*4)).block,(pd.add (jj*4)).off+2,none⟩=some (.int .i64 d.at_):=by rw[B9 pd (jj*4) 1];exact hcd 2 _ rfl
   have y3:wr.cell? ⟨(pd.add (jj*4)).block,(pd.add (jj*4)).off+3,none⟩=some (.string d.cls):=by rw[B9 pd (jj*4) 2];exact hcd 3 _ rfl
   have hjI:(jj:Int)<(m.handlers.length:Int):=by omega
   have HCV:=A0 (fun W=>a6L W d a);clear hcd hd;by_cases hcv:O8 d a=true
   ·have HIN:Hid ((d.at_,m.locals,C9 d.cls)∈N9 L m a lw):=b9t HD.out.2 hcv
    have HNX:Hid (fxH m a (jj+1)=fxH m a jj++ [(d.at_,m.locals,C9 d.cls)]):=by
     have:=b8u (m:=m) (a:=a) hlt (by rw[←HD.out.1];exact hcv);rw[←HD.out.1]at this;exact this
    rw[hcv]at HCV;clear hcv;go_upto_region 4 with(go_at_call 239;go_loud (refine(HCV.out _).mono ?_;rintro e w3 ⟨rfl,hg3⟩))
    have hb5:=(A3.new wr #[.int .i64 d.from_, .int .i64 d.to, .int .i64 d.at_, .string d.cls] 202).keep hg3 A7;have HR3:=A0 (HR.out.more (A1 (A2 wr (.cells #[.int .i64 d.from_, .int .i64 d.to, .int .i64 d.at_, .string d.cls] 202) none) hg3) (Nat.le_refl _) hb5.lt);generalize wr.heap.size=B5 at hb5 HR3⊢;clear hg3 y0 y1 y2 y3;have b52:=hb5.c2;have b53:=hb5.c3;have z5:=(hE.out.keep HR3.out.gb).meth 5 _ rfl;clear hb5;refine wp_region_held_drew (S:=(fun w'=>w'.cell? ⟨B5,2,none⟩=some (.int .i64 d.at_)∧w'.cell? ⟨B5,3,none⟩=some (.string d.cls)∧w'.cell? ⟨t,0,none⟩=some (.pointer (some ⟨bw,0,none⟩))∧w'.cell? ⟨bw,5,none⟩=some (.int .i64 m.locals))) (by kernel_rfl) (⟨b52,b53,HR3.out.t0,z5⟩) (fun hHeld=> ?_);refine A4 0 ?_;refine A4 1 ?_;refine wpAnyH_take (i:=2) (v:= ?v4) rfl (by kernel_rfl) (by kernel_rfl) (by kernel_rfl) (fun _ _ _ h=>h) (Or.inl ⟨by rfl,?h4⟩) (by assumption) ?r4
    case h4=>
     intro w5 hSw;try dsimp only at hSw
     obtain⟨q0,q1,q2,q3⟩:=hSw;go_simp
     try with_reducible rfl
    try simp only[Act.put,lz]
    refine A4 3 ?_;refine A4 4 ?_;refine A4 5 ?_;refine wpAnyH_take (i:=6) (v:= ?v8) rfl (by kernel_rfl) (by kernel_rfl) (by kernel_rfl) (fun _ _ _ h=>h) (Or.inl ⟨by rfl,?h8⟩) (by assumption) ?r8
    case h8=>
     intro w5 hSw;try dsimp only at hSw
     obtain⟨q0,q1,q2,q3⟩:=hSw;go_simp
     try with_reducible rfl
    try simp only[Act.put,lz]
    refine A4 7 ?_;refine A4 8 ?_;refine A4 9 ?_;refine wpAnyH_take (i:=10) (v:= ?v12) rfl (by kernel_rfl) (by kernel_rfl) (by kernel_rfl) (fun _ _ _ h=>h) (Or.inl ⟨by rfl,?h12⟩) (by assumption) ?r12
    case h12=>
     intro w5 hSw;try dsimp only at hSw
     obtain⟨q0,q1,q2,q3⟩:=hSw;go_simp
     try with_reducible rfl
    try simp only[Act.put,lz]
    refine A4 11 ?_;refine wpAnyH_take (i:=12) (v:= ?v14) rfl (by kernel_rfl) (by kernel_rfl) (by kernel_rfl) (fun _ _ _ h=>h) (Or.inl ⟨by rfl,?h14⟩) (by assumption) ?r14
    case h14=>
     intro w5 hSw;try dsimp only at hSw
     obtain⟨q0,q1,q2,q3⟩:=hSw;go_simp
     try with_reducible rfl
    try simp only[Act.put,lz]
    refine wpAnyH_ready (rs:=[13]) (by kernel_rfl) (by simp) ?_;refine AllReadyH.cons rfl (fun K hK=> ?_) AllReadyH.nil;go_simp
    go_wp2_with (go_at_call 267;go_loud (refine(U8 _ _).mono ?_;rintro e w5 ⟨rfl,hg5⟩))
    refine hK.out _ _ ?_ (fun hHeld=> ?_)
    case refine_1=>exact⟨hg5.cell b52 A7,hg5.cell b53 A7,hg5.cell HR3.out.t0 A7,hg5.cell z5 A7⟩
    try clear hK K
    try simp only[Act.put,lz]
    refine wpAnyH_ready (rs:=[14]) (by kernel_rfl) (by simp) ?_;refine AllReadyH.cons rfl (fun K hK=> ?_) AllReadyH.nil;go_simp
    go_wp2_with (go_at_call 266;go_loud (refine(HRS.out w3 w5 [B5] _ ((HR3.out.keep (B8 _ none)).keep hg5) (b1s jj) (d.at_,m.locals,C9 d.cls) HIN.out).mono ?_;rintro e w6 ⟨rfl,hR6⟩))
    refine hK.out _ _ ?_ (fun hHeld=> ?_)
    case refine_1=>exact⟨hR6.cell (by simp) b52,hR6.cell (by simp) b53,hR6.t0,(hE.out.keep hR6.gb).meth 5 _ rfl⟩
    try clear hK K
    try simp only[Act.put,lz]
    refine wpAnyH_done (by kernel_rfl) ?_ _;go_wp2_with fail
    go_roundw
    case rel=>exact⟨jj+1,by first|rfl|go_num,by omega,by rw[HNX.out];exact hR6.free⟩
    case measure=>first|omega|(go_num;omega)|(simp[intOf];omega)
   ·have hcv':O8 d a=false:=by simpa using hcv
    have HNX:=A0 (b9w (m:=m) (a:=a) hlt (by rw[←HD.out.1];exact hcv'));rw[hcv']at HCV;clear hcv hcv';go_wp2_with (go_at_call 239;go_loud (refine(HCV.out _).mono ?_;rintro e w3 ⟨rfl,hg3⟩;have HGW3:=A1 (A2 wr (.cells #[.int .i64 d.from_, .int .i64 d.to, .int .i64 d.at_, .string d.cls] 202) none) hg3))
    go_roundw
    case rel=>exact⟨jj+1,by first|rfl|go_num,by omega,by rw[HNX.out];exact HR.out.keep HGW3⟩
    case measure=>first|omega|(go_num;omega)|(simp[intOf];omega)
  ·have hjn:jj=m.handlers.length:=by omega
   have HR2:Hid (F2 w0 w wr [] t bw b tg g m.code.length L s0 (Z0 L m a lw 0)):=by rw[b7A,←hjn];exact HR.out
   clear HR;subst hjn;have zt:=HR2.out.t0;have z8:=(hE.out.keep HR2.out.gb).c8;have ze:wr.cell? ⟨eg,a*3+1,none⟩=some (.slice ua pn uk):=by rw[HPN.out];exact HR2.out.gb.cell HEF.out.1 A7
   go_wp2_with fail
   generalize wr=wq at HR2⊢;clear zt z8 ze;go_loopw [54] (fun v W=>∃kk:Nat,v= .int .i64 kk∧kk≤pn∧F2 w0 w W [] t bw b tg g m.code.length L s0 (Z0 L m a lw kk)) (fun v _=>pn-(intOf v).toNat)
   case atStart=>exact⟨0,rfl,Nat.zero_le _,HR2.out⟩
   case round=>
    obtain⟨kk,rfl,hkk,hR⟩:=hrel;have HR:=A0 hR;clear hR;by_cases hlt:kk<pn
    ·have hltp:kk<(C4 L (A8 m a)).length:=by rw[←HPN.out];exact hlt
     obtain⟨pd,hpd,hpl,hcd⟩:=(HEF.out.2.keep HR.out.gb) kk hltp;obtain⟨T,hTd⟩:∃T,T=(C4 L (A8 m a)).getD kk B6:=⟨_,rfl⟩
     have hTe:(C4 L (A8 m a))[kk]=T:=by rw[hTd];simp[hltp]
     rw[hTe]at hcd;have HTD:Hid (T=(C4 L (A8 m a)).getD kk B6∧kk<(C4 L (A8 m a)).length):=⟨hTd,hltp⟩
     subst hpd;have y0:wr.cell? (pd.add (kk*2))=some (.int .i64 T.kind):=hcd 0 _ rfl;have y1:wr.cell? ⟨(pd.add (kk*2)).block,(pd.add (kk*2)).off+1,none⟩=some (.string T.name):=by rw[B9 pd (kk*2) 0];exact hcd 1 _ rfl
     have hkI:(kk:Int)<(pn:Int):=by omega
     clear hTe hTd hltp hcd hpl;by_cases hT0:T.kind=0
     ·have hT0b:((T.kind:Int)==0)=true:=by rw[beq_iff_eq];omega
      have HSK:Hid (Z0 L m a lw (kk+1)=Z0 L m a lw kk):=b7B (by rw[←HTD.out.1];exact hT0);clear hT0;go_wp2_with fail
      go_roundw
      case rel=>exact⟨kk+1,by first|rfl|go_num,by omega,by rw[HSK.out];exact HR.out.keep (A2 _ _ none)⟩
      case measure=>first|omega|(go_num;omega)|(simp[intOf];omega)
     ·have hT0b:((T.kind:Int)==0)=false:=by rw[beq_eq_false_iff_ne];omega
      have HTK:Hid (¬((C4 L (A8 m a)).getD kk B6).kind=0):=by rw[←HTD.out.1];exact hT0
      clear hT0;obtain⟨pc,hpc,-,hci⟩:=(hE.out.keep HR.out.gb).code a hak.out.1;obtain⟨i,hi⟩:∃i,i=A8 m a:=⟨_,rfl⟩
      have hcm:m.code[a]'hak.out.1=i:=by rw[hi];unfold A8;simp[hak.out.1]
      rw[hcm]at hci;have HIE:=A0 hi;have zt:=HR.out.t0;have c6:wr.cell? ⟨bw,6,none⟩=some (.slice (some pc) m.code.length ck):=by rw[←hpc];exact(hE.out.keep HR.out.gb).meth 6 _ rfl
      have x0:wr.cell? (pc.add (a*4))=some (.int .i64 i.op):=hci 0 _ rfl;have x1:wr.cell? ⟨(pc.add (a*4)).block,(pc.add (a*4)).off+1,none⟩=some (.int .i64 i.a):=by rw[B9 pc (a*4) 0];exact hci 1 _ rfl
      have x2:wr.cell? ⟨(pc.add (a*4)).block,(pc.add (a*4)).off+2,none⟩=some (.string i.cls):=by rw[B9 pc (a*4) 1];exact hci 2 _ rfl
      have x3:wr.cell? ⟨(pc.add (a*4)).block,(pc.add (a*4)).off+3,none⟩=some (.string i.mem):=by rw[B9 pc (a*4) 2];exact hci 3 _ rfl
      have ltt:t<wr.heap.size:=block_lt_of_cell zt;have lbw:bw<wr.heap.size:=block_lt_of_cell c6;have lpc:=block_lt_of_cell x0;have hio:T5 i:=by rw[hi];exact hP.out.ok _ (a4A hak.out.1)
      have hioa:12≤i.op→i.op≤15→0≤i.a:=fun h1 _=>hio.2 (by omega)
      obtain⟨gl,hgl⟩:∃gl,gl=G6 i a:=⟨_,rfl⟩
      have HNXT:Hid (∀W,Calls Tryz.prog 268 #[.agg #[.int .i64 i.op, .int .i64 i.a, .string i.cls, .string i.mem], .int .i64 a] W fun e w'=>W.grownBy w' none∧∃v,e= .returned v∧w'.ownsRow W.heap.size 3 1 v gl.length (gl.flatMap Z8)):=fun W=>by
       rw[hgl];exact a7g W i a (by have:=hak.out.1;omega) hioa
      have HGL:Hid (gl=G6 (A8 m a) a):=by rw[←HIE.out];exact hgl
      obtain⟨nl,hnl⟩:∃nl,nl=gl.length:=⟨_,rfl⟩
      have HNL:=A0 hnl;have hnl2:nl≤2:=by rw[hnl,hgl];exact a7l _ _
      rw[←hnl]at HNXT;clear hio hioa hgl hnl hci hcm hi hpc;go_wp2_with (go_at_call 268;go_loud (refine(HNXT.out _).mono ?_;rintro e w6 ⟨hg6,v6,rfl,ho6⟩;obtain⟨a6,k6,rfl⟩:=F1 ho6))
      have hb7:A3 (wr.alloc (.cells #[.int .i64 T.kind, .string T.name] 98)) wr.heap.size #[.int .i64 T.kind, .string T.name] 98:=A3.new wr _ _;have hR6a:=HR.out.more (A2 _ _ none) (Nat.le_refl _) hb7.lt;obtain⟨Bs,hBs⟩:∃Bs,Bs=(Value.slice a6 nl k6).ownBlock.toList++ [wr.heap.size]:=⟨_,rfl⟩
      have HR6:Hid (F2 w0 w6 w6 Bs t bw b tg g m.code.length L s0 (m8 L m a lw kk 0)):=by rw[b7C,hBs];exact hR6a.moreO hg6 ho6
      have HV6:Hid (w6.cell? ⟨wr.heap.size,0,none⟩=some (.int .i64 T.kind)∧w6.cell? ⟨wr.heap.size,1,none⟩=some (.string T.name)):=⟨hg6.cell (hb7.cell 0 _ rfl) (by simp),hg6.cell (hb7.cell 1 _ rfl) (by simp)⟩
      have HBB:Hid (wr.heap.size∈Bs):=by rw[hBs];exact List.mem_append_right _ (by simp)
      obtain⟨Z6,hZ6⟩:∃Z6,Z6=(wr.alloc (.cells #[.int .i64 T.kind, .string T.name] 98)).heap.size:=⟨_,rfl⟩
      have HO6:Hid (w6.ownsRow Z6 3 1 (.slice a6 nl k6) nl (gl.flatMap Z8)∧∀k,(Value.slice a6 nl k6).ownBlock=some k→k∈Bs):=⟨by rw[hZ6];exact ho6,fun k hk=>by rw[hBs,hk];simp⟩
      clear hZ6 hBs hg6 ho6 hb7 hR6a x0 x1 x2 x3 zt c6 ltt lbw lpc y0 y1;generalize wr.heap.size=B7 at HV6 HBB⊢;go_loopw [76] (fun v W=>∃jj:Nat,v= .int .i64 jj∧jj≤nl∧F2 w0 w6 W Bs t bw b tg g m.code.length L s0 (m8 L m a lw kk jj)) (fun v _=>nl-(intOf v).toNat)
      case atStart=>exact⟨0,rfl,Nat.zero_le _,HR6.out⟩
      case round=>
       clear HR;obtain⟨jj,rfl,hjj,hR⟩:=hrel;have HR:=A0 hR;clear hR;by_cases hlt3:jj<nl
       ·have hjl:jj<gl.length:=by rw[←HNL.out];exact hlt3
        have hown:=HR.out.row HO6.out.1 HO6.out.2;obtain⟨g5,c5,hg5e,-,hg5l⟩:=hown.form (by omega);injection hg5e with hg5e hg5n hg5k
        clear hg5n;subst hg5k;obtain⟨x,hx⟩:∃x,x=gl.getD jj 0:=⟨_,rfl⟩
        have hgj:wr.cell? ⟨g5,jj,none⟩=some (.int .i64 x):=by
         have:=hown.cells (g:=g5) (by rw[hg5e];rfl) jj (.int .i64 x) (by
          have h5:=a0z Z8 1 (fun _=>rfl) gl jj hjl 0 (by omega);rw[Nat.mul_one,Nat.add_zero]at h5;rw[h5,hx];simp[Z8,hjl])
         rcases Nat.eq_zero_or_pos jj with e2|e2
         ·subst e2;simpa[Addr.add_lit]using this
         ·simpa[Addr.add_lit]using this
        have HX:Hid (x=(G6 (A8 m a) a).getD jj 0):=by unfold Hid;rw[hx,HGL.out]
        have HJN:Hid (jj<(G6 (A8 m a) a).length):=by unfold Hid;rw[←HGL.out];exact hjl
        have HSUC:Hid (m8 L m a lw kk (jj+1)=m8 L m a lw kk jj++ [(x,lw+kk,T)]):=by
         have:=b7D (l:=L) (low:=lw) (k:=kk) HJN.out;rw[←HX.out,←HTD.out.1]at this;exact this
        have HIN:Hid ((x,lw+kk,T)∈N9 L m a lw):=by
         have:=b9s (low:=lw) HTD.out.2 HTK.out HJN.out;rw[←HX.out,←HTD.out.1]at this;exact this
        have HPRE:Hid (∀y∈m8 L m a lw kk jj,y∈N9 L m a lw):=b9v HTD.out.2 HTK.out;have z70:=HR.out.cell HBB.out HV6.out.1;have z71:=HR.out.cell HBB.out HV6.out.2;have hjI:(jj:Int)<(nl:Int):=by omega
        have HRQ:Hid (∀W8,F2 w0 w6 W8 Bs t bw b tg g m.code.length L s0 (m8 L m a lw kk jj)→Calls Tryz.prog 266 #[.pointer (some ⟨t,0,none⟩), .int .i64 x, .int .i64 ((lw:Int)+(kk:Int)), .agg #[.int .i64 T.kind, .string T.name]] W8 fun e w'=>e= .returned (.tuple #[])∧F2 w0 w6 w' Bs t bw b tg g m.code.length L s0 (m8 L m a lw kk jj++ [(x,lw+kk,T)])):=fun W8 hW8=>by
         have h9:=HRS.out w6 W8 Bs _ hW8 HPRE.out (x,lw+kk,T) HIN.out;have e9:=Int.natCast_add lw kk;rw[←e9];exact h9
        have HWR:Hid (IntKind.i64.wrap ((lw:Int)+(kk:Int))=(lw:Int)+(kk:Int)):=IntWalk.i64_in _ (by omega);clear hown hjl hx hg5l;subst hg5e;go_upto_region 13 with fail
        refine wp_region_held_drew (S:=(fun w'=>w'.cell? ⟨B7,0,none⟩=some (.int .i64 T.kind)∧w'.cell? ⟨B7,1,none⟩=some (.string T.name))) (by kernel_rfl) (⟨z70,z71⟩) (fun hHeld=> ?_);refine A4 0 ?_;refine A4 1 ?_;refine A4 2 ?_;refine A4 3 ?_;refine A4 5 ?_;refine wpAnyH_take (i:=7) (v:= .agg #[.int .i64 T.kind, .string T.name]) rfl (by kernel_rfl) (by kernel_rfl) (by kernel_rfl) (fun _ _ _ h=>h) (Or.inl ⟨by rfl,?h21⟩) (by assumption) ?r21
        case h21=>
         intro w5 hSw;try dsimp only at hSw
         obtain⟨q0,q1⟩:=hSw;go_simp
         try with_reducible rfl
        try simp only[Act.put,lz]
        refine wpAnyH_ready (rs:=[4]) (by kernel_rfl) (by simp) ?_;refine AllReadyH.cons rfl (fun K hK=> ?_) AllReadyH.nil;go_simp
        go_wp2_with (go_at_call 269;go_loud (refine(HLW.out _ _ (HR.out.keep (B8 wr none))).mono ?_;rintro e w8 ⟨rfl,hg8⟩))
        refine hK.out _ _ ?_ (fun hHeld=> ?_)
        case refine_1=>exact⟨hg8.cell z70 A7,hg8.cell z71 A7⟩
        try clear hK K
        try simp only[Act.put,lz]
        refine wpAnyH_take (i:=6) (v:= .int .i64 ((lw:Int)+(kk:Int))) rfl (by kernel_rfl) (by kernel_rfl) (by kernel_rfl) (fun _ _ _ h=>h) (Or.inl ⟨by rfl,?h22⟩) (by assumption) ?r22
        case h22=>(intro w hSw;(try dsimp only at hSw);go_simp;(try rw[HWR.out]);try with_reducible rfl)
        try simp only[Act.put,lz]
        refine wpAnyH_ready (rs:=[8]) (by kernel_rfl) (by simp) ?_;refine AllReadyH.cons rfl (fun K hK=> ?_) AllReadyH.nil;go_simp
        go_wp2_with (go_at_call 266;go_loud (refine(HRQ.out w8 ((HR.out.keep (B8 _ none)).keep hg8)).mono ?_;rintro e w9 ⟨rfl,hR9⟩))
        refine hK.out _ _ ?_ (fun hHeld=> ?_)
        case refine_1=>exact⟨hR9.cell HBB.out HV6.out.1,hR9.cell HBB.out HV6.out.2⟩
        try clear hK K
        try simp only[Act.put,lz]
        refine wpAnyH_done (by kernel_rfl) ?_ _;go_wp2_with fail
        go_roundw
        case rel=>exact⟨jj+1,by first|rfl|go_num,by omega,by rw[HSUC.out];exact hR9⟩
        case measure=>first|omega|(go_num;omega)|(simp[intOf];omega)
       ·have hjn:jj=nl:=by omega
        have HFN:Hid (F2 w0 w wr [] t bw b tg g m.code.length L s0 (Z0 L m a lw (kk+1))):=by
         have:=HR.out;rw[hjn,HNL.out,HGL.out,b8t HTK.out]at this;exact this.free
        clear HR;subst hjn;go_wp2_with fail
        go_roundw
        case rel=>exact⟨kk+1,by first|rfl|go_num,by omega,HFN.out⟩
        case measure=>first|omega|(go_num;omega)|(simp[intOf];omega)
    ·have hkn:kk=pn:=by omega
     have HFN:Hid (F2 w0 w wr [] t bw b tg g m.code.length L s0 (N9 L m a lw)):=by rw[b6a,←HPN.out,←hkn];exact HR.out
     clear HR;subst hkn;go_wp2_with fail
     go_end0;exact⟨rfl,HFN.out⟩
set_option maxRecDepth 100000 in
set_option maxHeartbeats 4000000 in
theorem a8q(w:World)(t bw hg n a:Nat)(x:Int)(c0:w.cell? ⟨t,0,none⟩=some (.pointer (some ⟨bw,0,none⟩)))(c9:w.cell? ⟨bw,9,none⟩=some (.slice (some ⟨hg,0,none⟩) n n))
 (cx:w.cell? ⟨hg,a,none⟩=some (.int .i64 x)) (ha:a<n):
 Calls Tryz.prog 193 #[.pointer (some ⟨t,0,none⟩), .int .i64 a] w fun e w'=>e= .returned (.bool (decide (x≠-1)))∧w'=w:=by
 have haI:(a:Int)<(n:Int):=by omega
 by_cases hx1:x= -1
 ·subst hx1;go_enter Tryz.func193,Tryz.ntmps193;go_wp2_with fail
  go_ret;exact⟨rfl,rfl⟩
 ·have hx2:=beq_eq_false_iff_ne.2 hx1;have hx3:decide (x≠-1)=true:=decide_eq_true hx1;rw[hx3];have hx4:(x != -1)=true:=by rw[bne,hx2];rfl
  go_enter Tryz.func193,Tryz.ntmps193;go_wp2_with fail
  go_ret;exact⟨by rw[←hx4];rfl,rfl⟩
def Y9(ht:Nat→Option Nat)(j a:Nat):Option Nat:=if a<j then ht a else none
theorem b7t(ht:Nat→Option Nat):Y9 ht 0=fun _=>none:=by
 funext a;unfold Y9;rw[if_neg (by omega)]
variable {ht:Nat→Option Nat}
theorem b7u(h:ht j=none):Y9 ht (j+1)=Y9 ht j:=by
 funext a
 unfold Y9;by_cases e:a=j
 ·subst e;rw[h];simp
 ·by_cases e2:a<j
  ·rw[if_pos (by omega),if_pos e2]
  ·rw[if_neg (by omega),if_neg e2]
variable {m:Me}
theorem b8f:K7 m (Y9 ht m.code.length)=K7 m ht:=by
 unfold K7;congr 1
 apply List.map_congr_left;intro a ha;have:=List.mem_range.1 ha;unfold Y9;rw[if_pos this]
theorem a7y(m:Me)(ht:Nat→Option Nat)(ha:a<m.code.length)(j:Nat):(K7 m (Y9 ht j)).ts.getD a []=if a<j then(match ht a with|none=> []|some h=>List.replicate (m.locals+h) none)else []:=by
 rw[a3a m _ ha];unfold Y9;by_cases e:a<j
 ·rw[if_pos e,if_pos e];cases ht a<;>rfl
 ·rw[if_neg e,if_neg e]
theorem b7b(m:Me)(g:Nat→Nat):(List.range m.code.length).map (a0o g (K7 m (fun _=>none)).ts)=List.replicate m.code.length (.slice none 0 0):=by
 apply List.ext_getElem
 ·simp
 ·intro a h1 h2;have ha:a<m.code.length:=by simpa using h1
  simp only[List.getElem_map,List.getElem_range,List.getElem_replicate];unfold a0o;rw[a3a m _ ha];simp
theorem b7i(n:Nat):(madeCells (Value.slice none 0 0).cells (n*1)).toList=List.replicate n (Value.slice none 0 0):=by
 apply List.ext_getElem
 ·simp[madeCells]
 ·intro i h1 h2;simp[madeCells,Value.cells,Nat.mod_one]
theorem G7.newrow{w':World}{gn:Nat}(h:G7 w base t bw b tg g m.code.length (K7 m (Y9 ht j)) none 0)(hg:w.grownBy w' none)(hb:base≤w.heap.size)
 (hj:j<m.code.length) (hk:ht j=some k) (hl:0<m.locals)
 (hrow:w'.ownsRow w.heap.size 98 2 (.slice (some ⟨gn,0,none⟩) (m.locals+k) (m.locals+k)) (m.locals+k) (D7 (m.locals+k) [.int .i64 (-1), .string ⟨#[]⟩])):
 G7 (w'.setCell ⟨tg,j,none⟩ (.slice (some ⟨gn,0,none⟩) (m.locals+k) (m.locals+k))) base t bw b tg (fun a=>if a=j then gn else g a) m.code.length (K7 m (Y9 ht (j+1))) none 0:=by
 obtain⟨hbn,hgn⟩:=a3b hrow;have hK:=h.keep hg;have hs:=A6 w' ⟨tg,j,none⟩ (.slice (some ⟨gn,0,none⟩) (m.locals+k) (m.locals+k));have hlt:=hbn.lt;have htyp:=hK.types.set j (.slice (some ⟨gn,0,none⟩) (m.locals+k) (m.locals+k))
 have hrl:∀a,a<m.code.length→a≠j→(K7 m (Y9 ht (j+1))).ts.getD a []=(K7 m (Y9 ht j)).ts.getD a []:=fun a ha hne=>by
  rw[a7y m ht ha,a7y m ht ha];by_cases e:a<j
  ·rw[if_pos (by omega),if_pos e]
  ·rw[if_neg (by omega),if_neg e]
 have hrj:(K7 m (Y9 ht (j+1))).ts.getD j []=List.replicate (m.locals+k) none:=by
  rw[a7y m ht hj,if_pos (by omega),hk]
 have hnew:∀a,a<m.code.length→(((K7 m (Y9 ht j)).ts.getD a []).length≠0)→g a≠gn:=fun a ha hne e=>by
  have:=(h.rows a ha hne).lt;omega
 refine⟨hK.blk.keep hs (fun e=>I7 hK.blk hK.types (by decide) (Option.some.inj e)),?_,fun a ha hne=> ?_,⟨rfl, .inl ⟨rfl,rfl⟩⟩,fun a c ha hc h1 h2 he=> ?_,⟨h.low.1,h.low.2.1,fun a ha=> ?_⟩⟩
 ·have e:(((List.range m.code.length).map (a0o g (K7 m (Y9 ht j)).ts)).toArray.setIfInBounds j (.slice (some ⟨gn,0,none⟩) (m.locals+k) (m.locals+k)))=((List.range m.code.length).map (a0o (fun a=>if a=j then gn else g a) (K7 m (Y9 ht (j+1))).ts)).toArray:=by
   rw[List.setIfInBounds_toArray];congr 1
   apply List.ext_getElem
   ·simp
   ·intro a h1 h2;have ha:a<m.code.length:=by simpa using h2
    rw[List.getElem_set];simp only[List.getElem_map,List.getElem_range];by_cases e:a=j
    ·subst e;rw[if_pos rfl];unfold a0o;rw[hrj];simp only[List.length_replicate];rw[if_neg (by omega)];simp
    ·rw[if_neg (fun e2=>e e2.symm)];unfold a0o;rw[hrl a ha e];simp[e]
  rw[e]at htyp;exact htyp
 ·try dsimp only
  by_cases e:a=j
  ·subst e;rw[if_pos rfl,hrj];have e2:(List.replicate (m.locals+k) (none:Option Ty)).flatMap a0E=D7 (m.locals+k) [.int .i64 (-1), .string ⟨#[]⟩]:=(b3o a0E (m.locals+k) none).symm;rw[e2];exact hbn.keep hs (fun e3=>I7 hbn hK.types (by decide) (Option.some.inj e3))
  ·rw[if_neg e];rw[hrl a ha e]at hne⊢;exact(hK.rows a ha hne).keep hs (fun e3=>I7 (hK.rows a ha hne) hK.types (by decide) (Option.some.inj e3))
 ·try dsimp only at he
  by_cases e1:a=j
  ·by_cases e2:c=j
   ·rw[e1,e2]
   ·rw[if_pos e1,if_neg e2]at he;rw[hrl c hc e2]at h2;exact absurd he.symm (hnew c hc h2)
  ·by_cases e2:c=j
   ·rw[if_neg e1,if_pos e2]at he;rw[hrl a ha e1]at h1;exact absurd he (hnew a ha h1)
   ·rw[if_neg e1,if_neg e2]at he;rw[hrl a ha e1]at h1;rw[hrl c hc e2]at h2;exact h.d2 a c ha hc h1 h2 he
 ·try dsimp only
  by_cases e:a=j
  ·rw[if_pos e];exact⟨Nat.le_trans hb hgn,Nat.lt_of_lt_of_le hlt hs.size⟩
  ·rw[if_neg e];exact⟨(hK.low.2.2 a ha).1,Nat.lt_of_lt_of_le (hK.low.2.2 a ha).2 hs.size⟩
structure TdI(w0 W:World)(t bw b tg:Nat)(g:Nat→Nat)(L:List Cl)(c:ByteArray)(m:Me)(s:Ps)(j:Nat):Prop where
 fl:F2 w0 w0 W [] t bw b tg g m.code.length L s []
 ok:N2 L c m s
 gone:o9 L m s none
 mu:T4 L s≤8000000000000
 ent:∀p∈P8 c m,U6 L s.ts p
 fix:∀a k,a<j→Cf.G3 L m a k→∀p∈N9 L m a (E4 L m a k),U6 L s.ts p
theorem F2.fold(h:F2 w0 V W Bs t bw b tg g n L s1 pre):F2 w0 V W Bs t bw b tg g n L (pre.foldl (N4 L) s1) []:=h
variable {c:ByteArray}
theorem PE.raises(hP:PE L c m ht)(ho:N2 L c m s)(hg:o9 L m s none){ps:List (Nat×Nat×Ty)}(hv:∀p∈ps,y4 L c m p):
 N2 L c m (ps.foldl (N4 L) s)∧o9 L m (ps.foldl (N4 L) s) none∧T4 L (ps.foldl (N4 L) s)≤T4 L s∧(∀p∈ps,U6 L (ps.foldl (N4 L) s).ts p)∧∀p:Nat×Nat×Ty,E3 L p.2.2→U6 L s.ts p→U6 L (ps.foldl (N4 L) s).ts p:=by
 obtain⟨k1,k2,k3⟩:=hP.wld.psRaises_ok ps ho hv;exact⟨k1,hP.wld.psGone_all hP.tyw hP.cok hP.ok hP.hok ho hg ps hv,k2.mu,k3,fun p hp hs=>hP.wld.satS_rises ho.snd k1.snd k2.up hp hs⟩
theorem PE.entTy(hP:PE L c m ht):∀p∈P8 c m,y4 L c m p:=hP.wld.ent_comes hP.cok hP.has hP.pars
theorem PE.fixTy(hP:PE L c m ht)(hr:Cf.G3 L m a k):∀p∈N9 L m a (E4 L m a k),y4 L c m p:=hP.wld.fixed_comes hP.tyw hP.cok hP.ok hP.hok hr
theorem TdI.put(hP:PE L c m ht)(h:TdI w0 W t bw b tg g L c m s j)(hr:Cf.G3 L m j k)(hF:F2 w0 V W' [] t bw b tg g m.code.length L s (N9 L m j (E4 L m j k))):
 TdI w0 W' t bw b tg g L c m ((N9 L m j (E4 L m j k)).foldl (N4 L) s) (j+1):=by
 obtain⟨k1,k2,k3,k4,k5⟩:=hP.raises h.ok h.gone (hP.fixTy hr);refine⟨hF.free.fold,k1,k2,Nat.le_trans k3 h.mu,fun p hp=>k5 p (hP.entTy p hp).ok (h.ent p hp),fun a k' ha hr' p hp=> ?_⟩;by_cases e:a=j
 ·subst e;have:=hP.hok.one _ _ _ hr hr';subst this;exact k4 p hp
 ·exact k5 p (hP.fixTy hr' p hp).ok (h.fix a k' (by omega) hr' p hp)
theorem TdI.skip(h:TdI w0 W t bw b tg g L c m s j)(hr:∀k,¬Cf.G3 L m j k):TdI w0 W t bw b tg g L c m s (j+1):=
 ⟨h.fl,h.ok,h.gone,h.mu,h.ent,fun a k ha hr' p hp=>by
  by_cases e:a=j
  ·subst e;exact absurd hr' (hr k)
  ·exact h.fix a k (by omega) hr' p hp⟩
def b1x(w w':World)(bw b:Nat)(L:List Cl)(c:ByteArray)(m:Me)(e:Ending):Prop:=
 ∃(t tg:Nat) (g:Nat→Nat) (s:Ps) (ra:Option Addr) (rk:Nat),e= .returned (.pointer (some ⟨t,0,none⟩))∧G7 w' w.heap.size t bw b tg g m.code.length s ra rk∧N2 L c m s∧a2Z L c m (N5 s.ts)∧
  (∀a k,Cf.G3 L m a k→∀j,j<m.locals+k→∃u,tq s.ts a j=some (some u))∧w.grownBy w' none
variable {ra:Option Addr}
theorem b7X(hP:PE L c m ht){s0:Ps}(h:TdI w0 w t bw b tg g L c m s0 m.code.length){rk K:Nat}(hF:FlI w0 W' t bw b tg g L c m s0 s ra rk K)(hz:s.ris=[]):b1x w0 W' bw b L c m (.returned (.pointer (some ⟨t,0,none⟩))):=by
 have key:=fun(p:Nat×Nat×Ty) (hp:E3 L p.2.2) (hs:U6 L s0.ts p)=>hP.wld.satS_rises h.ok.snd hF.ok.snd hF.up hp hs
 obtain⟨h1,h2⟩:=hP.wld.ps_end hP.tyw hP.cok hP.ok hP.hok hF.ok hF.gone hz (fun p hp=>key p (hP.entTy p hp).ok (h.ent p hp)) (fun a k hr p hp=>key p (hP.fixTy hr p hp).ok (h.fix a k (a1O hP.cok hP.ok hr).1 hr p hp));exact⟨t,tg,g,s,ra,rk,rfl,hF.mem,hF.ok,h1,h2,hF.gb⟩
theorem b7s:(Tryz.prog.info? 96).map (fun i=>(i.zero,i.size,i.bytes))=some (some (.slice none 0 0),1,24):=by kernel_rfl
theorem b8h{base':Nat}{e:TypeId}{sz:Nat}{v:Value}{xs:List Value}(h:w.ownsRow base e sz v n xs)(hb:base'≤base):w.ownsRow base' e sz v n xs:=by
 refine⟨h.1,?_⟩;rcases h.2 with h1|⟨g,cap,cur,hv,hg,h2⟩
 ·exact .inl h1
 ·exact .inr ⟨g,cap,cur,hv,Nat.le_trans hb hg,h2⟩
set_option maxRecDepth 100000 in
set_option maxHeartbeats 40000000 in
theorem b5i(L:List Cl)(c:ByteArray)(m:Me)(ht:Nat→Option Nat)(hP:Hid (PE L c m ht))(w:World)(lim b:Nat)(p:Addr)(cap m1 m2 m3:Nat)(q:Nat→Qs)(h:Hid (Lk w lim b L p cap m1 m2 m3 q))(hl:lim≤w.heap.size)(pa ca ha:Option Addr)(pk ck hk bw eg hg:Nat)(hE:Hid (TyE w lim L m pa pk ca ck ha hk bw eg hg ht)):
 Calls Tryz.prog 127 #[.pointer (some ⟨b,0,none⟩), .string c, .pointer (some ⟨bw,0,none⟩)] w fun e w'=>b1x w w' bw b L c m e:=by
 have hnc:=hP.out.nc;have hlo:=hP.out.lo;have HL0:Hid (0<m.locals):=by have:=hP.out.cok.locals;unfold Hid;omega
 have HPS:Hid (N2 L c m (K7 m ht)∧o9 L m (K7 m ht) none∧T4 L (K7 m ht)≤8000000000000):=⟨b8W hP.out.cok hP.out.ok hP.out.hts,b6T L m ht,hP.out.mu0⟩
 have c9:=hE.out.c9;have lbw:bw<w.heap.size:=block_lt_of_cell c9;obtain⟨inf,ii0,iz0,iz1,iz2⟩:=info_parts b7s;go_enter Tryz.func127,Tryz.ntmps127;go_upto_region 2 with(at_make;go_loud (refine wpList_make_full _ rfl _ _ 183 rfl w.heap.size 96 inf _ 1 Tryz.underlying183 ii0 iz0 iz1 .i64 .i64 (m.code.length:Int) (m.code.length:Int) m.code.length rfl rfl rfl rfl (by rw[iz2];omega) (by unfold maxLen;omega) (Nat.le_refl _) ?_;intro w1 ho1 hg1;dsimp only))
 obtain⟨tg,htg⟩:∃tg,tg=w.heap.size:=⟨_,rfl⟩
 have HBS:Hid (w.heap.size≤tg):=by unfold Hid;omega
 obtain⟨t,htt⟩:∃t,t=w1.heap.size:=⟨_,rfl⟩
 obtain⟨hbt,hbl⟩:=a3b ho1;have hb2:A3 (w1.alloc (.cells #[.pointer (some ⟨bw,0,none⟩), .pointer (some ⟨b,0,none⟩), .slice (some ⟨w.heap.size,0,none⟩) m.code.length m.code.length, .slice none 0 0] 311)) t #[.pointer (some ⟨bw,0,none⟩), .pointer (some ⟨b,0,none⟩), .slice (some ⟨w.heap.size,0,none⟩) m.code.length m.code.length, .slice none 0 0] 311:=by rw[htt];exact A3.new w1 _ _
 have hG2:w.grownBy (w1.alloc (.cells #[.pointer (some ⟨bw,0,none⟩), .pointer (some ⟨b,0,none⟩), .slice (some ⟨w.heap.size,0,none⟩) m.code.length m.code.length, .slice none 0 0] 311)) none:=A1 hg1 (A2 _ _ none);have hbt2:=hbt.keep (A2 w1 (.cells #[.pointer (some ⟨bw,0,none⟩), .pointer (some ⟨b,0,none⟩), .slice (some ⟨w.heap.size,0,none⟩) m.code.length m.code.length, .slice none 0 0] 311) none) A7;rw[←htt];rw[←htg]at hb2 hG2 hbt2⊢;generalize w1.alloc (.cells #[.pointer (some ⟨bw,0,none⟩), .pointer (some ⟨b,0,none⟩), .slice (some ⟨tg,0,none⟩) m.code.length m.code.length, .slice none 0 0] 311)=W2 at hb2 hG2 hbt2⊢
 have HT0:Hid (G7 W2 w.heap.size t bw b tg (fun _=>t) m.code.length (K7 m (Y9 ht 0)) none 0):=by
  rw[b7t];refine⟨hb2,?_,fun a ha hne=> ?_,⟨rfl, .inl ⟨rfl,rfl⟩⟩,fun a c ha hc h1=> ?_,⟨by rw[htt];exact hg1.size,HBS.out,fun a ha=>⟨by rw[htt];exact hg1.size,hb2.lt⟩⟩⟩
  ·rw[b7b];have e:=b7i m.code.length;rw[e]at hbt2;exact hbt2
  ·rw[a3a m _ ha]at hne;simp at hne
  ·rw[a3a m _ ha]at h1;simp at h1
 have HG0:=A0 hG2;clear hb2 hG2 hbt2 hbt hbl ho1 hg1 htt htg;have c9b:=HG0.out.cell c9 A7;go_wp2_with fail
 clear c9 c9b lbw;go_loopw [26] (fun v W=>∃(j:Nat) (g:Nat→Nat),v= .int .i64 j∧j≤m.code.length∧G7 W w.heap.size t bw b tg g m.code.length (K7 m (Y9 ht j)) none 0∧w.grownBy W none) (fun v _=>m.code.length-(intOf v).toNat)
 case atStart=>exact⟨0,_,rfl,Nat.zero_le _,HT0.out,HG0.out⟩
 case round=>
  obtain⟨j,g,rfl,hj,hTM,hGr⟩:=hrel;have HTM:=A0 hTM;have HG:=A0 hGr;clear hTM hGr;by_cases hlt:j<m.code.length
  ·have hjI:(j:Int)<(m.code.length:Int):=by omega
   have ch:=(hE.out.keep HG.out).hts j hlt;unfold htI at ch;cases hkp:ht j with
   |none=>
    rw[hkp]at ch;dsimp only at ch;have HSK:=A0 (b7u hkp);clear hkp;go_wp2_with fail
    go_roundw
    case rel=>exact⟨j+1,g,by first|rfl|go_num,by omega,by rw[HSK.out];exact HTM.out,HG.out⟩
    case measure=>first|omega|(go_num;omega)|(simp[intOf];omega)
   |some k=>
    rw[hkp]at ch;dsimp only at ch;have HJ:Hid (j<m.code.length∧ht j=some k):=⟨hlt,hkp⟩
    have hks:=Nat.le_trans (hP.out.hst j k hkp) hP.out.st;have hk1b:((k:Int)== -1)=false:=by rw[beq_eq_false_iff_ne];omega
    have hk1n:¬(k:Int)= -1:=by omega
    have c2:=HTM.out.blk.c2;have z5:=(hE.out.keep HG.out).meth 5 _ rfl;have HBSR:=A0 HG.out.size;have HWR:Hid (IntKind.i64.wrap ((m.locals:Int)+(k:Int))=((m.locals+k:Nat):Int)):=by unfold Hid;rw[IntWalk.i64_in _ (by omega)];exact(Int.natCast_add m.locals k).symm
    clear hkp;go_upto_region 6 with fail
    refine wp_region_held_drew (S:=(fun w'=>w'.cell? ⟨t,2,none⟩=some (.slice (some ⟨tg,0,none⟩) m.code.length m.code.length)∧w'.cell? ⟨bw,5,none⟩=some (.int .i64 m.locals))) (by kernel_rfl) (⟨c2,z5⟩) (fun hHeld=> ?_);refine A4 0 ?_;refine A4 1 ?_;refine A4 2 ?_;refine wpAnyH_take (i:=3) (v:= ?v5) rfl (by kernel_rfl) (by kernel_rfl) (by kernel_rfl) (fun _ _ _ h=>h) (Or.inl ⟨by rfl,?h5⟩) (by assumption) ?r5
    case h5=>
     intro w5 hSw;try dsimp only at hSw
     obtain⟨q0,q1⟩:=hSw;go_simp
     try with_reducible rfl
    try simp only[Act.put,lz]
    refine A4 4 ?_;refine wpAnyH_take (i:=5) (v:= .agg #[.int .i64 (-1), .string ⟨#[]⟩]) rfl (by kernel_rfl) (by kernel_rfl) (by kernel_rfl) (fun _ _ _ h=>h) (Or.inl ⟨by rfl,?h7⟩) (by assumption) ?r7
    case h7=>(intro w hSw;(try dsimp only at hSw);go_simp;try with_reducible rfl)
    try simp only[Act.put,lz]
    refine A4 7 ?_;refine A4 8 ?_;refine A4 9 ?_;refine A4 10 ?_;refine wpAnyH_take (i:=11) (v:= ?v12) rfl (by kernel_rfl) (by kernel_rfl) (by kernel_rfl) (fun _ _ _ h=>h) (Or.inl ⟨by rfl,?h12⟩) (by assumption) ?r12
    case h12=>
     intro w5 hSw;try dsimp only at hSw
     obtain⟨q0,q1⟩:=hSw;go_simp
     try with_reducible rfl
    try simp only[Act.put,lz]
    refine A4 12 ?_;refine wpAnyH_take (i:=13) (v:= .int .i64 ((m.locals+k:Nat):Int)) rfl (by kernel_rfl) (by kernel_rfl) (by kernel_rfl) (fun _ _ _ h=>h) (Or.inl ⟨by rfl,?h14⟩) (by assumption) ?r14
    case h14=>(intro w hSw;(try dsimp only at hSw);go_simp;(try rw[HWR.out]);(try exact Int.natCast_add _ _);try with_reducible rfl)
    try simp only[Act.put,lz]
    refine wpAnyH_ready (rs:=[6]) (by kernel_rfl) (by simp) ?_;refine AllReadyH.cons rfl (fun K hK=> ?_) AllReadyH.nil;go_simp
    have hga:wr.grownBy (wr.drew.alloc (.cells #[.int .i64 (-1), .string ⟨#[]⟩] 98)) none:=A1 (B8 _ _) (A2 _ _ none);have hbs:A3 (wr.drew.alloc (.cells #[.int .i64 (-1), .string ⟨#[]⟩] 98)) wr.drew.heap.size #[.int .i64 (-1), .string ⟨#[]⟩] 98:=A3.new wr.drew _ _;refine hK.out _ _ ?_ (fun hHeld=> ?_)
    case refine_1=>exact⟨hga.cell c2 A7,hga.cell z5 A7⟩
    try clear hK K
    try simp only[Act.put,lz]
    refine wpAnyH_ready (rs:=[14]) (by kernel_rfl) (by simp) ?_;refine AllReadyH.cons rfl (fun K hK=> ?_) AllReadyH.nil;go_simp
    go_wp2_with (go_at_call 191;go_loud (refine(b8T (wr.drew.alloc (.cells #[.int .i64 (-1), .string ⟨#[]⟩] 98)) ⟨wr.drew.heap.size,0,none⟩ (m.locals+k) 1 [.int .i64 (-1), .string ⟨#[]⟩] rfl (fun jj v hv=>O5 wr.drew _ _ jj v hv) (by simp[Value.oneCell']) (by omega)).mono ?_;rintro e w3 ⟨gn,rfl,hrow,hg3⟩))
    have hg4:=A1 hga hg3;refine hK.out _ _ ?_ (fun hHeld=> ?_)
    case refine_1=>exact⟨hg4.cell c2 A7,hg4.cell z5 A7⟩
    try clear hK K
    try simp only[Act.put,lz]
    refine A4 15 ?_;have hTn:=G7.newrow (gn:=gn) (w':=w3) HTM.out hg4 HBSR.out HJ.out.1 HJ.out.2 HL0.out (b8h hrow (by simp));have cj:=(HTM.out.keep hg4).types.frozen j;have ej:=U9 (HTM.out.keep hg4).types j _ (by rw[List.getElem?_map,List.getElem?_range HJ.out.1];rfl);refine wpAnyH_ready (rs:=[16]) (by kernel_rfl) (by simp) ?_;refine AllReadyH.cons rfl (fun K hK=> ?_) AllReadyH.nil;go_simp
    have hgs:=A6 w3 ⟨tg,j,none⟩ (.slice (some ⟨gn,0,none⟩) (m.locals+k) (m.locals+k));have hG9:=C7 (A1 HG.out hg4) hgs (fun k e=>by cases e;exact .inl HTM.out.low.2.1);generalize w3.setCell ⟨tg,j,none⟩ (.slice (some ⟨gn,0,none⟩) (m.locals+k) (m.locals+k))=W9 at hTn hG9⊢;refine hK.out _ _ ?_ (fun hHeld=> ?_)
    case refine_1=>exact⟨hTn.blk.cell 2 _ rfl,(hE.out.keep hG9).meth 5 _ rfl⟩
    try clear hK K
    try simp only[Act.put,lz]
    refine wpAnyH_done (by kernel_rfl) ?_ _;go_wp2_with fail
    go_roundw
    case rel=>exact⟨j+1,_,by first|rfl|go_num,by omega,hTn,hG9⟩
    case measure=>first|omega|(go_num;omega)|(simp[intOf];omega)
  ·have hjn:j=m.code.length:=by omega
   have HT1:Hid (G7 wr w.heap.size t bw b tg g m.code.length (K7 m ht) none 0):=by have:=HTM.out;rw[hjn,b8f]at this;exact this
   have HF0:Hid (F2 w wr wr [] t bw b tg g m.code.length L (K7 m ht) []):=⟨none,0,HT1.out,HG.out,fun k hk=>by cases hk⟩
   clear HTM;subst hjn;go_upto_region 9 with(first|(go_at_call 192;go_loud (refine(b6g L c m ht hP w lim b p cap m1 m2 m3 q h hl pa ca ha pk ck hk bw eg hg hE t tg g wr (K7 m ht) HF0.out HPS.out.1 HPS.out.2.2).mono ?_;rintro e w4 ⟨rfl,hR4⟩)))
   have HTD:Hid (TdI w w4 t bw b tg g L c m ((P8 c m).foldl (N4 L) (K7 m ht)) 0):=by
    obtain⟨k1,k2,k3,k4,-⟩:=hP.out.raises HPS.out.1 HPS.out.2.1 hP.out.entTy;exact⟨hR4.free.fold,k1,k2,Nat.le_trans k3 HPS.out.2.2,k4,fun a k ha=>absurd ha (Nat.not_lt_zero _)⟩
   have c2:=hR4.choose_spec.choose_spec.1.blk.c2;clear hR4 HF0 HT1 HG;go_wp2_with fail
   clear c2;go_loopw [58] (fun v W=>∃(j:Nat) (s:Ps),v= .int .i64 j∧j≤m.code.length∧TdI w W t bw b tg g L c m s j) (fun v _=>m.code.length-(intOf v).toNat)
   case atStart=>exact⟨0,_,rfl,Nat.zero_le _,HTD.out⟩
   case round=>
    obtain⟨j,s,rfl,hj,hTd⟩:=hrel;have HTD2:=A0 hTd;clear hTd;by_cases hlt:j<m.code.length
    ·have hjI:(j:Int)<(m.code.length:Int):=by omega
     have hE2:=hE.out.keep HTD2.out.fl.gb;have hIR:=a8q wr t bw hg m.code.length j _ HTD2.out.fl.t0 hE2.c9 (hE2.hts j hlt) hlt;unfold htI at hIR;cases hkp:ht j with
     |none=>
      rw[hkp]at hIR;have HIR:Hid (Calls Tryz.prog 193 #[.pointer (some ⟨t,0,none⟩), .int .i64 j] wr fun e w'=>e= .returned (.bool false)∧w'=wr):=hIR;have HSK:Hid (∀k,¬Cf.G3 L m j k):=fun k hr=>by have:=(hP.out.hts j k hlt).2 hr;rw[hkp]at this;cases this
      clear hkp hIR;go_wp2_with (go_at_call 193;go_loud (refine HIR.out.mono ?_;rintro e w5 ⟨rfl,rfl⟩))
      go_roundw
      case rel=>exact⟨j+1,s,by first|rfl|go_num,by omega,HTD2.out.skip HSK.out⟩
      case measure=>first|omega|(go_num;omega)|(simp[intOf];omega)
     |some k=>
      rw[hkp]at hIR
      have hIR2:Calls Tryz.prog 193 #[.pointer (some ⟨t,0,none⟩), .int .i64 j] wr fun e w'=>e= .returned (.bool true)∧w'=wr:=by
       have e1:decide (((k:Nat):Int)≠-1)=true:=decide_eq_true (by omega);dsimp only at hIR;rw[e1]at hIR;exact hIR
      have HIR:=A0 hIR2
      have HPF:Hid (Calls Tryz.prog 194 #[.pointer (some ⟨t,0,none⟩), .int .i64 j] wr fun e w'=>e= .returned (.tuple #[])∧F2 w wr w' [] t bw b tg g m.code.length L s (N9 L m j (E4 L m j k))):=
       b2F L c m ht hP w lim b p cap m1 m2 m3 q h hl pa ca ha pk ck hk bw eg hg hE t tg g wr s HTD2.out.fl.free HTD2.out.ok HTD2.out.mu j k ⟨hlt,hkp⟩
      have HRK:=A0 ((hP.out.hts j k hlt).1 hkp);clear hkp hIR hIR2;go_wp2_with (first|(go_at_call 193;go_loud (refine HIR.out.mono ?_;rintro e w5 ⟨rfl,rfl⟩))|(go_at_call 194;go_loud (refine HPF.out.mono ?_;rintro e w6 ⟨rfl,hR6⟩)))
      have HN:=HTD2.out.put hP.out HRK.out hR6;go_roundw
      case rel=>exact⟨j+1,_,by first|rfl|go_num,by omega,HN⟩
      case measure=>first|omega|(go_num;omega)|(simp[intOf];omega)
    ·have hjn:j=m.code.length:=by omega
     have HTD3:Hid (TdI w wr t bw b tg g L c m s m.code.length):=by rw[←hjn];exact HTD2.out
     clear HTD2 HTD;subst hjn;obtain⟨ra,rk,hM,hGG,-⟩:=HTD3.out.fl
     have HFW:Hid (Calls Tryz.prog 195 #[.pointer (some ⟨t,0,none⟩)] wr fun e w'=>e= .returned (.tuple #[])∧∃s' ra' rk',FlI w w' t bw b tg g L c m s s' ra' rk' 8000000000000∧s'.ris=[]):=
      b7E L c m ht hP w lim b p cap m1 m2 m3 q h hl pa ca ha pk ck hk bw eg hg hE t tg g wr s ra rk hM HTD3.out.ok HTD3.out.gone HTD3.out.mu hGG
     clear hM hGG;go_wp2_with (go_at_call 195;go_loud (refine HFW.out.mono ?_;rintro e w7 ⟨rfl,s',ra',rk',hFI,hz⟩))
     go_ret;exact b7X hP.out HTD3.out hFI hz
theorem b8b{g:Nat}{xs:List Ty}{t:TypeId}(hb:A3 w g (xs.flatMap C1).toArray t)(n:Nat):C0 w w.heap.size 2 C1 (some ⟨g,0,none⟩) (xs.take n)∧C0 w w.heap.size 2 C1 (some ⟨g,n*2,none⟩) (xs.drop n):=by
 have key:∀j (hj:j<xs.length) r u,(C1 xs[j])[r]? =some u→w.cell? ⟨g,j*2+r,none⟩=some u:=fun j hj r u hu=>by
  have hr:r<2:=(List.getElem?_eq_some_iff.1 hu).1;exact U9 hb _ _ (by rw[a0z C1 2 (fun _=>rfl) xs j hj r hr];exact hu)
 have hadd:∀o k:Nat,(⟨g,o,none⟩:Addr).add k=⟨g,o+k,none⟩:=fun o k=>by
  unfold Addr.add;split
  ·rename_i h;subst h;rfl
  ·rfl
 refine⟨fun j hj=>⟨⟨g,0,none⟩,rfl,hb.lt,fun r u hu=> ?_⟩,fun j hj=>⟨⟨g,n*2,none⟩,rfl,hb.lt,fun r u hu=> ?_⟩⟩
 ·rw[hadd,Nat.zero_add];have hj2:j<xs.length:=by simp at hj;omega
  exact key j hj2 r u (by rw[←hu];simp)
 ·rw[hadd];have hj2:n+j<xs.length:=by simp at hj;omega
  have:=key (n+j) hj2 r u (by rw[←hu];simp);rw[show n*2+(j*2+r)=(n+j)*2+r by omega];exact this
theorem b6F{rk:Nat}(h:G7 w base t bw b tg g n s ra rk){len:Nat}(ha:a<n)(hl:(s.ts.getD a []).length=len)(h0:len≠0)(ht:∀j,j<len→∃u,tq s.ts a j=some (some u)):A3 w (g a) ((N5 s.ts a).flatMap C1).toArray 98:=by
 have hr:=h.rows a ha (by omega)
 have e:(s.ts.getD a []).flatMap a0E=(N5 s.ts a).flatMap C1:=by
  unfold N5;rw[List.flatMap_map]
  have:∀o∈s.ts.getD a [],a0E o=C1 (o.getD B6):=fun o ho=>by
   obtain⟨j,hj,rfl⟩:=List.getElem_of_mem ho;obtain⟨u,hu⟩:=ht j (by omega);unfold tq at hu;rw[List.getElem?_eq_getElem hj]at hu;injection hu with hu
   rw[hu];rfl
  generalize s.ts.getD a []=row at this;induction row with
  |nil=>rfl
  |cons x l ih=>rw[List.flatMap_cons,List.flatMap_cons,this x List.mem_cons_self,ih (fun o ho=>this o (List.mem_cons_of_mem _ ho))]
 rw[e]at hr;exact hr
set_option maxRecDepth 100000 in
set_option maxHeartbeats 4000000 in
theorem b4E(w:World)(t:Ty):Calls Tryz.prog 253 #[.agg #[.int .i64 t.kind, .string t.name]] w fun e w'=>e= .returned (.agg #[.int .i64 t.kind, .string t.name])∧w.grownBy w' none:=by
 have HG:Hid (w.grownBy ((w.alloc (.cells #[.int .i64 t.kind, .string t.name] 98)).alloc (.cells #[.int .i64 t.kind, .string t.name] 98)) none):=A1 (A2 _ _ _) (A2 _ _ _);go_enter Tryz.func253,Tryz.ntmps253;go_wp2_with fail
 have hb2:=A3.new (w.alloc (.cells #[.int .i64 t.kind, .string t.name] 98)) #[.int .i64 t.kind, .string t.name] 98;rw[World.size_alloc]at hb2;have q0:=hb2.cell 0 _ rfl;have q1:=hb2.cell 1 _ rfl;exact bodyPost_ret (v:= .agg #[.int .i64 t.kind, .string t.name]) (by simp[results,Tryz.results253,go_sem,q0,q1]) rfl ⟨rfl,HG.out⟩
def a1B(lo k:Nat):Nat:=if k=0 then 0 else lo*2
set_option maxRecDepth 100000 in
set_option maxHeartbeats 4000000 in
theorem b5D(w:World)(base t bw b tg:Nat)(g:Nat→Nat)(n:Nat)(s:Ps)(ra:Option Addr)(rk:Nat)(hT:Hid (G7 w base t bw b tg g n s ra rk))(lo k:Nat)(z5:w.cell? ⟨bw,5,none⟩=some (.int .i64 lo))(a:Nat)(ha:a<n)(hlen:(s.ts.getD a []).length=lo+k)(hlo:0<lo)(hlo2:lo≤255)(hk:k≤255):
 Calls Tryz.prog 199 #[.pointer (some ⟨t,0,none⟩), .int .i64 a] w fun e w'=>e= .returned (.tuple #[.slice (some ⟨g a,0,none⟩) lo (lo+k), .slice (some ⟨g a,a1B lo k,none⟩) k k])∧w.grownBy w' none:=by
 have c0:=hT.out.blk.c0;have c2:=hT.out.blk.c2;obtain⟨lr,hlr⟩:∃lr,lr=lo+k:=⟨_,rfl⟩
 have ca:w.cell? ⟨tg,a,none⟩=some (.slice (some ⟨g a,0,none⟩) lr lr):=U9 hT.out.types a _ (by rw[List.getElem?_map,List.getElem?_range ha,Option.map_some];unfold a0o;rw[if_neg (by omega),hlen,hlr]);have haI:(a:Int)<(n:Int):=by omega
 have HLR:=A0 hlr;have hlr1:lo≤lr:=by omega
 have hlr2:lr≤510:=by omega
 have hk2:lr-lo=k:=by omega
 rw[←hlr];by_cases hk0:k=0
 ·have e:lr=lo:=by omega
  have HOF:Hid (a1B lo k=0):=by unfold Hid a1B;rw[if_pos hk0]
  rw[HOF.out];subst hk0;subst e;clear hlr hlen hk2 hlr1 HLR;go_enter Tryz.func199,Tryz.ntmps199;go_wp2_with fail
  go_quiet (fail)
  go_wp2_with fail
  all_goals
   go_ret2
   exact⟨rfl,F0 _ _ _⟩
 ·have hne:¬lr=lo:=by omega
  have HOF:Hid (a1B lo k=lo*2):=by unfold Hid a1B;rw[if_neg hk0]
  rw[HOF.out];clear hlr hlen hk0;go_enter Tryz.func199,Tryz.ntmps199;go_wp2_with fail
  go_quiet (fail)
  go_wp2_with fail
  all_goals
   go_ret2
   exact⟨rfl,F0 _ _ _⟩
def c0G(L:List Cl)(m:Me)(T:Nat→List Ty)(w w':World)(e:Ending):Prop:=
 ∃(r:Nat) (bo:Bool),e= .returned (.tuple #[.int .i64 r, .bool bo])∧w.grownBy w' none∧
  ((bo=true∧r<m.code.length∧∃k,Cf.G3 L m r k∧j9 L m (A8 m r) ((T r).drop m.locals) ((T r).take m.locals)=false∧∀a k,a<r→Cf.G3 L m a k→j9 L m (A8 m a) ((T a).drop m.locals) ((T a).take m.locals)=true)∨
    (bo=false∧r=0∧∀a k,Cf.G3 L m a k→j9 L m (A8 m a) ((T a).drop m.locals) ((T a).take m.locals)=true))
set_option maxRecDepth 100000 in
set_option maxHeartbeats 40000000 in
theorem b2r(L:List Cl)(c:ByteArray)(m:Me)(ht:Nat→Option Nat)(hP:Hid (PE L c m ht))(w:World)(lim b:Nat)(p:Addr)(cap m1 m2 m3:Nat)(q:Nat→Qs)(h:Hid (Lk w lim b L p cap m1 m2 m3 q))(hl:lim≤w.heap.size)(pa ca ha:Option Addr)(pk ck hk bw eg hg:Nat)(hE:Hid (TyE w lim L m pa pk ca ck ha hk bw eg hg ht))(base t tg:Nat)(g:Nat→Nat)(s:Ps)(ra:Option Addr)(rk:Nat)(hT:Hid (G7 w base t bw b tg g m.code.length s ra rk))(hs:Hid (N2 L c m s))(hIT:Hid (a2Z L c m (N5 s.ts)))(htold:Hid (∀a k,Cf.G3 L m a k→∀j,j<m.locals+k→∃u,tq s.ts a j=some (some u))):
 Calls Tryz.prog 166 #[.pointer (some ⟨t,0,none⟩)] w fun e w'=>c0G L m (N5 s.ts) w w' e:=by
 have hnc:=hP.out.nc;have hlo:=hP.out.lo;have hl0:0<m.locals:=by have:=hP.out.cok.locals;omega
 have c0:=hT.out.blk.c0;have c6:=hE.out.meth 6 _ rfl;go_enter Tryz.func166,Tryz.ntmps166;go_wp2_with fail
 clear c0 c6;go_loopw [17] (fun v W=>∃j:Nat,v= .int .i64 j∧j≤m.code.length∧w.grownBy W none∧∀a k,a<j→Cf.G3 L m a k→j9 L m (A8 m a) ((N5 s.ts a).drop m.locals) ((N5 s.ts a).take m.locals)=true) (fun v _=>m.code.length-(intOf v).toNat)
 case atStart=>exact⟨0,rfl,Nat.zero_le _,G1 _ _,fun a k ha=>absurd ha (Nat.not_lt_zero _)⟩
 case round=>
  obtain⟨j,rfl,hj,hgr,hall⟩:=hrel;have HG:=A0 hgr;have HALL:=A0 hall;clear hgr hall;by_cases hlt:j<m.code.length
  ·obtain⟨pd,hpd,-,hcd⟩:=(hE.out.keep HG.out).code j hlt;obtain⟨i,hi⟩:∃i,i=m.code[j]:=⟨_,rfl⟩
   rw[←hi]at hcd;have HIC:Hid (i=A8 m j∧i∈m.code):=⟨by rw[hi];unfold A8;simp[hlt],by rw[hi];exact List.getElem_mem hlt⟩
   subst hpd;have y0:wr.cell? (pd.add (j*4))=some (.int .i64 i.op):=hcd 0 _ rfl;have y1:wr.cell? ⟨(pd.add (j*4)).block,(pd.add (j*4)).off+1,none⟩=some (.int .i64 i.a):=by rw[B9 pd (j*4) 0];exact hcd 1 _ rfl
   have y2:wr.cell? ⟨(pd.add (j*4)).block,(pd.add (j*4)).off+2,none⟩=some (.string i.cls):=by rw[B9 pd (j*4) 1];exact hcd 2 _ rfl
   have y3:wr.cell? ⟨(pd.add (j*4)).block,(pd.add (j*4)).off+3,none⟩=some (.string i.mem):=by rw[B9 pd (j*4) 2];exact hcd 3 _ rfl
   have hjI:(j:Int)<(m.code.length:Int):=by omega
   have HGA:Hid (w.grownBy (wr.alloc (.cells #[.int .i64 i.op, .int .i64 i.a, .string i.cls, .string i.mem] 120)) none):=A1 HG.out (A2 _ _ none);clear hcd hi;have hEA:=hE.out.keep HGA.out;have hTA:=hT.out.keep HGA.out;have hIR:=a8q (wr.alloc (.cells #[.int .i64 i.op, .int .i64 i.a, .string i.cls, .string i.mem] 120)) t bw hg m.code.length j _ (hTA.blk.cell 0 _ rfl) hEA.c9 (hEA.hts j hlt) hlt;unfold htI at hIR;cases hkp:ht j with
   |none=>
    rw[hkp]at hIR;have HIR:Hid (Calls Tryz.prog 193 #[.pointer (some ⟨t,0,none⟩), .int .i64 j] (wr.alloc (.cells #[.int .i64 i.op, .int .i64 i.a, .string i.cls, .string i.mem] 120)) fun e w'=>e= .returned (.bool false)∧w'=(wr.alloc (.cells #[.int .i64 i.op, .int .i64 i.a, .string i.cls, .string i.mem] 120))):=hIR;have HSK:Hid (∀k,¬Cf.G3 L m j k):=fun k hr=>by have:=(hP.out.hts j k hlt).2 hr;rw[hkp]at this;cases this
    clear hkp hIR hEA hTA;go_wp2_with (go_at_call 193;go_loud (refine HIR.out.mono ?_;rintro e w5 ⟨rfl,rfl⟩))
    go_roundw
    case rel=>exact⟨j+1,by first|rfl|go_num,by omega,HGA.out,fun a k ha hr=>by
     by_cases e:a=j
     ·subst e;exact absurd hr (HSK.out k)
     ·exact HALL.out a k (by omega) hr⟩
    case measure=>first|omega|(go_num;omega)|(simp[intOf];omega)
   |some k=>
    rw[hkp]at hIR
    have hIR2:Calls Tryz.prog 193 #[.pointer (some ⟨t,0,none⟩), .int .i64 j] (wr.alloc (.cells #[.int .i64 i.op, .int .i64 i.a, .string i.cls, .string i.mem] 120)) fun e w'=>e= .returned (.bool true)∧w'=(wr.alloc (.cells #[.int .i64 i.op, .int .i64 i.a, .string i.cls, .string i.mem] 120)):=by
     have e1:decide (((k:Nat):Int)≠-1)=true:=decide_eq_true (by omega);dsimp only at hIR;rw[e1]at hIR;exact hIR
    have HIR:=A0 hIR2;have hrk:=(hP.out.hts j k hlt).1 hkp;have hroom:=hP.out.room hrk;have hsh:=hs.out.snd.shape j k hrk;have HRK:=A0 hrk
    have HPA:Hid (Calls Tryz.prog 199 #[.pointer (some ⟨t,0,none⟩), .int .i64 j] (wr.alloc (.cells #[.int .i64 i.op, .int .i64 i.a, .string i.cls, .string i.mem] 120)) fun e w'=>e= .returned (.tuple #[.slice (some ⟨g j,0,none⟩) m.locals (m.locals+k), .slice (some ⟨g j,a1B m.locals k,none⟩) k k])∧(wr.alloc (.cells #[.int .i64 i.op, .int .i64 i.a, .string i.cls, .string i.mem] 120)).grownBy w' none):=
     b5D _ base t bw b tg g m.code.length s ra rk hTA m.locals k (hEA.meth 5 _ rfl) j hlt hsh hl0 hlo (Nat.le_trans hroom.2.2 hP.out.st)
    have hTl:(N5 s.ts j).length=m.locals+k:=by unfold N5;rw[List.length_map];exact hsh
    have hdl:((N5 s.ts j).drop m.locals).length=k:=by rw[List.length_drop,hTl];omega
    have htl:((N5 s.ts j).take m.locals).length=m.locals:=by rw[List.length_take,hTl];omega
    have hok:=hIT.out.sol.ok j k hrk;obtain⟨TS,hTS⟩:∃TS,TS=(N5 s.ts j).drop m.locals:=⟨_,rfl⟩
    obtain⟨TL,hTL⟩:∃TL,TL=(N5 s.ts j).take m.locals:=⟨_,rfl⟩
    have hFT:∀W,w.grownBy W none→Calls Tryz.prog 252 #[.pointer (some ⟨b,0,none⟩), .agg (mV m pa pk (some pd) ck ha hk), .agg #[.int .i64 i.op, .int .i64 i.a, .string i.cls, .string i.mem], .slice (some ⟨g j,a1B m.locals k,none⟩) k k, .slice (some ⟨g j,0,none⟩) m.locals (m.locals+k), .func (.func 253) #[] #[]] W fun e w'=>e= .returned (.bool (j9 L m i TS TL))∧W.grownBy w' none:=fun W hW=>by
     have hb:=b6F (hT.out.keep hW) hlt hsh (by omega) (htold.out j k hrk);obtain⟨r1,r2⟩:=b8b hb m.locals
     have hfit:=b3M W lim b L p cap m1 m2 m3 q (h.out.keep hW hl) (Nat.le_trans hl hW.size) m pa (some pd) ha pk ck hk i (hP.out.fine i HIC.out.2) (.func (.func 253) #[] #[]) rfl id TS TL (some ⟨g j,a1B m.locals k,none⟩) (some ⟨g j,0,none⟩) k (m.locals+k) W.heap.size (Nat.le_refl _)
      (by
        rw[hTS];by_cases hk0:k=0
        ·intro r hr;rw[hdl]at hr;omega
        ·have:a1B m.locals k=m.locals*2:=by unfold a1B;rw[if_neg hk0]
         rw[this];exact r2) (by rw[hTL];exact r1)
      (by rw[hTS,hdl];have:=hroom.2.2;have:=hP.out.st;omega) (by rw[hTL,htl];omega) (by rw[hTS,hdl];exact Nat.le_refl _) (by rw[hTS,hdl];exact hroom.2.2) (by have:=hP.out.st;omega) (by omega)
      (fun x hx=>by
        have hxo:E3 L x:=by
         rcases hx with hx|hx
         ·exact hok x (List.mem_of_mem_drop (by rw[hTS]at hx;exact hx))
         ·exact hok x (List.mem_of_mem_take (by rw[hTL]at hx;exact hx))
        refine⟨h.out.tySize hxo,fun e5=> ?_,fun W2 _=>b4E W2 x⟩;have h8:=hxo.2;have e5':x.kind=5:=e5;rw[if_neg (by omega)]at h8;exact h8)
      (fun e2=>by
        rw[hTL,htl];have h9:=a4r (hP.out.cok.need j hlt) (hP.out.ok _ (a4A hlt)) (.inl (by rw[←HIC.out.1];exact e2));rw[←HIC.out.1]at h9;exact h9)
     rw[List.map_id,List.map_id]at hfit;have e1:TS.length=k:=by rw[hTS,hdl]
     have e2:TL.length=m.locals:=by rw[hTL,htl]
     rw[e1,e2]at hfit;exact hfit
    obtain⟨fv,hfv⟩:∃fv,fv=j9 L m i TS TL:=⟨_,rfl⟩
    rw[←hfv]at hFT;have HFT:=A0 hFT;have HFV:Hid (fv=j9 L m (A8 m j) ((N5 s.ts j).drop m.locals) ((N5 s.ts j).take m.locals)):=by unfold Hid;rw[hfv,hTS,hTL,←HIC.out.1]
    clear hkp hIR hIR2 hEA hTA hrk hroom hsh hTl hdl htl hok hFT hfv hTS hTL;go_upto_region 6 with(first|(go_at_call 193;go_loud (refine HIR.out.mono ?_;rintro e w5 ⟨rfl,rfl⟩))|(go_at_call 199;go_loud (refine HPA.out.mono ?_;rintro e w4 ⟨rfl,hg4⟩)))
    have hbx:=(A3.new wr #[.int .i64 i.op, .int .i64 i.a, .string i.cls, .string i.mem] 120).keep hg4 A7;have HG4:=A0 (A1 HGA.out hg4);have c1:=(hT.out.keep HG4.out).blk.c1;have c0:=(hT.out.keep HG4.out).blk.c0;have hE4:=hE.out.keep HG4.out;have k0:=hE4.meth 0 _ rfl;have k1:=hE4.meth 1 _ rfl;have k2:=hE4.meth 2 _ rfl;have k3:=hE4.meth 3 _ rfl;have k4:=hE4.meth 4 _ rfl;have k5:=hE4.meth 5 _ rfl;have k6:=hE4.meth 6 _ rfl;have k7:=hE4.meth 7 _ rfl;have x0:=hbx.cell 0 _ rfl;have x1:=hbx.cell 1 _ rfl;have x2:=hbx.cell 2 _ rfl;have x3:=hbx.cell 3 _ rfl;clear hg4 hbx hE4;refine wp_region_held_drew (S:=(fun w'=>w4.grownBy w' none)) (by kernel_rfl) (B8 w4 none) (fun hHeld=> ?_);refine A4 0 ?_;refine A4 1 ?_;refine A4 2 ?_;refine wpAnyH_take (i:=3) (v:= ?v5) rfl (by kernel_rfl) (by kernel_rfl) (by kernel_rfl) (fun _ _ _ h=>h) (Or.inl ⟨by rfl,?h5⟩) (by assumption) ?r5
    case h5=>
     intro w5 hSw;try dsimp only at hSw
     have q0:=hSw.cell c1 A7;go_simp
     try with_reducible rfl
    try simp only[Act.put,lz]
    refine A4 4 ?_;refine A4 5 ?_;refine A4 6 ?_;refine wpAnyH_take (i:=7) (v:= ?v9) rfl (by kernel_rfl) (by kernel_rfl) (by kernel_rfl) (fun _ _ _ h=>h) (Or.inl ⟨by rfl,?h9⟩) (by assumption) ?r9
    case h9=>
     intro w5 hSw;try dsimp only at hSw
     have q0:=hSw.cell c0 A7;go_simp
     try with_reducible rfl
    try simp only[Act.put,lz]
    refine A4 8 ?_;refine A4 9 ?_;refine wpAnyH_take (i:=10) (v:= .agg (mV m pa pk (some pd) ck ha hk)) rfl (by kernel_rfl) (by kernel_rfl) (by kernel_rfl) (fun _ _ _ h=>h) (Or.inl ⟨by rfl,?h12⟩) (by assumption) ?r12
    case h12=>
     intro w5 hSw;try dsimp only at hSw
     have q0:=hSw.cell k0 A7;have q1:=hSw.cell k1 A7;have q2:=hSw.cell k2 A7;have q3:=hSw.cell k3 A7;have q4:=hSw.cell k4 A7;have q5:=hSw.cell k5 A7;have q6:=hSw.cell k6 A7;have q7:=hSw.cell k7 A7;go_simp
     try with_reducible rfl
    try simp only[Act.put,lz]
    refine wpAnyH_take (i:=11) (v:= .agg #[.int .i64 i.op, .int .i64 i.a, .string i.cls, .string i.mem]) rfl (by kernel_rfl) (by kernel_rfl) (by kernel_rfl) (fun _ _ _ h=>h) (Or.inl ⟨by rfl,?h13⟩) (by assumption) ?r13
    case h13=>
     intro w5 hSw;try dsimp only at hSw
     have q0:=hSw.cell x0 A7;have q1:=hSw.cell x1 A7;have q2:=hSw.cell x2 A7;have q3:=hSw.cell x3 A7;go_simp
     try with_reducible rfl
    try simp only[Act.put,lz]
    refine A4 12 ?_;refine A4 13 ?_;refine wpAnyH_ready (rs:=[14]) (by kernel_rfl) (by simp) ?_;refine AllReadyH.cons rfl (fun K hK=> ?_) AllReadyH.nil;go_simp
    go_wp2_with (go_at_call 252;go_loud (refine(HFT.out _ (A1 HG4.out (B8 _ none))).mono ?_;rintro e w6 ⟨rfl,hg6⟩))
    refine hK.out _ _ ?_ (fun hHeld=> ?_)
    case refine_1=>exact A1 (B8 w4 none) hg6
    try clear hK K
    try simp only[Act.put,lz]
    refine A4 15 ?_;refine wpAnyH_done (by kernel_rfl) ?_ _;have hG6:=A1 (A1 HG4.out (B8 w4 none)) hg6;cases fv with
    |true=>
     go_wp2_with fail
     go_roundw
     case rel=>exact⟨j+1,by first|rfl|go_num,by omega,hG6,fun a k' ha hr=>by
      by_cases e:a=j
      ·subst e;exact HFV.out.symm
      ·exact HALL.out a k' (by omega) hr⟩
     case measure=>first|omega|(go_num;omega)|(simp[intOf];omega)
    |false=>
     go_wp2_with fail
     exact bodyPost_ret (v:= .tuple #[.int .i64 j, .bool true]) (by simp[results,Tryz.results166,go_sem]) rfl ⟨j,true,rfl,hG6, .inl ⟨rfl,hlt,k,HRK.out,HFV.out.symm,HALL.out⟩⟩
  ·have hjn:j=m.code.length:=by omega
   have HALL2:=A0 (fun a k hr=>HALL.out a k (by rw[hjn];exact(hP.out.room hr).2.1) hr);clear HALL;subst hjn;go_wp2_with fail
   exact bodyPost_ret (v:= .tuple #[.int .i64 0, .bool false]) (by simp[results,Tryz.results166,go_sem]) rfl ⟨0,false,rfl,HG.out, .inr ⟨rfl,rfl,HALL2.out⟩⟩
end Kx
end Go.Proofs.YtdhophglnhcjbaaGreatDoor
