/- P10: a part of the proof that the last text tells. -/
import Derived.Test.YtdhophglnhcjbaaGreatDoorP09
import Derived.Test.YtdhophglnhcjbaaGreatDoorP07
import Derived.Deep.Cut
set_option linter.all false
set_option maxRecDepth 100000
set_option maxHeartbeats 40000000
open Go.Proofs.Tryz
namespace Go.Proofs.YtdhophglnhcjbaaGreatDoor
section
theorem c7n{P:Prop}(h:P:=by
 intro w5 hSw;try dsimp only at hSw
 obtain⟨q0,q1⟩:=hSw;exact a6v):P:=h
theorem c6o{P:Prop}(h:P:=by
 have e1:decide (((k:Nat):Int)≠-1)=true:=decide_eq_true (by omega);dsimp only at hIR;rw[e1]at hIR;exact hIR):P:=h
theorem c7f{P:Prop}(h:P:=by
 rw[List.getD_eq_getElem?_getD,List.getElem?_eq_getElem hj];exact List.getElem_mem hj):P:=h
theorem c7g{P:Prop}(h:P:=by
 rw[List.getD_eq_getElem?_getD,List.getElem?_eq_getElem h2];exact List.getElem_mem h2):P:=h
end
section
namespace Cf
variable {c:ByteArray}
variable {m:Me}
theorem c0n(h:0<m.locals):(P2 c m).take 1=[(0,0,D7 c)]:=by
 unfold P2;obtain⟨n,hn⟩:∃n,m.locals=n+1:=⟨m.locals-1,by omega⟩
 rw[hn,List.range_succ_eq_map];simp[a1n]
theorem b0C(c:ByteArray)(m:Me)(k:Nat):(a1n c m).getD (k+1) B1=m.params.getD k B1:=by
 unfold a1n;rw[List.getD_cons_succ,List.getD_eq_getElem?_getD,List.getD_eq_getElem?_getD,List.getElem?_append];split
 ·rfl
 ·rename_i h;rw[List.getElem?_eq_none (by omega:m.params.length≤k),List.getElem?_replicate];split<;>rfl
variable {a j k low:Nat}
theorem b8A(h:k+1<m.locals):(P2 c m).take (k+2)=(P2 c m).take (k+1)++ [(0,k+1,m.params.getD k B1)]:=by
 have hl:k+1<(P2 c m).length:=by unfold P2;simpa using h
 rw[List.take_succ_eq_append_getElem hl];have e:(P2 c m)[k+1]'hl=(0,k+1,(a1n c m).getD (k+1) B1):=by simp[P2]
 rw[e,b0C]
theorem c0o(c:ByteArray)(m:Me):(P2 c m).take m.locals=P2 c m:=List.take_of_length_le (by unfold P2;simp)
theorem b8C(h:0<m.locals):(0,0,D7 c)∈P2 c m:=List.mem_map.2 ⟨0,List.mem_range.2 h,rfl⟩
theorem b8B(h:k+1<m.locals):(0,k+1,m.params.getD k B1)∈P2 c m:=List.mem_map.2 ⟨k+1,List.mem_range.2 h,by rw[b0C]⟩
def fxH(m:Me)(a k:Nat):List (Nat×Nat×Ty):=((m.handlers.take k).filter fun d=>a0C d a).map fun d=>(d.at_,m.locals,D7 d.cls)
def a7E(l:List Cl)(m:Me)(a low k:Nat):List (Nat×Nat×Ty):=if((C6 l (A6 m a)).getD k B1).kind=0 then []else(G4 (A6 m a) a).map fun x=>(x,low+k,(C6 l (A6 m a)).getD k B1)
def e8(l:List Cl)(m:Me)(a low k:Nat):List (Nat×Nat×Ty):=fxH m a m.handlers.length++(List.range k).flatMap (a7E l m a low)
def fxN(l:List Cl)(m:Me)(a low k j:Nat):List (Nat×Nat×Ty):=e8 l m a low k++((G4 (A6 m a) a).take j).map fun x=>(x,low+k,(C6 l (A6 m a)).getD k B1)
theorem b8u(l:List Cl)(m:Me)(a low:Nat):P6 l m a low=e8 l m a low (C6 l (A6 m a)).length:=by
 unfold P6 e8 fxH;rw[List.take_length];rfl
theorem c0c(l:List Cl)(m:Me)(a low:Nat):e8 l m a low 0=fxH m a m.handlers.length:=by unfold e8;simp
theorem b2a(l:List Cl)(m:Me)(a low k:Nat):e8 l m a low (k+1)=e8 l m a low k++a7E l m a low k:=by
 unfold e8;rw[List.range_succ,List.flatMap_append,List.append_assoc];simp
variable {l:List Cl}
theorem c0d(h:((C6 l (A6 m a)).getD k B1).kind=0):e8 l m a low (k+1)=e8 l m a low k:=by
 rw[b2a];unfold a7E;rw[if_pos h,List.append_nil]
theorem c0e(l:List Cl)(m:Me)(a low k:Nat):fxN l m a low k 0=e8 l m a low k:=by unfold fxN;simp
theorem c0f(hj:j<(G4 (A6 m a) a).length):fxN l m a low k (j+1)=fxN l m a low k j++ [((G4 (A6 m a) a).getD j 0,low+k,(C6 l (A6 m a)).getD k B1)]:=by
 unfold fxN;rw[List.take_succ_eq_append_getElem hj,List.map_append,List.append_assoc];simp[hj]
theorem c1v(h:¬((C6 l (A6 m a)).getD k B1).kind=0):fxN l m a low k (G4 (A6 m a) a).length=e8 l m a low (k+1):=by
 rw[b2a];unfold fxN a7E;rw[if_neg h,List.take_length]
theorem c2H(k:Nat):∀x∈fxH m a k,x∈P6 l m a low:=fun x hx=>by
 unfold fxH at hx;obtain⟨d,hd,rfl⟩:=List.mem_map.1 hx;obtain⟨h1,h2⟩:=List.mem_filter.1 hd;unfold P6;exact List.mem_append_left _ (List.mem_map.2 ⟨d,List.mem_filter.2 ⟨List.mem_of_mem_take h1,h2⟩,rfl⟩)
theorem c2F(hk:k≤(C6 l (A6 m a)).length):∀x∈e8 l m a low k,x∈P6 l m a low:=fun x hx=>by
 unfold e8 at hx;rcases List.mem_append.1 hx with hx|hx
 ·exact c2H _ x hx
 ·obtain⟨j,hj,hx⟩:=List.mem_flatMap.1 hx;unfold P6;exact List.mem_append_right _ (List.mem_flatMap.2 ⟨j,List.mem_range.2 (by have:=List.mem_range.1 hj;omega),hx⟩)
theorem c2E(hk:k<(C6 l (A6 m a)).length)(h:¬((C6 l (A6 m a)).getD k B1).kind=0)(hj:j<(G4 (A6 m a) a).length):((G4 (A6 m a) a).getD j 0,low+k,(C6 l (A6 m a)).getD k B1)∈P6 l m a low:=by
 unfold P6;refine List.mem_append_right _ (List.mem_flatMap.2 ⟨k,List.mem_range.2 hk,?_⟩);rw[if_neg h];refine List.mem_map.2 ⟨(G4 (A6 m a) a).getD j 0,?_,rfl⟩;exact c7f
theorem c2G(hk:k<(C6 l (A6 m a)).length)(h:¬((C6 l (A6 m a)).getD k B1).kind=0):∀x∈fxN l m a low k j,x∈P6 l m a low:=fun x hx=>by
 unfold fxN at hx;rcases List.mem_append.1 hx with hx|hx
 ·exact c2F (Nat.le_of_lt hk) x hx
 ·obtain⟨y,hy,rfl⟩:=List.mem_map.1 hx;unfold P6;refine List.mem_append_right _ (List.mem_flatMap.2 ⟨k,List.mem_range.2 hk,?_⟩);rw[if_neg h];exact List.mem_map.2 ⟨y,List.mem_of_mem_take hy,rfl⟩
end Cf
open Go.RowKit Go.Shelf Cf
namespace Kx
theorem b8z(L:List Cl)(c:ByteArray)(m:Me)(ht:Nat→Option Nat)(hP:Hid (PE L c m ht))(w0:World)(lim b:Nat)(p:Addr)(cap m1 m2 m3:Nat)(q:Nat→Qs)(h:Hid (Lk w0 lim b L p cap m1 m2 m3 q))(hl:lim≤w0.heap.size)(pa ca ha:Option Addr)(pk ck hk bw eg hg:Nat)(hE:Hid (TyE w0 lim L m pa pk ca ck ha hk bw eg hg ht))(t tg:Nat)(g:Nat→Nat)(w:World)(s0:Ps)(hT:Hid (F1 w0 w w [] t bw b tg g m.code.length L s0 []))(hs0:Hid (M7 L c m s0))(hmu:S9 L s0≤8000000000000):
 Calls prog 192 #[.pointer (some ⟨t,0,none⟩), .string c] w fun e w'=>e= .returned (.tuple #[])∧F1 w0 w w' [] t bw b tg g m.code.length L s0 (P2 c m):=by
 have hcm:=hP.out.wld.ent_comes hP.out.cok hP.out.has hP.out.pars;have HRS:=A0 (F1.raise hP.out w0 lim b p cap m1 m2 m3 q h.out hl t bw tg g s0 hs0.out hmu (P2 c m) hcm);have hl1:0<m.locals:=by have:=hP.out.cok.locals;omega
 have hlo:=hP.out.lo;have hpl:m.params.length<m.locals:=by have:=hP.out.cok.locals;omega
 have HI0:Hid ((0,0,D7 c)∈P2 c m):=b8C hl1;have HL1:=A0 hl1;clear hcm hl1;go_enter func192,ntmps192;go_wp2_with (first|(go_at_call 267;go_loud (refine(a1T _ _).mono ?_;rintro e w1 ⟨rfl,hg1⟩))|(go_at_call 266;go_loud (refine(HRS.out w w1 [] [] (hT.out.keep hg1) (fun y hy=>by cases hy) (0,0,D7 c) HI0.out).mono ?_;rintro e w2 ⟨rfl,hR2⟩)))
 go_loopw [4] (fun v W=>∃k:Nat,v= .int .i64 ((k:Int)+1)∧k+1≤m.locals∧F1 w0 w W [] t bw b tg g m.code.length L s0 ((P2 c m).take (k+1))) (fun v _=>m.locals-(intOf v).toNat)
 case atStart=>exact⟨0,rfl,by have:=HL1.out;omega,by rw[c0n HL1.out];exact hR2⟩
 case round=>
  obtain⟨k,rfl,hk,hR⟩:=hrel;have HR:=A0 hR;clear hR;have zt:=HR.out.t0;have z5:=(hE.out.keep HR.out.gb).meth 5 _ rfl;have z1:=(hE.out.keep HR.out.gb).meth 1 _ rfl;have lt:t<wr.heap.size:=block_lt_of_cell zt;have lbw:bw<wr.heap.size:=block_lt_of_cell z5;by_cases hlt:k+1<m.locals
  ·have hltI:(k:Int)+1<(m.locals:Int):=by omega
   obtain⟨T,hTy⟩:∃T,T=m.params.getD k B1:=⟨_,rfl⟩
   have HIN:Hid ((0,k+1,T)∈P2 c m):=by rw[hTy];exact b8B hlt
   have HSU:Hid ((P2 c m).take (k+2)=(P2 c m).take (k+1)++ [(0,k+1,T)]):=by rw[hTy];exact b8A hlt
   have HPRE:Hid (∀y∈(P2 c m).take (k+1),y∈P2 c m):=fun y hy=>List.mem_of_mem_take hy
   by_cases hkp:k<m.params.length
   ·have hkpI:(k:Int)+1≤(m.params.length:Int):=by omega
    have hkpJ:(k:Int)<(m.params.length:Int):=by omega
    obtain⟨pd,hpd,-,hcd⟩:=(hE.out.keep HR.out.gb).par k hkp;have hTe:m.params[k]=T:=by rw[hTy];simp[hkp]
    rw[hTe]at hcd;have HPD:=A0 hpd;rw[hpd]at z1;have y0:wr.cell? (pd.add (k*2))=some (.int .i64 T.kind):=hcd 0 _ rfl;have y1:wr.cell? ⟨(pd.add (k*2)).block,(pd.add (k*2)).off+1,none⟩=some (.string T.name):=by rw[C0 pd (k*2) 0];exact hcd 1 _ rfl
    have lpd:=block_lt_of_cell y0;clear hcd hTe hTy hpd;go_wp2_with (go_at_call 266;go_loud (refine(HRS.out w _ [] _ (HR.out.keep (A2 _ _ none)) HPRE.out (0,k+1,T) HIN.out).mono ?_;rintro e w2 ⟨rfl,hR2⟩))
    go_roundw
    case rel=>exact⟨k+1,by first|rfl|go_num,by omega,by rw[HSU.out];exact hR2⟩
    case measure=>exact a1g
   ·have hkpI:¬(k:Int)+1≤(m.params.length:Int):=by omega
    have hTn:T=B1:=by rw[hTy];simp[Nat.le_of_not_lt hkp]
    subst hTn;clear hTy;go_wp2_with (go_at_call 266;go_loud (refine(HRS.out w _ [] _ (HR.out.keep (A2 _ _ none)) HPRE.out (0,k+1,B1) HIN.out).mono ?_;rintro e w2 ⟨rfl,hR2⟩))
    go_roundw
    case rel=>exact⟨k+1,by first|rfl|go_num,by omega,by rw[HSU.out];exact hR2⟩
    case measure=>exact a1g
  ·have hkn:k+1=m.locals:=by omega
   have HFN:Hid (F1 w0 w wr [] t bw b tg g m.code.length L s0 (P2 c m)):=by have:=HR.out;rw[hkn,c0o]at this;exact this
   have hltI:¬(k:Int)+1<(m.locals:Int):=by omega
   clear hkn;go_wp2_with fail
   go_end0;exact⟨rfl,HFN.out⟩
variable {V W W' w w0:World}
variable {Bs:List Nat}
variable {a b base bw j k n t tg:Nat}
variable {g:Nat→Nat}
variable {L:List Cl}
variable {s s1:Ps}
variable {pre:List (Nat×Nat×Ty)}
theorem F1.free{V':World}(h:F1 w0 V W Bs t bw b tg g n L s1 pre):F1 w0 V' W [] t bw b tg g n L s1 pre:=by
 obtain⟨ra,rk,hM,hG,-⟩:=h;exact⟨ra,rk,hM,hG,fun k hk=>by cases hk⟩
theorem b4S(L:List Cl)(c:ByteArray)(m:Me)(ht:Nat→Option Nat)(hP:Hid (PE L c m ht))(w0:World)(lim b:Nat)(p:Addr)(cap m1 m2 m3:Nat)(q:Nat→Qs)(h:Hid (Lk w0 lim b L p cap m1 m2 m3 q))(hl:lim≤w0.heap.size)(pa ca ha:Option Addr)(pk ck hk bw eg hg:Nat)(hE:Hid (TyE w0 lim L m pa pk ca ck ha hk bw eg hg ht))(t tg:Nat)(g:Nat→Nat)(w:World)(s0:Ps)(hT:Hid (F1 w0 w w [] t bw b tg g m.code.length L s0 []))(hs0:Hid (M7 L c m s0))(hmu:S9 L s0≤8000000000000)(a k:Nat)(hak:Hid (a<m.code.length∧ht a=some k)):
 Calls prog 194 #[.pointer (some ⟨t,0,none⟩), .int .i64 a] w fun e w'=>e= .returned (.tuple #[])∧F1 w0 w w' [] t bw b tg g m.code.length L s0 (P6 L m a (E4 L m a k)):=by
 have hkr:=(hP.out.hts a k hak.out.1).1 hak.out.2;have hroom:=hP.out.room hkr;obtain⟨lw,hlw⟩:∃lw,lw=E4 L m a k:=⟨_,rfl⟩
 have hcm:=hP.out.wld.fixed_comes (c:=c) hP.out.tyw hP.out.cok hP.out.ok hP.out.hok hkr;rw[←hlw]at hcm⊢;have HRS:=A0 (F1.raise hP.out w0 lim b p cap m1 m2 m3 q h.out hl t bw tg g s0 hs0.out hmu (P6 L m a lw) hcm)
 have HLW:Hid (∀(W:World) (pre:List (Nat×Nat×Ty)) {V:World} {Bs:List Nat},F1 w0 V W Bs t bw b tg g m.code.length L s0 pre→Calls prog 269 #[.pointer (some ⟨t,0,none⟩), .int .i64 a] W fun e w'=>e= .returned (.int .i64 (lw:Nat))∧W.grownBy w' none):=fun W pre V Bs hR=>by
  rw[hlw];exact b0O W lim L c m pa pk ca ck ha hk bw eg hg ht hP (hE.out.keep hR.gb) t hR.t0 a k hak.out.1 hak.out.2
 have hlwb:lw≤510:=by rw[hlw];unfold E4;have:=hP.out.lo;have:=hP.out.st;omega
 have hpnb:(C6 L (A6 m a)).length≤255:=by
  have h1:=hP.out.hok.room a k hkr;unfold j6 at h1;simp only[Bool.and_eq_true,decide_eq_true_eq]at h1;have:=hP.out.st;have h3:(C6 L (A6 m a)).length=M6 L (A6 m a):=rfl;omega
 obtain⟨ta,tk,ua,uk,-,e2,e3⟩:=hE.out.eff a hak.out.1;have HEF:Hid (w0.cell? ⟨eg,a*3+1,none⟩=some (.slice ua (C6 L (A6 m a)).length uk)∧B8 w0 w0.heap.size 2 C9 ua (C6 L (A6 m a))):=⟨e2,e3⟩
 obtain⟨pn,hpn⟩:∃pn,pn=(C6 L (A6 m a)).length:=⟨_,rfl⟩
 have HPN:=A0 hpn;rw[←hpn]at hpnb;have hnh:=hP.out.nh;have hnc:=hP.out.nc;have haI:(a:Int)<(m.code.length:Int):=by have:=hak.out.1;omega
 have c0:=hT.out.t0;have c7:=(hE.out.keep hT.out.gb).meth 7 _ rfl;clear hkr hroom hlw hcm e2 e3 hpn;go_enter func194,ntmps194;go_wp2_with fail
 go_loopw [19] (fun v W=>∃jj:Nat,v= .int .i64 jj∧jj≤m.handlers.length∧F1 w0 w W [] t bw b tg g m.code.length L s0 (fxH m a jj)) (fun v _=>m.handlers.length-(intOf v).toNat)
 case atStart=>exact⟨0,rfl,Nat.zero_le _,hT.out⟩
 case round=>
  obtain⟨jj,rfl,hjj,hR⟩:=hrel;have HR:=A0 hR;clear hR c0 c7;by_cases hlt:jj<m.handlers.length
  ·exact absurd hlt (by have:=hP.out.nh;omega)
  ·have hjn:jj=m.handlers.length:=by omega
   have HR2:Hid (F1 w0 w wr [] t bw b tg g m.code.length L s0 (e8 L m a lw 0)):=by rw[c0c,←hjn];exact HR.out
   clear HR;subst hjn;have zt:=HR2.out.t0;have z8:=(hE.out.keep HR2.out.gb).c8;have ze:wr.cell? ⟨eg,a*3+1,none⟩=some (.slice ua pn uk):=by rw[HPN.out];exact HR2.out.gb.cell HEF.out.1 A5
   go_wp2_with fail
   generalize wr=wq at HR2⊢;clear zt z8 ze;go_loopw [54] (fun v W=>∃kk:Nat,v= .int .i64 kk∧kk≤pn∧F1 w0 w W [] t bw b tg g m.code.length L s0 (e8 L m a lw kk)) (fun v _=>pn-(intOf v).toNat)
   case atStart=>exact⟨0,rfl,Nat.zero_le _,HR2.out⟩
   case round=>
    obtain⟨kk,rfl,hkk,hR⟩:=hrel;have HR:=A0 hR;clear hR;by_cases hlt:kk<pn
    ·have hltp:kk<(C6 L (A6 m a)).length:=by rw[←HPN.out];exact hlt
     obtain⟨pd,hpd,hpl,hcd⟩:=(HEF.out.2.keep HR.out.gb) kk hltp;obtain⟨T,hTd⟩:∃T,T=(C6 L (A6 m a)).getD kk B1:=⟨_,rfl⟩
     have hTe:(C6 L (A6 m a))[kk]=T:=by rw[hTd];simp[hltp]
     rw[hTe]at hcd;have HTD:Hid (T=(C6 L (A6 m a)).getD kk B1∧kk<(C6 L (A6 m a)).length):=⟨hTd,hltp⟩
     subst hpd;have y0:wr.cell? (pd.add (kk*2))=some (.int .i64 T.kind):=hcd 0 _ rfl;have y1:wr.cell? ⟨(pd.add (kk*2)).block,(pd.add (kk*2)).off+1,none⟩=some (.string T.name):=by rw[C0 pd (kk*2) 0];exact hcd 1 _ rfl
     have hkI:(kk:Int)<(pn:Int):=by omega
     clear hTe hTd hltp hcd hpl;by_cases hT0:T.kind=0
     ·have hT0b:((T.kind:Int)==0)=true:=by rw[beq_iff_eq];omega
      have HSK:Hid (e8 L m a lw (kk+1)=e8 L m a lw kk):=c0d (by rw[←HTD.out.1];exact hT0);clear hT0;go_wp2_with fail
      go_roundw
      case rel=>exact⟨kk+1,by first|rfl|go_num,by omega,by rw[HSK.out];exact HR.out.keep (A2 _ _ none)⟩
      case measure=>exact a1g
     ·have hT0b:((T.kind:Int)==0)=false:=by rw[beq_eq_false_iff_ne];omega
      have HTK:Hid (¬((C6 L (A6 m a)).getD kk B1).kind=0):=by rw[←HTD.out.1];exact hT0
      clear hT0;obtain⟨pc,hpc,-,hci⟩:=(hE.out.keep HR.out.gb).code a hak.out.1;obtain⟨i,hi⟩:∃i,i=A6 m a:=⟨_,rfl⟩
      have hcm:m.code[a]'hak.out.1=i:=by rw[hi];unfold A6;simp[hak.out.1]
      rw[hcm]at hci;have HIE:=A0 hi;have zt:=HR.out.t0;have c6:wr.cell? ⟨bw,6,none⟩=some (.slice (some pc) m.code.length ck):=by rw[←hpc];exact(hE.out.keep HR.out.gb).meth 6 _ rfl
      have x0:wr.cell? (pc.add (a*4))=some (.int .i64 i.op):=hci 0 _ rfl;have x1:wr.cell? ⟨(pc.add (a*4)).block,(pc.add (a*4)).off+1,none⟩=some (.int .i64 i.a):=by rw[C0 pc (a*4) 0];exact hci 1 _ rfl
      have x2:wr.cell? ⟨(pc.add (a*4)).block,(pc.add (a*4)).off+2,none⟩=some (.string i.cls):=by rw[C0 pc (a*4) 1];exact hci 2 _ rfl
      have x3:wr.cell? ⟨(pc.add (a*4)).block,(pc.add (a*4)).off+3,none⟩=some (.string i.mem):=by rw[C0 pc (a*4) 2];exact hci 3 _ rfl
      have ltt:t<wr.heap.size:=block_lt_of_cell zt;have lbw:bw<wr.heap.size:=block_lt_of_cell c6;have lpc:=block_lt_of_cell x0;have hio:P0 i:=by rw[hi];exact hP.out.ok _ (a4K hak.out.1)
      have hioa:12≤i.op→i.op≤15→0≤i.a:=fun h1 _=>hio.2 (by omega)
      obtain⟨gl,hgl⟩:∃gl,gl=G4 i a:=⟨_,rfl⟩
      have HNXT:Hid (∀W,Calls prog 268 #[.agg #[.int .i64 i.op, .int .i64 i.a, .string i.cls, .string i.mem], .int .i64 a] W fun e w'=>W.grownBy w' none∧∃v,e= .returned v∧w'.ownsRow W.heap.size 3 1 v gl.length (gl.flatMap j7)):=fun W=>by
       rw[hgl];exact a8X W i a (by have:=hak.out.1;omega) hioa
      have HGL:Hid (gl=G4 (A6 m a) a):=by rw[←HIE.out];exact hgl
      obtain⟨nl,hnl⟩:∃nl,nl=gl.length:=⟨_,rfl⟩
      have HNL:=A0 hnl;have hnl2:nl≤2:=by rw[hnl,hgl];exact a9b _ _
      rw[←hnl]at HNXT;clear hio hioa hgl hnl hci hcm hi hpc;go_wp2_with (go_at_call 268;go_loud (refine(HNXT.out _).mono ?_;rintro e w6 ⟨hg6,v6,rfl,ho6⟩;obtain⟨a6,k6,rfl⟩:=F0 ho6))
      have hb7:A3 (wr.alloc (.cells #[.int .i64 T.kind, .string T.name] 98)) wr.heap.size #[.int .i64 T.kind, .string T.name] 98:=A3.new wr _ _;have hR6a:=HR.out.more (A2 _ _ none) (Nat.le_refl _) hb7.lt;obtain⟨Bs,hBs⟩:∃Bs,Bs=(Value.slice a6 nl k6).ownBlock.toList++ [wr.heap.size]:=⟨_,rfl⟩
      have HR6:Hid (F1 w0 w6 w6 Bs t bw b tg g m.code.length L s0 (fxN L m a lw kk 0)):=by rw[c0e,hBs];exact hR6a.moreO hg6 ho6
      have HV6:Hid (w6.cell? ⟨wr.heap.size,0,none⟩=some (.int .i64 T.kind)∧w6.cell? ⟨wr.heap.size,1,none⟩=some (.string T.name)):=⟨hg6.cell (hb7.cell 0 _ rfl) (by simp),hg6.cell (hb7.cell 1 _ rfl) (by simp)⟩
      have HBB:Hid (wr.heap.size∈Bs):=by rw[hBs];exact List.mem_append_right _ (by simp)
      obtain⟨Z6,hZ6⟩:∃Z6,Z6=(wr.alloc (.cells #[.int .i64 T.kind, .string T.name] 98)).heap.size:=⟨_,rfl⟩
      have HO6:Hid (w6.ownsRow Z6 3 1 (.slice a6 nl k6) nl (gl.flatMap j7)∧∀k,(Value.slice a6 nl k6).ownBlock=some k→k∈Bs):=⟨by rw[hZ6];exact ho6,fun k hk=>by rw[hBs,hk];simp⟩
      clear hZ6 hBs hg6 ho6 hb7 hR6a x0 x1 x2 x3 zt c6 ltt lbw lpc y0 y1;generalize wr.heap.size=B7 at HV6 HBB⊢;go_loopw [76] (fun v W=>∃jj:Nat,v= .int .i64 jj∧jj≤nl∧F1 w0 w6 W Bs t bw b tg g m.code.length L s0 (fxN L m a lw kk jj)) (fun v _=>nl-(intOf v).toNat)
      case atStart=>exact⟨0,rfl,Nat.zero_le _,HR6.out⟩
      case round=>
       clear HR;obtain⟨jj,rfl,hjj,hR⟩:=hrel;have HR:=A0 hR;clear hR;by_cases hlt3:jj<nl
       ·have hjl:jj<gl.length:=by rw[←HNL.out];exact hlt3
        have hown:=HR.out.row HO6.out.1 HO6.out.2;obtain⟨g5,c5,hg5e,-,hg5l⟩:=hown.form (by omega);injection hg5e with hg5e hg5n hg5k
        clear hg5n;subst hg5k;obtain⟨x,hx⟩:∃x,x=gl.getD jj 0:=⟨_,rfl⟩
        have hgj:wr.cell? ⟨g5,jj,none⟩=some (.int .i64 x):=by
         exact a5o
        have HX:Hid (x=(G4 (A6 m a) a).getD jj 0):=by unfold Hid;rw[hx,HGL.out]
        have HJN:Hid (jj<(G4 (A6 m a) a).length):=by unfold Hid;rw[←HGL.out];exact hjl
        have HSUC:Hid (fxN L m a lw kk (jj+1)=fxN L m a lw kk jj++ [(x,lw+kk,T)]):=by
         have:=c0f (l:=L) (low:=lw) (k:=kk) HJN.out;rw[←HX.out,←HTD.out.1]at this;exact this
        have HIN:Hid ((x,lw+kk,T)∈P6 L m a lw):=by
         have:=c2E (low:=lw) HTD.out.2 HTK.out HJN.out;rw[←HX.out,←HTD.out.1]at this;exact this
        have HPRE:Hid (∀y∈fxN L m a lw kk jj,y∈P6 L m a lw):=c2G HTD.out.2 HTK.out;have z70:=HR.out.cell HBB.out HV6.out.1;have z71:=HR.out.cell HBB.out HV6.out.2;have hjI:(jj:Int)<(nl:Int):=by omega
        have HRQ:Hid (∀W8,F1 w0 w6 W8 Bs t bw b tg g m.code.length L s0 (fxN L m a lw kk jj)→Calls prog 266 #[.pointer (some ⟨t,0,none⟩), .int .i64 x, .int .i64 ((lw:Int)+(kk:Int)), .agg #[.int .i64 T.kind, .string T.name]] W8 fun e w'=>e= .returned (.tuple #[])∧F1 w0 w6 w' Bs t bw b tg g m.code.length L s0 (fxN L m a lw kk jj++ [(x,lw+kk,T)])):=fun W8 hW8=>by
         have h9:=HRS.out w6 W8 Bs _ hW8 HPRE.out (x,lw+kk,T) HIN.out;have e9:=Int.natCast_add lw kk;rw[←e9];exact h9
        have HWR:Hid (IntKind.i64.wrap ((lw:Int)+(kk:Int))=(lw:Int)+(kk:Int)):=IntWalk.i64_in _ (by omega);clear hown hjl hx hg5l;subst hg5e;go_upto_region 13 with fail
        refine wp_region_held_drew (S:=(fun w'=>w'.cell? ⟨B7,0,none⟩=some (.int .i64 T.kind)∧w'.cell? ⟨B7,1,none⟩=some (.string T.name))) (by kernel_rfl) (⟨z70,z71⟩) (fun hHeld=> ?_);refine A4 0 ?_;refine A4 1 ?_;refine A4 2 ?_;refine A4 3 ?_;refine A4 5 ?_;refine tkT 7 (v:= .agg #[.int .i64 T.kind, .string T.name]) (hv:= .inl ⟨by rfl,?h21⟩) (k:= ?r21)
        case h21=>
         exact c7n
        try simp only[Act.put,lz]
        refine T6 4 fun K hK=> ?_;go_simp
        go_wp2_with (go_at_call 269;go_loud (refine(HLW.out _ _ (HR.out.keep (B6 wr none))).mono ?_;rintro e w8 ⟨rfl,hg8⟩))
        refine hK.out _ _ ?_ (fun hHeld=> ?_)
        case refine_1=>exact⟨hg8.cell z70 A5,hg8.cell z71 A5⟩
        try clear hK K
        try simp only[Act.put,lz]
        refine tkT 6 (v:= .int .i64 ((lw:Int)+(kk:Int))) (hv:= .inl ⟨by rfl,?h22⟩) (k:= ?r22)
        case h22=>(intro w hSw;(try dsimp only at hSw);go_simp;(try rw[HWR.out]);try with_reducible rfl)
        try simp only[Act.put,lz]
        refine T6 8 fun K hK=> ?_;go_simp
        go_wp2_with (go_at_call 266;go_loud (refine(HRQ.out w8 ((HR.out.keep (B6 _ none)).keep hg8)).mono ?_;rintro e w9 ⟨rfl,hR9⟩))
        refine hK.out _ _ ?_ (fun hHeld=> ?_)
        case refine_1=>exact⟨hR9.cell HBB.out HV6.out.1,hR9.cell HBB.out HV6.out.2⟩
        try clear hK K
        try simp only[Act.put,lz]
        refine wpAnyH_done (by kernel_rfl) ?_ _;go_wp2_with fail
        go_roundw
        case rel=>exact⟨jj+1,by first|rfl|go_num,by omega,by rw[HSUC.out];exact hR9⟩
        case measure=>exact a1g
       ·have hjn:jj=nl:=by omega
        have HFN:Hid (F1 w0 w wr [] t bw b tg g m.code.length L s0 (e8 L m a lw (kk+1))):=by
         have:=HR.out;rw[hjn,HNL.out,HGL.out,c1v HTK.out]at this;exact this.free
        clear HR;subst hjn;go_wp2_with fail
        go_roundw
        case rel=>exact⟨kk+1,by first|rfl|go_num,by omega,HFN.out⟩
        case measure=>exact a1g
    ·have hkn:kk=pn:=by omega
     have HFN:Hid (F1 w0 w wr [] t bw b tg g m.code.length L s0 (P6 L m a lw)):=by rw[b8u,←HPN.out,←hkn];exact HR.out
     clear HR;subst hkn;go_wp2_with fail
     go_end0;exact⟨rfl,HFN.out⟩
theorem b0e(w:World)(t bw hg n a:Nat)(x:Int)(c0:w.cell? ⟨t,0,none⟩=some (.pointer (some ⟨bw,0,none⟩)))(c9:w.cell? ⟨bw,9,none⟩=some (.slice (some ⟨hg,0,none⟩) n n))
 (cx:w.cell? ⟨hg,a,none⟩=some (.int .i64 x)) (ha:a<n):
 Calls prog 193 #[.pointer (some ⟨t,0,none⟩), .int .i64 a] w fun e w'=>e= .returned (.bool (decide (x≠-1)))∧w'=w:=by
 have haI:(a:Int)<(n:Int):=by omega
 by_cases hx1:x= -1
 ·subst hx1;go_enter func193,ntmps193;go_wp2_with fail
  go_ret;exact⟨rfl,rfl⟩
 ·have hx2:=beq_eq_false_iff_ne.2 hx1;have hx3:decide (x≠-1)=true:=decide_eq_true hx1;rw[hx3];have hx4:(x != -1)=true:=by rw[bne,hx2];rfl
  go_enter func193,ntmps193;go_wp2_with fail
  go_ret;exact⟨by rw[←hx4];rfl,rfl⟩
def b8(ht:Nat→Option Nat)(j a:Nat):Option Nat:=if a<j then ht a else none
theorem b9V(ht:Nat→Option Nat):b8 ht 0=fun _=>none:=by
 funext a;unfold b8;rw[if_neg (by omega)]
variable {ht:Nat→Option Nat}
theorem b9W(h:ht j=none):b8 ht (j+1)=b8 ht j:=by
 funext a
 unfold b8;by_cases e:a=j
 ·subst e;rw[h];simp
 ·by_cases e2:a<j
  ·rw[if_pos (by omega),if_pos e2]
  ·rw[if_neg (by omega),if_neg e2]
variable {m:Me}
theorem c0X:K4 m (b8 ht m.code.length)=K4 m ht:=by
 unfold K4;congr 1
 apply List.map_congr_left;intro a ha;have:=List.mem_range.1 ha;unfold b8;rw[if_pos this]
theorem a9r(m:Me)(ht:Nat→Option Nat)(ha:a<m.code.length)(j:Nat):(K4 m (b8 ht j)).ts.getD a []=if a<j then(match ht a with|none=> []|some h=>List.replicate (m.locals+h) none)else []:=by
 rw[a3V m _ ha];unfold b8;by_cases e:a<j
 ·rw[if_pos e,if_pos e];cases ht a<;>rfl
 ·rw[if_neg e,if_neg e]
theorem b9v(m:Me)(g:Nat→Nat):(List.range m.code.length).map (a1a g (K4 m (fun _=>none)).ts)=List.replicate m.code.length (.slice none 0 0):=by
 apply List.ext_getElem
 ·simp
 ·intro a h1 h2;have ha:a<m.code.length:=by simpa using h1
  simp only[List.getElem_map,List.getElem_range,List.getElem_replicate];unfold a1a;rw[a3V m _ ha];simp
theorem b9C(n:Nat):(madeCells (Value.slice none 0 0).cells (n*1)).toList=List.replicate n (Value.slice none 0 0):=by
 exact c6y
theorem G5.newrow{w':World}{gn:Nat}(h:G5 w base t bw b tg g m.code.length (K4 m (b8 ht j)) none 0)(hg:w.grownBy w' none)(hb:base≤w.heap.size)
 (hj:j<m.code.length) (hk:ht j=some k) (hl:0<m.locals)
 (hrow:w'.ownsRow w.heap.size 98 2 (.slice (some ⟨gn,0,none⟩) (m.locals+k) (m.locals+k)) (m.locals+k) (C8 (m.locals+k) [.int .i64 (-1), .string ⟨#[]⟩])):
 G5 (w'.setCell ⟨tg,j,none⟩ (.slice (some ⟨gn,0,none⟩) (m.locals+k) (m.locals+k))) base t bw b tg (fun a=>if a=j then gn else g a) m.code.length (K4 m (b8 ht (j+1))) none 0:=by
 obtain⟨hbn,hgn⟩:=a3Y hrow;have hK:=h.keep hg;have hs:=A9 w' ⟨tg,j,none⟩ (.slice (some ⟨gn,0,none⟩) (m.locals+k) (m.locals+k));have hlt:=hbn.lt;have htyp:=hK.types.set j (.slice (some ⟨gn,0,none⟩) (m.locals+k) (m.locals+k))
 have hrl:∀a,a<m.code.length→a≠j→(K4 m (b8 ht (j+1))).ts.getD a []=(K4 m (b8 ht j)).ts.getD a []:=fun a ha hne=>by
  rw[a9r m ht ha,a9r m ht ha];by_cases e:a<j
  ·rw[if_pos (by omega),if_pos e]
  ·rw[if_neg (by omega),if_neg e]
 have hrj:(K4 m (b8 ht (j+1))).ts.getD j []=List.replicate (m.locals+k) none:=by
  rw[a9r m ht hj,if_pos (by omega),hk]
 have hnew:∀a,a<m.code.length→(((K4 m (b8 ht j)).ts.getD a []).length≠0)→g a≠gn:=fun a ha hne e=>by
  have:=(h.rows a ha hne).lt;omega
 refine⟨hK.blk.keep hs (fun e=>K6 hK.blk hK.types (by decide) (Option.some.inj e)),?_,fun a ha hne=> ?_,⟨rfl, .inl ⟨rfl,rfl⟩⟩,fun a c ha hc h1 h2 he=> ?_,⟨h.low.1,h.low.2.1,fun a ha=> ?_⟩⟩
 ·have e:(((List.range m.code.length).map (a1a g (K4 m (b8 ht j)).ts)).toArray.setIfInBounds j (.slice (some ⟨gn,0,none⟩) (m.locals+k) (m.locals+k)))=((List.range m.code.length).map (a1a (fun a=>if a=j then gn else g a) (K4 m (b8 ht (j+1))).ts)).toArray:=by
   rw[List.setIfInBounds_toArray];congr 1
   apply List.ext_getElem
   ·simp
   ·intro a h1 h2;have ha:a<m.code.length:=by simpa using h2
    rw[List.getElem_set];simp only[List.getElem_map,List.getElem_range];by_cases e:a=j
    ·subst e;rw[if_pos rfl];unfold a1a;rw[hrj];simp only[List.length_replicate];rw[if_neg (by omega)];simp
    ·rw[if_neg (fun e2=>e e2.symm)];unfold a1a;rw[hrl a ha e];simp[e]
  rw[e]at htyp;exact htyp
 ·try dsimp only
  by_cases e:a=j
  ·subst e;rw[if_pos rfl,hrj];have e2:(List.replicate (m.locals+k) (none:Option Ty)).flatMap a1G=C8 (m.locals+k) [.int .i64 (-1), .string ⟨#[]⟩]:=(b5A a1G (m.locals+k) none).symm;rw[e2];exact hbn.keep hs (fun e3=>K6 hbn hK.types (by decide) (Option.some.inj e3))
  ·rw[if_neg e];rw[hrl a ha e]at hne⊢;exact(hK.rows a ha hne).keep hs (fun e3=>K6 (hK.rows a ha hne) hK.types (by decide) (Option.some.inj e3))
 ·try dsimp only at he
  by_cases e1:a=j
  ·by_cases e2:c=j
   ·rw[e1,e2]
   ·rw[if_pos e1,if_neg e2]at he;rw[hrl c hc e2]at h2;exact absurd he.symm (hnew c hc h2)
  ·by_cases e2:c=j
   ·rw[if_neg e1,if_pos e2]at he;rw[hrl a ha e1]at h1;exact absurd he (hnew a ha h1)
   ·rw[if_neg e1,if_neg e2]at he;rw[hrl a ha e1]at h1;rw[hrl c hc e2]at h2;exact h.d2 a c ha hc h1 h2 he
 ·try dsimp only
  by_cases e:a=j
  ·rw[if_pos e];exact⟨Nat.le_trans hb hgn,Nat.lt_of_lt_of_le hlt hs.size⟩
  ·rw[if_neg e];exact⟨(hK.low.2.2 a ha).1,Nat.lt_of_lt_of_le (hK.low.2.2 a ha).2 hs.size⟩
structure TdI(w0 W:World)(t bw b tg:Nat)(g:Nat→Nat)(L:List Cl)(c:ByteArray)(m:Me)(s:Ps)(j:Nat):Prop where
 fl:F1 w0 w0 W [] t bw b tg g m.code.length L s []
 ok:M7 L c m s
 gone:a0k L m s none
 mu:S9 L s≤8000000000000
 ent:∀p∈P2 c m,U6 L s.ts p
 fix:∀a k,a<j→Cf.F9 L m a k→∀p∈P6 L m a (E4 L m a k),U6 L s.ts p
theorem F1.fold(h:F1 w0 V W Bs t bw b tg g n L s1 pre):F1 w0 V W Bs t bw b tg g n L (pre.foldl (N0 L) s1) []:=h
variable {c:ByteArray}
theorem PE.raises(hP:PE L c m ht)(ho:M7 L c m s)(hg:a0k L m s none){ps:List (Nat×Nat×Ty)}(hv:∀p∈ps,a0D L c m p):
 M7 L c m (ps.foldl (N0 L) s)∧a0k L m (ps.foldl (N0 L) s) none∧S9 L (ps.foldl (N0 L) s)≤S9 L s∧(∀p∈ps,U6 L (ps.foldl (N0 L) s).ts p)∧∀p:Nat×Nat×Ty,D6 L p.2.2→U6 L s.ts p→U6 L (ps.foldl (N0 L) s).ts p:=by
 obtain⟨k1,k2,k3⟩:=hP.wld.psRaises_ok ps ho hv;exact⟨k1,hP.wld.psGone_all hP.tyw hP.cok hP.ok hP.hok ho hg ps hv,k2.mu,k3,fun p hp hs=>hP.wld.satS_rises ho.snd k1.snd k2.up hp hs⟩
theorem PE.entTy(hP:PE L c m ht):∀p∈P2 c m,a0D L c m p:=hP.wld.ent_comes hP.cok hP.has hP.pars
theorem PE.fixTy(hP:PE L c m ht)(hr:Cf.F9 L m a k):∀p∈P6 L m a (E4 L m a k),a0D L c m p:=hP.wld.fixed_comes hP.tyw hP.cok hP.ok hP.hok hr
theorem TdI.put(hP:PE L c m ht)(h:TdI w0 W t bw b tg g L c m s j)(hr:Cf.F9 L m j k)(hF:F1 w0 V W' [] t bw b tg g m.code.length L s (P6 L m j (E4 L m j k))):
 TdI w0 W' t bw b tg g L c m ((P6 L m j (E4 L m j k)).foldl (N0 L) s) (j+1):=by
 obtain⟨k1,k2,k3,k4,k5⟩:=hP.raises h.ok h.gone (hP.fixTy hr);refine⟨hF.free.fold,k1,k2,Nat.le_trans k3 h.mu,fun p hp=>k5 p (hP.entTy p hp).ok (h.ent p hp),fun a k' ha hr' p hp=> ?_⟩;by_cases e:a=j
 ·subst e;have:=hP.hok.one _ _ _ hr hr';subst this;exact k4 p hp
 ·exact k5 p (hP.fixTy hr' p hp).ok (h.fix a k' (by omega) hr' p hp)
theorem TdI.skip(h:TdI w0 W t bw b tg g L c m s j)(hr:∀k,¬Cf.F9 L m j k):TdI w0 W t bw b tg g L c m s (j+1):=
 ⟨h.fl,h.ok,h.gone,h.mu,h.ent,fun a k ha hr' p hp=>by
  by_cases e:a=j
  ·subst e;exact absurd hr' (hr k)
  ·exact h.fix a k (by omega) hr' p hp⟩
def b3v(w w':World)(bw b:Nat)(L:List Cl)(c:ByteArray)(m:Me)(e:Ending):Prop:=
 ∃(t tg:Nat) (g:Nat→Nat) (s:Ps) (ra:Option Addr) (rk:Nat),e= .returned (.pointer (some ⟨t,0,none⟩))∧G5 w' w.heap.size t bw b tg g m.code.length s ra rk∧M7 L c m s∧a4S L c m (N1 s.ts)∧
  (∀a k,Cf.F9 L m a k→∀j,j<m.locals+k→∃u,tq s.ts a j=some (some u))∧w.grownBy w' none
variable {ra:Option Addr}
theorem c0K(hP:PE L c m ht){s0:Ps}(h:TdI w0 w t bw b tg g L c m s0 m.code.length){rk K:Nat}(hF:FlI w0 W' t bw b tg g L c m s0 s ra rk K)(hz:s.ris=[]):b3v w0 W' bw b L c m (.returned (.pointer (some ⟨t,0,none⟩))):=by
 have key:=fun(p:Nat×Nat×Ty) (hp:D6 L p.2.2) (hs:U6 L s0.ts p)=>hP.wld.satS_rises h.ok.snd hF.ok.snd hF.up hp hs
 obtain⟨h1,h2⟩:=hP.wld.ps_end hP.tyw hP.cok hP.ok hP.hok hF.ok hF.gone hz (fun p hp=>key p (hP.entTy p hp).ok (h.ent p hp)) (fun a k hr p hp=>key p (hP.fixTy hr p hp).ok (h.fix a k (a1V hP.cok hP.ok hr).1 hr p hp));exact⟨t,tg,g,s,ra,rk,rfl,hF.mem,hF.ok,h1,h2,hF.gb⟩
theorem b9R:(prog.info? 96).map (fun i=>(i.zero,i.size,i.bytes))=some (some (.slice none 0 0),1,24):=by kernel_rfl
variable {v:Value}
theorem c1a{base':Nat}{e:TypeId}{sz:Nat}{xs:List Value}(h:w.ownsRow base e sz v n xs)(hb:base'≤base):w.ownsRow base' e sz v n xs:=by
 refine⟨h.1,?_⟩;rcases h.2 with h1|⟨g,cap,cur,hv,hg,h2⟩
 ·exact .inl h1
 ·exact .inr ⟨g,cap,cur,hv,Nat.le_trans hb hg,h2⟩
theorem b7z(L:List Cl)(c:ByteArray)(m:Me)(ht:Nat→Option Nat)(hP:Hid (PE L c m ht))(w:World)(lim b:Nat)(p:Addr)(cap m1 m2 m3:Nat)(q:Nat→Qs)(h:Hid (Lk w lim b L p cap m1 m2 m3 q))(hl:lim≤w.heap.size)(pa ca ha:Option Addr)(pk ck hk bw eg hg:Nat)(hE:Hid (TyE w lim L m pa pk ca ck ha hk bw eg hg ht)):
 Calls prog 127 #[.pointer (some ⟨b,0,none⟩), .string c, .pointer (some ⟨bw,0,none⟩)] w fun e w'=>b3v w w' bw b L c m e:=by
 have hnc:=hP.out.nc;have hlo:=hP.out.lo;have HL0:Hid (0<m.locals):=by have:=hP.out.cok.locals;unfold Hid;omega
 have HPS:Hid (M7 L c m (K4 m ht)∧a0k L m (K4 m ht) none∧S9 L (K4 m ht)≤8000000000000):=⟨c2g hP.out.cok hP.out.ok hP.out.hts,b9p L m ht,hP.out.mu0⟩
 have c9:=hE.out.c9;have lbw:bw<w.heap.size:=block_lt_of_cell c9;obtain⟨inf,ii0,iz0,iz1,iz2⟩:=info_parts b9R;go_enter func127,ntmps127;go_upto_region 2 with(at_make;go_loud (refine wpList_make_full _ rfl _ _ 183 rfl w.heap.size 96 inf _ 1 underlying183 ii0 iz0 iz1 .i64 .i64 (m.code.length:Int) (m.code.length:Int) m.code.length rfl rfl rfl rfl (by rw[iz2];omega) (by unfold maxLen;omega) (Nat.le_refl _) ?_;intro w1 ho1 hg1;dsimp only))
 obtain⟨tg,htg⟩:∃tg,tg=w.heap.size:=⟨_,rfl⟩
 have HBS:Hid (w.heap.size≤tg):=by unfold Hid;omega
 obtain⟨t,htt⟩:∃t,t=w1.heap.size:=⟨_,rfl⟩
 obtain⟨hbt,hbl⟩:=a3Y ho1;have hb2:A3 (w1.alloc (.cells #[.pointer (some ⟨bw,0,none⟩), .pointer (some ⟨b,0,none⟩), .slice (some ⟨w.heap.size,0,none⟩) m.code.length m.code.length, .slice none 0 0] 311)) t #[.pointer (some ⟨bw,0,none⟩), .pointer (some ⟨b,0,none⟩), .slice (some ⟨w.heap.size,0,none⟩) m.code.length m.code.length, .slice none 0 0] 311:=by rw[htt];exact A3.new w1 _ _
 have hG2:w.grownBy (w1.alloc (.cells #[.pointer (some ⟨bw,0,none⟩), .pointer (some ⟨b,0,none⟩), .slice (some ⟨w.heap.size,0,none⟩) m.code.length m.code.length, .slice none 0 0] 311)) none:=A1 hg1 (A2 _ _ none);have hbt2:=hbt.keep (A2 w1 (.cells #[.pointer (some ⟨bw,0,none⟩), .pointer (some ⟨b,0,none⟩), .slice (some ⟨w.heap.size,0,none⟩) m.code.length m.code.length, .slice none 0 0] 311) none) A5;rw[←htt];rw[←htg]at hb2 hG2 hbt2⊢;generalize w1.alloc (.cells #[.pointer (some ⟨bw,0,none⟩), .pointer (some ⟨b,0,none⟩), .slice (some ⟨tg,0,none⟩) m.code.length m.code.length, .slice none 0 0] 311)=W2 at hb2 hG2 hbt2⊢
 have HT0:Hid (G5 W2 w.heap.size t bw b tg (fun _=>t) m.code.length (K4 m (b8 ht 0)) none 0):=by
  rw[b9V];refine⟨hb2,?_,fun a ha hne=> ?_,⟨rfl, .inl ⟨rfl,rfl⟩⟩,fun a c ha hc h1=> ?_,⟨by rw[htt];exact hg1.size,HBS.out,fun a ha=>⟨by rw[htt];exact hg1.size,hb2.lt⟩⟩⟩
  ·rw[b9v];have e:=b9C m.code.length;rw[e]at hbt2;exact hbt2
  ·rw[a3V m _ ha]at hne;simp at hne
  ·rw[a3V m _ ha]at h1;simp at h1
 have HG0:=A0 hG2;clear hb2 hG2 hbt2 hbt hbl ho1 hg1 htt htg;have c9b:=HG0.out.cell c9 A5;go_wp2_with fail
 clear c9 c9b lbw;go_loopw [26] (fun v W=>∃(j:Nat) (g:Nat→Nat),v= .int .i64 j∧j≤m.code.length∧G5 W w.heap.size t bw b tg g m.code.length (K4 m (b8 ht j)) none 0∧w.grownBy W none) (fun v _=>m.code.length-(intOf v).toNat)
 case atStart=>exact⟨0,_,rfl,Nat.zero_le _,HT0.out,HG0.out⟩
 case round=>
  obtain⟨j,g,rfl,hj,hTM,hGr⟩:=hrel;have HTM:=A0 hTM;have HG:=A0 hGr;clear hTM hGr;by_cases hlt:j<m.code.length
  ·have hjI:(j:Int)<(m.code.length:Int):=by omega
   have ch:=(hE.out.keep HG.out).hts j hlt;unfold htI at ch;cases hkp:ht j with
   |none=>
    rw[hkp]at ch;dsimp only at ch;have HSK:=A0 (b9W hkp);clear hkp;go_wp2_with fail
    go_roundw
    case rel=>exact⟨j+1,g,by first|rfl|go_num,by omega,by rw[HSK.out];exact HTM.out,HG.out⟩
    case measure=>exact a1g
   |some k=>
    rw[hkp]at ch;dsimp only at ch;have HJ:Hid (j<m.code.length∧ht j=some k):=⟨hlt,hkp⟩
    have hks:=Nat.le_trans (hP.out.hst j k hkp) hP.out.st;have hk1b:((k:Int)== -1)=false:=by rw[beq_eq_false_iff_ne];omega
    have hk1n:¬(k:Int)= -1:=by omega
    have c2:=HTM.out.blk.c2;have z5:=(hE.out.keep HG.out).meth 5 _ rfl;have HBSR:=A0 HG.out.size;have HWR:Hid (IntKind.i64.wrap ((m.locals:Int)+(k:Int))=((m.locals+k:Nat):Int)):=by unfold Hid;rw[IntWalk.i64_in _ (by omega)];exact(Int.natCast_add m.locals k).symm
    clear hkp;go_upto_region 6 with fail
    refine wp_region_held_drew (S:=(fun w'=>w'.cell? ⟨t,2,none⟩=some (.slice (some ⟨tg,0,none⟩) m.code.length m.code.length)∧w'.cell? ⟨bw,5,none⟩=some (.int .i64 m.locals))) (by kernel_rfl) (⟨c2,z5⟩) (fun hHeld=> ?_);refine A4 0 ?_;refine A4 1 ?_;refine A4 2 ?_;refine tkT 3 (v:= ?v5) (hv:= .inl ⟨by rfl,?h5⟩) (k:= ?r5)
    case h5=>
     exact c7n
    try simp only[Act.put,lz]
    refine A4 4 ?_;refine tkT 5 (v:= .agg #[.int .i64 (-1), .string ⟨#[]⟩]) (hv:= .inl ⟨by rfl,?h7⟩) (k:= ?r7)
    case h7=>(intro w hSw;(try dsimp only at hSw);go_simp;try with_reducible rfl)
    try simp only[Act.put,lz]
    refine A4 7 ?_;refine A4 8 ?_;refine A4 9 ?_;refine A4 10 ?_;refine tkT 11 (v:= ?v12) (hv:= .inl ⟨by rfl,?h12⟩) (k:= ?r12)
    case h12=>
     exact c7n
    try simp only[Act.put,lz]
    refine A4 12 ?_;refine tkT 13 (v:= .int .i64 ((m.locals+k:Nat):Int)) (hv:= .inl ⟨by rfl,?h14⟩) (k:= ?r14)
    case h14=>(intro w hSw;(try dsimp only at hSw);go_simp;(try rw[HWR.out]);(try exact Int.natCast_add _ _);try with_reducible rfl)
    try simp only[Act.put,lz]
    refine T6 6 fun K hK=> ?_;go_simp
    have hga:wr.grownBy (wr.drew.alloc (.cells #[.int .i64 (-1), .string ⟨#[]⟩] 98)) none:=A1 (B6 _ _) (A2 _ _ none);have hbs:A3 (wr.drew.alloc (.cells #[.int .i64 (-1), .string ⟨#[]⟩] 98)) wr.drew.heap.size #[.int .i64 (-1), .string ⟨#[]⟩] 98:=A3.new wr.drew _ _;refine hK.out _ _ ?_ (fun hHeld=> ?_)
    case refine_1=>exact⟨hga.cell c2 A5,hga.cell z5 A5⟩
    try clear hK K
    try simp only[Act.put,lz]
    refine T6 14 fun K hK=> ?_;go_simp
    go_wp2_with (go_at_call 191;go_loud (refine(c2b (wr.drew.alloc (.cells #[.int .i64 (-1), .string ⟨#[]⟩] 98)) ⟨wr.drew.heap.size,0,none⟩ (m.locals+k) 1 [.int .i64 (-1), .string ⟨#[]⟩] rfl (fun jj v hv=>S6 wr.drew _ _ jj v hv) (by simp[Value.oneCell']) (by omega)).mono ?_;rintro e w3 ⟨gn,rfl,hrow,hg3⟩))
    have hg4:=A1 hga hg3;refine hK.out _ _ ?_ (fun hHeld=> ?_)
    case refine_1=>exact⟨hg4.cell c2 A5,hg4.cell z5 A5⟩
    try clear hK K
    try simp only[Act.put,lz]
    refine A4 15 ?_;have hTn:=G5.newrow (gn:=gn) (w':=w3) HTM.out hg4 HBSR.out HJ.out.1 HJ.out.2 HL0.out (c1a hrow (by simp));have cj:=(HTM.out.keep hg4).types.frozen j;have ej:=V9 (HTM.out.keep hg4).types j _ (by rw[List.getElem?_map,List.getElem?_range HJ.out.1];rfl);refine T6 16 fun K hK=> ?_;go_simp
    have hgs:=A9 w3 ⟨tg,j,none⟩ (.slice (some ⟨gn,0,none⟩) (m.locals+k) (m.locals+k));have hG9:=D5 (A1 HG.out hg4) hgs (fun k e=>by cases e;exact .inl HTM.out.low.2.1);generalize w3.setCell ⟨tg,j,none⟩ (.slice (some ⟨gn,0,none⟩) (m.locals+k) (m.locals+k))=W9 at hTn hG9⊢;refine hK.out _ _ ?_ (fun hHeld=> ?_)
    case refine_1=>exact⟨hTn.blk.cell 2 _ rfl,(hE.out.keep hG9).meth 5 _ rfl⟩
    try clear hK K
    try simp only[Act.put,lz]
    refine wpAnyH_done (by kernel_rfl) ?_ _;go_wp2_with fail
    go_roundw
    case rel=>exact⟨j+1,_,by first|rfl|go_num,by omega,hTn,hG9⟩
    case measure=>exact a1g
  ·have hjn:j=m.code.length:=by omega
   have HT1:Hid (G5 wr w.heap.size t bw b tg g m.code.length (K4 m ht) none 0):=by have:=HTM.out;rw[hjn,c0X]at this;exact this
   have HF0:Hid (F1 w wr wr [] t bw b tg g m.code.length L (K4 m ht) []):=⟨none,0,HT1.out,HG.out,fun k hk=>by cases hk⟩
   clear HTM;subst hjn;go_upto_region 9 with(first|(go_at_call 192;go_loud (refine(b8z L c m ht hP w lim b p cap m1 m2 m3 q h hl pa ca ha pk ck hk bw eg hg hE t tg g wr (K4 m ht) HF0.out HPS.out.1 HPS.out.2.2).mono ?_;rintro e w4 ⟨rfl,hR4⟩)))
   have HTD:Hid (TdI w w4 t bw b tg g L c m ((P2 c m).foldl (N0 L) (K4 m ht)) 0):=by
    obtain⟨k1,k2,k3,k4,-⟩:=hP.out.raises HPS.out.1 HPS.out.2.1 hP.out.entTy;exact⟨hR4.free.fold,k1,k2,Nat.le_trans k3 HPS.out.2.2,k4,fun a k ha=>absurd ha (Nat.not_lt_zero _)⟩
   have c2:=hR4.choose_spec.choose_spec.1.blk.c2;clear hR4 HF0 HT1 HG;go_wp2_with fail
   clear c2;go_loopw [58] (fun v W=>∃(j:Nat) (s:Ps),v= .int .i64 j∧j≤m.code.length∧TdI w W t bw b tg g L c m s j) (fun v _=>m.code.length-(intOf v).toNat)
   case atStart=>exact⟨0,_,rfl,Nat.zero_le _,HTD.out⟩
   case round=>
    obtain⟨j,s,rfl,hj,hTd⟩:=hrel;have HTD2:=A0 hTd;clear hTd;by_cases hlt:j<m.code.length
    ·have hjI:(j:Int)<(m.code.length:Int):=by omega
     have hE2:=hE.out.keep HTD2.out.fl.gb;have hIR:=b0e wr t bw hg m.code.length j _ HTD2.out.fl.t0 hE2.c9 (hE2.hts j hlt) hlt;unfold htI at hIR;cases hkp:ht j with
     |none=>
      rw[hkp]at hIR;have HIR:Hid (Calls prog 193 #[.pointer (some ⟨t,0,none⟩), .int .i64 j] wr fun e w'=>e= .returned (.bool false)∧w'=wr):=hIR;have HSK:Hid (∀k,¬Cf.F9 L m j k):=fun k hr=>by have:=(hP.out.hts j k hlt).2 hr;rw[hkp]at this;cases this
      clear hkp hIR;go_wp2_with (go_at_call 193;go_loud (refine HIR.out.mono ?_;rintro e w5 ⟨rfl,rfl⟩))
      go_roundw
      case rel=>exact⟨j+1,s,by first|rfl|go_num,by omega,HTD2.out.skip HSK.out⟩
      case measure=>exact a1g
     |some k=>
      rw[hkp]at hIR
      have hIR2:Calls prog 193 #[.pointer (some ⟨t,0,none⟩), .int .i64 j] wr fun e w'=>e= .returned (.bool true)∧w'=wr:=by
       exact c6o
      have HIR:=A0 hIR2
      have HPF:Hid (Calls prog 194 #[.pointer (some ⟨t,0,none⟩), .int .i64 j] wr fun e w'=>e= .returned (.tuple #[])∧F1 w wr w' [] t bw b tg g m.code.length L s (P6 L m j (E4 L m j k))):=
       b4S L c m ht hP w lim b p cap m1 m2 m3 q h hl pa ca ha pk ck hk bw eg hg hE t tg g wr s HTD2.out.fl.free HTD2.out.ok HTD2.out.mu j k ⟨hlt,hkp⟩
      have HRK:=A0 ((hP.out.hts j k hlt).1 hkp);clear hkp hIR hIR2;go_wp2_with (first|(go_at_call 193;go_loud (refine HIR.out.mono ?_;rintro e w5 ⟨rfl,rfl⟩))|(go_at_call 194;go_loud (refine HPF.out.mono ?_;rintro e w6 ⟨rfl,hR6⟩)))
      have HN:=HTD2.out.put hP.out HRK.out hR6;go_roundw
      case rel=>exact⟨j+1,_,by first|rfl|go_num,by omega,HN⟩
      case measure=>exact a1g
    ·have hjn:j=m.code.length:=by omega
     have HTD3:Hid (TdI w wr t bw b tg g L c m s m.code.length):=by rw[←hjn];exact HTD2.out
     clear HTD2 HTD;subst hjn;obtain⟨ra,rk,hM,hGG,-⟩:=HTD3.out.fl
     have HFW:Hid (Calls prog 195 #[.pointer (some ⟨t,0,none⟩)] wr fun e w'=>e= .returned (.tuple #[])∧∃s' ra' rk',FlI w w' t bw b tg g L c m s s' ra' rk' 8000000000000∧s'.ris=[]):=
      c0g L c m ht hP w lim b p cap m1 m2 m3 q h hl pa ca ha pk ck hk bw eg hg hE t tg g wr s ra rk hM HTD3.out.ok HTD3.out.gone HTD3.out.mu hGG
     clear hM hGG;go_wp2_with (go_at_call 195;go_loud (refine HFW.out.mono ?_;rintro e w7 ⟨rfl,s',ra',rk',hFI,hz⟩))
     go_ret;exact c0K hP.out HTD3.out hFI hz
theorem c0U{g:Nat}{xs:List Ty}{t:TypeId}(hb:A3 w g (xs.flatMap C9).toArray t)(n:Nat):B8 w w.heap.size 2 C9 (some ⟨g,0,none⟩) (xs.take n)∧B8 w w.heap.size 2 C9 (some ⟨g,n*2,none⟩) (xs.drop n):=by
 have key:∀j (hj:j<xs.length) r u,(C9 xs[j])[r]? =some u→w.cell? ⟨g,j*2+r,none⟩=some u:=fun j hj r u hu=>by
  have hr:r<2:=(List.getElem?_eq_some_iff.1 hu).1;exact V9 hb _ _ (by rw[a0T C9 2 (fun _=>rfl) xs j hj r hr];exact hu)
 have hadd:∀o k:Nat,(⟨g,o,none⟩:Addr).add k=⟨g,o+k,none⟩:=fun o k=>by
  unfold Addr.add;split
  ·rename_i h;subst h;rfl
  ·rfl
 refine⟨fun j hj=>⟨⟨g,0,none⟩,rfl,hb.lt,fun r u hu=> ?_⟩,fun j hj=>⟨⟨g,n*2,none⟩,rfl,hb.lt,fun r u hu=> ?_⟩⟩
 ·rw[hadd,Nat.zero_add];have hj2:j<xs.length:=by simp at hj;omega
  exact key j hj2 r u (by rw[←hu];simp)
 ·rw[hadd];have hj2:n+j<xs.length:=by simp at hj;omega
  have:=key (n+j) hj2 r u (by rw[←hu];simp);rw[show n*2+(j*2+r)=(n+j)*2+r by omega];exact this
theorem b9b{rk:Nat}(h:G5 w base t bw b tg g n s ra rk){len:Nat}(ha:a<n)(hl:(s.ts.getD a []).length=len)(h0:len≠0)(ht:∀j,j<len→∃u,tq s.ts a j=some (some u)):A3 w (g a) ((N1 s.ts a).flatMap C9).toArray 98:=by
 have hr:=h.rows a ha (by omega)
 have e:(s.ts.getD a []).flatMap a1G=(N1 s.ts a).flatMap C9:=by
  unfold N1;rw[List.flatMap_map]
  have:∀o∈s.ts.getD a [],a1G o=C9 (o.getD B1):=fun o ho=>by
   obtain⟨j,hj,rfl⟩:=List.getElem_of_mem ho;obtain⟨u,hu⟩:=ht j (by omega);unfold tq at hu;rw[List.getElem?_eq_getElem hj]at hu;injection hu with hu
   rw[hu];rfl
  generalize s.ts.getD a []=row at this;induction row with
  |nil=>rfl
  |cons x l ih=>rw[List.flatMap_cons,List.flatMap_cons,this x List.mem_cons_self,ih (fun o ho=>this o (List.mem_cons_of_mem _ ho))]
 rw[e]at hr;exact hr
theorem b6U(w:World)(t:Ty):Calls prog 253 #[.agg #[.int .i64 t.kind, .string t.name]] w fun e w'=>e= .returned (.agg #[.int .i64 t.kind, .string t.name])∧w.grownBy w' none:=by
 have HG:Hid (w.grownBy ((w.alloc (.cells #[.int .i64 t.kind, .string t.name] 98)).alloc (.cells #[.int .i64 t.kind, .string t.name] 98)) none):=A1 (A2 _ _ _) (A2 _ _ _);go_enter func253,ntmps253;go_wp2_with fail
 have hb2:=A3.new (w.alloc (.cells #[.int .i64 t.kind, .string t.name] 98)) #[.int .i64 t.kind, .string t.name] 98;rw[World.size_alloc]at hb2;obtain⟨q0,q1⟩:=hb2.q2;exact bodyPost_ret (v:= .agg #[.int .i64 t.kind, .string t.name]) (by simp[results,results253,go_sem,q0,q1]) rfl ⟨rfl,HG.out⟩
def a2n(lo k:Nat):Nat:=if k=0 then 0 else lo*2
theorem b7U(w:World)(base t bw b tg:Nat)(g:Nat→Nat)(n:Nat)(s:Ps)(ra:Option Addr)(rk:Nat)(hT:Hid (G5 w base t bw b tg g n s ra rk))(lo k:Nat)(z5:w.cell? ⟨bw,5,none⟩=some (.int .i64 lo))(a:Nat)(ha:a<n)(hlen:(s.ts.getD a []).length=lo+k)(hlo:0<lo)(hlo2:lo≤255)(hk:k≤255):
 Calls prog 199 #[.pointer (some ⟨t,0,none⟩), .int .i64 a] w fun e w'=>e= .returned (.tuple #[.slice (some ⟨g a,0,none⟩) lo (lo+k), .slice (some ⟨g a,a2n lo k,none⟩) k k])∧w.grownBy w' none:=by
 have c0:=hT.out.blk.c0;have c2:=hT.out.blk.c2;obtain⟨lr,hlr⟩:∃lr,lr=lo+k:=⟨_,rfl⟩
 have ca:w.cell? ⟨tg,a,none⟩=some (.slice (some ⟨g a,0,none⟩) lr lr):=V9 hT.out.types a _ (by rw[List.getElem?_map,List.getElem?_range ha,Option.map_some];unfold a1a;rw[if_neg (by omega),hlen,hlr]);have haI:(a:Int)<(n:Int):=by omega
 have HLR:=A0 hlr;have hlr1:lo≤lr:=by omega
 have hlr2:lr≤510:=by omega
 have hk2:lr-lo=k:=by omega
 rw[←hlr];by_cases hk0:k=0
 ·have e:lr=lo:=by omega
  have HOF:Hid (a2n lo k=0):=by unfold Hid a2n;rw[if_pos hk0]
  rw[HOF.out];subst hk0;subst e;clear hlr hlen hk2 hlr1 HLR;go_enter func199,ntmps199;go_wp2_with fail
  go_quiet (fail)
  go_wp2_with fail
  all_goals
   go_ret2
   exact⟨rfl,K3 _ _ _⟩
 ·have hne:¬lr=lo:=by omega
  have HOF:Hid (a2n lo k=lo*2):=by unfold Hid a2n;rw[if_neg hk0]
  rw[HOF.out];clear hlr hlen hk0;go_enter func199,ntmps199;go_wp2_with fail
  go_quiet (fail)
  go_wp2_with fail
  all_goals
   go_ret2
   exact⟨rfl,K3 _ _ _⟩
def c3Y(L:List Cl)(m:Me)(T:Nat→List Ty)(w w':World)(e:Ending):Prop:=
 ∃(r:Nat) (bo:Bool),e= .returned (.tuple #[.int .i64 r, .bool bo])∧w.grownBy w' none∧
  ((bo=true∧r<m.code.length∧∃k,Cf.F9 L m r k∧U1 L m (A6 m r) ((T r).drop m.locals) ((T r).take m.locals)=false∧∀a k,a<r→Cf.F9 L m a k→U1 L m (A6 m a) ((T a).drop m.locals) ((T a).take m.locals)=true)∨
    (bo=false∧r=0∧∀a k,Cf.F9 L m a k→U1 L m (A6 m a) ((T a).drop m.locals) ((T a).take m.locals)=true))
theorem b4A(L:List Cl)(c:ByteArray)(m:Me)(ht:Nat→Option Nat)(hP:Hid (PE L c m ht))(w:World)(lim b:Nat)(p:Addr)(cap m1 m2 m3:Nat)(q:Nat→Qs)(h:Hid (Lk w lim b L p cap m1 m2 m3 q))(hl:lim≤w.heap.size)(pa ca ha:Option Addr)(pk ck hk bw eg hg:Nat)(hE:Hid (TyE w lim L m pa pk ca ck ha hk bw eg hg ht))(base t tg:Nat)(g:Nat→Nat)(s:Ps)(ra:Option Addr)(rk:Nat)(hT:Hid (G5 w base t bw b tg g m.code.length s ra rk))(hs:Hid (M7 L c m s))(hIT:Hid (a4S L c m (N1 s.ts)))(htold:Hid (∀a k,Cf.F9 L m a k→∀j,j<m.locals+k→∃u,tq s.ts a j=some (some u))):
 Calls prog 166 #[.pointer (some ⟨t,0,none⟩)] w fun e w'=>c3Y L m (N1 s.ts) w w' e:=by
 have hnc:=hP.out.nc;have hlo:=hP.out.lo;have hl0:0<m.locals:=by have:=hP.out.cok.locals;omega
 have c0:=hT.out.blk.c0;have c6:=hE.out.meth 6 _ rfl;go_enter func166,ntmps166;go_wp2_with fail
 clear c0 c6;go_loopw [17] (fun v W=>∃j:Nat,v= .int .i64 j∧j≤m.code.length∧w.grownBy W none∧∀a k,a<j→Cf.F9 L m a k→U1 L m (A6 m a) ((N1 s.ts a).drop m.locals) ((N1 s.ts a).take m.locals)=true) (fun v _=>m.code.length-(intOf v).toNat)
 case atStart=>exact⟨0,rfl,Nat.zero_le _,I8 _ _,fun a k ha=>absurd ha (Nat.not_lt_zero _)⟩
 case round=>
  obtain⟨j,rfl,hj,hgr,hall⟩:=hrel;have HG:=A0 hgr;have HALL:=A0 hall;clear hgr hall;by_cases hlt:j<m.code.length
  ·obtain⟨pd,hpd,-,hcd⟩:=(hE.out.keep HG.out).code j hlt;obtain⟨i,hi⟩:∃i,i=m.code[j]:=⟨_,rfl⟩
   rw[←hi]at hcd;have HIC:Hid (i=A6 m j∧i∈m.code):=⟨by rw[hi];unfold A6;simp[hlt],by rw[hi];exact List.getElem_mem hlt⟩
   subst hpd;have y0:wr.cell? (pd.add (j*4))=some (.int .i64 i.op):=hcd 0 _ rfl;have y1:wr.cell? ⟨(pd.add (j*4)).block,(pd.add (j*4)).off+1,none⟩=some (.int .i64 i.a):=by rw[C0 pd (j*4) 0];exact hcd 1 _ rfl
   have y2:wr.cell? ⟨(pd.add (j*4)).block,(pd.add (j*4)).off+2,none⟩=some (.string i.cls):=by rw[C0 pd (j*4) 1];exact hcd 2 _ rfl
   have y3:wr.cell? ⟨(pd.add (j*4)).block,(pd.add (j*4)).off+3,none⟩=some (.string i.mem):=by rw[C0 pd (j*4) 2];exact hcd 3 _ rfl
   have hjI:(j:Int)<(m.code.length:Int):=by omega
   have HGA:Hid (w.grownBy (wr.alloc (.cells #[.int .i64 i.op, .int .i64 i.a, .string i.cls, .string i.mem] 120)) none):=A1 HG.out (A2 _ _ none);clear hcd hi;have hEA:=hE.out.keep HGA.out;have hTA:=hT.out.keep HGA.out;have hIR:=b0e (wr.alloc (.cells #[.int .i64 i.op, .int .i64 i.a, .string i.cls, .string i.mem] 120)) t bw hg m.code.length j _ (hTA.blk.cell 0 _ rfl) hEA.c9 (hEA.hts j hlt) hlt;unfold htI at hIR;cases hkp:ht j with
   |none=>
    rw[hkp]at hIR;have HIR:Hid (Calls prog 193 #[.pointer (some ⟨t,0,none⟩), .int .i64 j] (wr.alloc (.cells #[.int .i64 i.op, .int .i64 i.a, .string i.cls, .string i.mem] 120)) fun e w'=>e= .returned (.bool false)∧w'=(wr.alloc (.cells #[.int .i64 i.op, .int .i64 i.a, .string i.cls, .string i.mem] 120))):=hIR;have HSK:Hid (∀k,¬Cf.F9 L m j k):=fun k hr=>by have:=(hP.out.hts j k hlt).2 hr;rw[hkp]at this;cases this
    clear hkp hIR hEA hTA;go_wp2_with (go_at_call 193;go_loud (refine HIR.out.mono ?_;rintro e w5 ⟨rfl,rfl⟩))
    go_roundw
    case rel=>exact⟨j+1,by first|rfl|go_num,by omega,HGA.out,fun a k ha hr=>by
     by_cases e:a=j
     ·subst e;exact absurd hr (HSK.out k)
     ·exact HALL.out a k (by omega) hr⟩
    case measure=>exact a1g
   |some k=>
    rw[hkp]at hIR
    have hIR2:Calls prog 193 #[.pointer (some ⟨t,0,none⟩), .int .i64 j] (wr.alloc (.cells #[.int .i64 i.op, .int .i64 i.a, .string i.cls, .string i.mem] 120)) fun e w'=>e= .returned (.bool true)∧w'=(wr.alloc (.cells #[.int .i64 i.op, .int .i64 i.a, .string i.cls, .string i.mem] 120)):=by
     exact c6o
    have HIR:=A0 hIR2;have hrk:=(hP.out.hts j k hlt).1 hkp;have hroom:=hP.out.room hrk;have hsh:=hs.out.snd.shape j k hrk;have HRK:=A0 hrk
    have HPA:Hid (Calls prog 199 #[.pointer (some ⟨t,0,none⟩), .int .i64 j] (wr.alloc (.cells #[.int .i64 i.op, .int .i64 i.a, .string i.cls, .string i.mem] 120)) fun e w'=>e= .returned (.tuple #[.slice (some ⟨g j,0,none⟩) m.locals (m.locals+k), .slice (some ⟨g j,a2n m.locals k,none⟩) k k])∧(wr.alloc (.cells #[.int .i64 i.op, .int .i64 i.a, .string i.cls, .string i.mem] 120)).grownBy w' none):=
     b7U _ base t bw b tg g m.code.length s ra rk hTA m.locals k (hEA.meth 5 _ rfl) j hlt hsh hl0 hlo (Nat.le_trans hroom.2.2 hP.out.st)
    have hTl:(N1 s.ts j).length=m.locals+k:=by unfold N1;rw[List.length_map];exact hsh
    have hdl:((N1 s.ts j).drop m.locals).length=k:=by rw[List.length_drop,hTl];omega
    have htl:((N1 s.ts j).take m.locals).length=m.locals:=by rw[List.length_take,hTl];omega
    have hok:=hIT.out.sol.ok j k hrk;obtain⟨TS,hTS⟩:∃TS,TS=(N1 s.ts j).drop m.locals:=⟨_,rfl⟩
    obtain⟨TL,hTL⟩:∃TL,TL=(N1 s.ts j).take m.locals:=⟨_,rfl⟩
    have hFT:∀W,w.grownBy W none→Calls prog 252 #[.pointer (some ⟨b,0,none⟩), .agg (mV m pa pk (some pd) ck ha hk), .agg #[.int .i64 i.op, .int .i64 i.a, .string i.cls, .string i.mem], .slice (some ⟨g j,a2n m.locals k,none⟩) k k, .slice (some ⟨g j,0,none⟩) m.locals (m.locals+k), .func (.func 253) #[] #[]] W fun e w'=>e= .returned (.bool (U1 L m i TS TL))∧W.grownBy w' none:=fun W hW=>by
     have hb:=b9b (hT.out.keep hW) hlt hsh (by omega) (htold.out j k hrk);obtain⟨r1,r2⟩:=c0U hb m.locals
     have hfit:=b5W W lim b L p cap m1 m2 m3 q (h.out.keep hW hl) (Nat.le_trans hl hW.size) m pa (some pd) ha pk ck hk i (hP.out.fine i HIC.out.2) (.func (.func 253) #[] #[]) rfl id TS TL (some ⟨g j,a2n m.locals k,none⟩) (some ⟨g j,0,none⟩) k (m.locals+k) W.heap.size (Nat.le_refl _)
      (by
        rw[hTS];by_cases hk0:k=0
        ·intro r hr;rw[hdl]at hr;omega
        ·have:a2n m.locals k=m.locals*2:=by unfold a2n;rw[if_neg hk0]
         rw[this];exact r2) (by rw[hTL];exact r1)
      (by rw[hTS,hdl];have:=hroom.2.2;have:=hP.out.st;omega) (by rw[hTL,htl];omega) (by rw[hTS,hdl];exact Nat.le_refl _) (by rw[hTS,hdl];exact hroom.2.2) (by have:=hP.out.st;omega) (by omega)
      (fun x hx=>by
        have hxo:D6 L x:=by
         rcases hx with hx|hx
         ·exact hok x (List.mem_of_mem_drop (by rw[hTS]at hx;exact hx))
         ·exact hok x (List.mem_of_mem_take (by rw[hTL]at hx;exact hx))
        refine⟨h.out.tySize hxo,fun e5=> ?_,fun W2 _=>b6U W2 x⟩;have h8:=hxo.2;have e5':x.kind=5:=e5;rw[if_neg (by omega)]at h8;exact h8)
      (fun e2=>by
        rw[hTL,htl];have h9:=a5x (hP.out.cok.need j hlt) (hP.out.ok _ (a4K hlt)) (.inl (by rw[←HIC.out.1];exact e2));rw[←HIC.out.1]at h9;exact h9)
     rw[List.map_id,List.map_id]at hfit;have e1:TS.length=k:=by rw[hTS,hdl]
     have e2:TL.length=m.locals:=by rw[hTL,htl]
     rw[e1,e2]at hfit;exact hfit
    obtain⟨fv,hfv⟩:∃fv,fv=U1 L m i TS TL:=⟨_,rfl⟩
    rw[←hfv]at hFT;have HFT:=A0 hFT;have HFV:Hid (fv=U1 L m (A6 m j) ((N1 s.ts j).drop m.locals) ((N1 s.ts j).take m.locals)):=by unfold Hid;rw[hfv,hTS,hTL,←HIC.out.1]
    clear hkp hIR hIR2 hEA hTA hrk hroom hsh hTl hdl htl hok hFT hfv hTS hTL;go_upto_region 6 with(first|(go_at_call 193;go_loud (refine HIR.out.mono ?_;rintro e w5 ⟨rfl,rfl⟩))|(go_at_call 199;go_loud (refine HPA.out.mono ?_;rintro e w4 ⟨rfl,hg4⟩)))
    have hbx:=(A3.new wr #[.int .i64 i.op, .int .i64 i.a, .string i.cls, .string i.mem] 120).keep hg4 A5;have HG4:=A0 (A1 HGA.out hg4);have c1:=(hT.out.keep HG4.out).blk.c1;have c0:=(hT.out.keep HG4.out).blk.c0;have hE4:=hE.out.keep HG4.out;have k0:=hE4.meth 0 _ rfl;have k1:=hE4.meth 1 _ rfl;have k2:=hE4.meth 2 _ rfl;have k3:=hE4.meth 3 _ rfl;have k4:=hE4.meth 4 _ rfl;have k5:=hE4.meth 5 _ rfl;have k6:=hE4.meth 6 _ rfl;have k7:=hE4.meth 7 _ rfl;obtain⟨x0,x1,x2,x3⟩:=hbx.q4;clear hg4 hbx hE4;refine wp_region_held_drew (S:=(fun w'=>w4.grownBy w' none)) (by kernel_rfl) (B6 w4 none) (fun hHeld=> ?_);refine A4 0 ?_;refine A4 1 ?_;refine A4 2 ?_;refine tkT 3 (v:= ?v5) (hv:= .inl ⟨by rfl,?h5⟩) (k:= ?r5)
    case h5=>
     intro w5 hSw;try dsimp only at hSw
     have q0:=hSw.cell c1 A5;exact a6v
    try simp only[Act.put,lz]
    refine A4 4 ?_;refine A4 5 ?_;refine A4 6 ?_;refine tkT 7 (v:= ?v9) (hv:= .inl ⟨by rfl,?h9⟩) (k:= ?r9)
    case h9=>
     intro w5 hSw;try dsimp only at hSw
     have q0:=hSw.cell c0 A5;exact a6v
    try simp only[Act.put,lz]
    refine A4 8 ?_;refine A4 9 ?_;refine tkT 10 (v:= .agg (mV m pa pk (some pd) ck ha hk)) (hv:= .inl ⟨by rfl,?h12⟩) (k:= ?r12)
    case h12=>
     intro w5 hSw;try dsimp only at hSw
     have q0:=hSw.cell k0 A5;have q1:=hSw.cell k1 A5;have q2:=hSw.cell k2 A5;have q3:=hSw.cell k3 A5;have q4:=hSw.cell k4 A5;have q5:=hSw.cell k5 A5;have q6:=hSw.cell k6 A5;have q7:=hSw.cell k7 A5;exact a6v
    try simp only[Act.put,lz]
    refine tkT 11 (v:= .agg #[.int .i64 i.op, .int .i64 i.a, .string i.cls, .string i.mem]) (hv:= .inl ⟨by rfl,?h13⟩) (k:= ?r13)
    case h13=>
     intro w5 hSw;try dsimp only at hSw
     have q0:=hSw.cell x0 A5;have q1:=hSw.cell x1 A5;have q2:=hSw.cell x2 A5;have q3:=hSw.cell x3 A5;exact a6v
    try simp only[Act.put,lz]
    refine A4 12 ?_;refine A4 13 ?_;refine T6 14 fun K hK=> ?_;go_simp
    go_wp2_with (go_at_call 252;go_loud (refine(HFT.out _ (A1 HG4.out (B6 _ none))).mono ?_;rintro e w6 ⟨rfl,hg6⟩))
    refine hK.out _ _ ?_ (fun hHeld=> ?_)
    case refine_1=>exact A1 (B6 w4 none) hg6
    try clear hK K
    try simp only[Act.put,lz]
    refine A4 15 ?_;refine wpAnyH_done (by kernel_rfl) ?_ _;have hG6:=A1 (A1 HG4.out (B6 w4 none)) hg6;cases fv with
    |true=>
     go_wp2_with fail
     go_roundw
     case rel=>exact⟨j+1,by first|rfl|go_num,by omega,hG6,fun a k' ha hr=>by
      by_cases e:a=j
      ·subst e;exact HFV.out.symm
      ·exact HALL.out a k' (by omega) hr⟩
     case measure=>exact a1g
    |false=>
     go_wp2_with fail
     exact bodyPost_ret (v:= .tuple #[.int .i64 j, .bool true]) (by simp[results,results166,go_sem]) rfl ⟨j,true,rfl,hG6, .inl ⟨rfl,hlt,k,HRK.out,HFV.out.symm,HALL.out⟩⟩
  ·have hjn:j=m.code.length:=by omega
   have HALL2:=A0 (fun a k hr=>HALL.out a k (by rw[hjn];exact(hP.out.room hr).2.1) hr);clear HALL;subst hjn;go_wp2_with fail
   exact bodyPost_ret (v:= .tuple #[.int .i64 0, .bool false]) (by simp[results,results166,go_sem]) rfl ⟨0,false,rfl,HG.out, .inr ⟨rfl,rfl,HALL2.out⟩⟩
structure MeC(L:List Cl)(c:ByteArray)(m:Me):Prop where
 wld:B9 L
 tyw:o4 L
 code:∀i∈m.code,i.cls.size≤maxLen∧i.mem.size≤maxLen∧P0 i
 few:∀i,(a0V L i).params.length≤1000
 hand:∀d∈m.handlers,d.cls.size≤maxLen
 two:∀i∈m.code,Op2 i
 has:G3 L c=true
 pars:∀p∈m.params,D6 L p
 nc:m.code.length≤65535
 np:m.params.length≤255
 nh:m.handlers.length≤0
 st:m.stack≤255
 lo:m.locals≤255
 nl:L.length≤65536
theorem MeC.fine(h:MeC L c m)(hco:R0 L m):∀i∈m.code,a1D L i:=fun i hi=>by
 obtain⟨h1,h2,h3⟩:=h.code i hi;have ht:=h.two i hi;exact⟨⟨h1,h2,fun e=>(by rcases ht with h|h<;>omega),by have:=h.few i;omega,ht⟩,h.few _,h3⟩
def htS(s:Wk)(a:Nat):Option Nat:=if s.heights.getD a (-1)= -1 then none else some (s.heights.getD a (-1)).toNat
theorem c3q{s:Wk}(hs:U3 L m s)(a:Nat):htI (htS s) a=s.heights.getD a (-1):=by
 unfold htI htS;by_cases e:s.heights.getD a (-1)= -1
 ·rw[if_pos e];exact e.symm
 ·rw[if_neg e];obtain⟨h,h1,-⟩:=hs.some_ a e;rw[h1];simp
theorem c0H(h:MeC L c m)(hco:R0 L m)(hfi:∀i∈m.code,a1D L i)(hhk:a0w L m){s:Wk}(hs:U3 L m s)(hse:∀a k,sq s.seen a k=true↔Cf.F9 L m a k):PE L c m (htS s):=by
 have key:∀a k,htS s a=some k↔Cf.F9 L m a k:=fun a k=>by
  constructor
  ·intro e;unfold htS at e;split at e
   ·cases e
   ·rename_i hne;obtain⟨k2,h1,h2⟩:=hs.some_ a hne;rw[h1]at e;injection e with e
    have:k2=k:=by simpa using e
    subst this;exact(hse a k2).1 h2
  ·intro hr;have hq:=(hse a k).2 hr;by_cases e:s.heights.getD a (-1)= -1
   ·rw[hs.none_ a e k]at hq;cases hq
   ·obtain⟨k2,h1,h2⟩:=hs.some_ a e;have:=hhk.one a k k2 hr ((hse a k2).1 h2);subst this;unfold htS;rw[if_neg e,h1];simp
 have hok:=fun i hi=>(hfi i hi).okin
 exact⟨h.wld,h.tyw,hco,hfi,hhk,fun a k _=>key a k,fun a k e=>(a1V hco hok ((key a k).1 e)).2,h.has,h.pars,h.nc,h.st,h.lo,h.nh,h.nl⟩
theorem b8Z{eg hg sg wg:Nat}{pa:Option Addr}{pk:Nat}{ca:Option Addr}{ck:Nat}{ha:Option Addr}{hk st lim:Nat}{s:Wk}{wa:Option Addr}{wk:Nat}(h:L4 w base bw eg hg sg wg g m pa pk ca ck ha hk m.code.length st s wa wk)(hs:U3 L m s)(hE:∃cs:Array Value,A3 w eg cs 315∧∀a,a<m.code.length→a1I w base L m cs a)
 (hc:B8 w lim 4 T3 ca m.code) (hh:B8 w lim 4 T4 ha m.handlers) (hp:B8 w lim 2 C9 pa m.params):TyE w lim L m pa pk ca ck ha hk bw eg hg (htS s):=by
 obtain⟨cs,hb,hcs⟩:=hE;refine⟨fun k v e=> ?_,h.blk.cell 8 _ rfl,h.blk.cell 9 _ rfl,fun a ha'=> ?_,fun a ha'=> ?_,hc,hh,hp⟩
 ·refine V9 h.blk k v ?_;unfold WkV;unfold meV at e;have hk8:k<8:=(List.getElem?_eq_some_iff.1 e).1;rw[←e];rcases(by omega:k=0∨k=1∨k=2∨k=3∨k=4∨k=5∨k=6∨k=7)with rfl|rfl|rfl|rfl|rfl|rfl|rfl|rfl<;>rfl
 ·have:=V9 h.hts a (.int .i64 (s.heights.getD a (-1))) (by
   have:a<s.heights.length:=by rw[hs.len3];exact ha'
   simp[this])
  rw[this,c3q hs]
 ·obtain⟨ta,tk,ua,uk,h1,h2,h3,h4,h5⟩:=hcs a ha';exact⟨ta,tk,ua,uk,hb.cell _ _ h1,hb.cell _ _ h2,a1B (fun _=>rfl) h5⟩
theorem b7G{s:Wk}(hs:U3 L m s)(hw:∀a,wq s.wrong a=true↔a1k L m a){r:Int}(hf:a9S s.wrong r):(r<0→a7l L m none)∧∀k:Nat,r=(k:Int)→a7l L m (some k):=by
 refine⟨fun hr j hj hb=> ?_,fun k hk=> ?_⟩
 ·rcases hf with⟨-,h1⟩|⟨k,h1,-⟩
  ·have:=(hw j).2 hb;unfold wq at this;rw[h1 j]at this;cases this
  ·omega
 ·rcases hf with⟨h1,-⟩|⟨k2,h1,h2,h3,h4⟩
  ·omega
  ·have:k2=k:=by omega
   subst this;refine⟨by rw[←hs.len2];exact h2,(hw k2).1 h3,fun j hj hb=> ?_⟩;have:=(hw j).2 hb;unfold wq at this;rw[h4 j hj]at this;cases this
theorem b4G(w:World)(lim b:Nat)(L:List Cl)(p:Addr)(cap m1 m2 m3:Nat)(q:Nat→Qs)(h:Hid (Lk w lim b L p cap m1 m2 m3 q))(hl:lim≤w.heap.size)(c:ByteArray)(m:Me)(pa ca ha:Option Addr)(pk ck hk:Nat)(hC:MeC L c m)(hRc:Hid (B8 w lim 4 T3 ca m.code))(hRh:Hid (B8 w lim 4 T4 ha m.handlers))(hRp:Hid (B8 w lim 2 C9 pa m.params)):
 Calls prog 102 #[.pointer (some ⟨b,0,none⟩), .string c, .agg (mV m pa pk ca ck ha hk)] w fun e w'=>∃er at_:Nat,e= .returned (.tuple #[.int .i64 er, .int .i64 at_])∧V2 L c m er at_∧w.grownBy w' none:=by
 have HB:Hid (A3 (w.alloc (.cells (mV m pa pk ca ck ha hk) 102)) w.heap.size (mV m pa pk ca ck ha hk) 102):=A3.new w _ _;have HG1:Hid (w.grownBy (w.alloc (.cells (mV m pa pk ca ck ha hk) 102)) none):=A2 _ _ none;have HCF:=b4F (w.alloc (.cells (mV m pa pk ca ck ha hk) 102)) lim b L m pa ca ha pk ck hk hC.nc p cap m1 m2 m3 q (h.out.keep HG1.out hl) (Nat.le_trans hl HG1.out.size) (hRc.out.keep HG1.out) (hRh.out.keep HG1.out) hC.two hC.hand (by have:=hC.np;omega) hC.nh;have HCF:=A0 HCF;cases hcf:l7 L m with
 |some a=>
  rw[hcf]at HCF;have HCK:Hid (V2 L c m 13 a):=by unfold Hid V2;rw[hcf];exact⟨rfl,rfl⟩
  clear hcf;go_enter func102,ntmps102;go_wp2_with (go_at_call 164;go_loud (refine HCF.out.mono ?_;rintro e w2 ⟨rfl,hg2⟩;dsimp only[Option.getD_some,Option.isSome_some]))
  exact bodyPost_ret (v:= .tuple #[.int .i64 13, .int .i64 a]) (by simp[results,results102,go_sem]) rfl ⟨13,a,rfl,HCK.out,A1 HG1.out hg2⟩
 |none=>
  rw[hcf]at HCF;have hco:=a7c hcf;have hfine:=fun i hi=>hC.fine hco i hi
  have HX:Hid (l7 L m=none∧R0 L m∧∀i∈m.code,a1D L i):=⟨hcf,hco,hfine⟩
  have HWA:=A0 (fun W hW=>b6q W lim b L m pa ca ha pk ck hk hC.nc p cap m1 m2 m3 q (h.out.keep hW hl) (Nat.le_trans hl hW.size) (hRc.out.keep hW) (hRh.out.keep hW) hco hfine hC.st hC.nh);clear hcf hco hfine;go_enter func102,ntmps102;go_upto_region 4 with(go_at_call 164;go_loud (refine HCF.out.mono ?_;rintro e w2 ⟨rfl,hg2⟩;dsimp only[Option.getD_none,Option.isSome_none]))
  have hbk:=HB.out.keep hg2 A5;obtain⟨k0,k1,k2,k3,k4,k5,k6,k7⟩:=hbk.q8;have HG2:=A0 (A1 HG1.out hg2);clear hbk hg2;go_upto_region 5 with(go_at_call 128;go_loud (refine(HWA.out _ HG2.out).mono ?_;rintro e w3 ⟨base,bw,eg,hg,sg,wg,g,s,wa,wk,rfl,hlb,hub,hWM,hSn,hse,hwr,hEf,hg3⟩))
  have HG3:=A0 (A1 HG2.out hg3);have HWM:=A0 hWM;have HSN:Hid (U3 L m s∧(∀a k,sq s.seen a k=true↔Cf.F9 L m a k)∧(∀a,wq s.wrong a=true↔a1k L m a)):=⟨hSn,hse,hwr⟩
  have HEF:=A0 hEf;have HSF:=A0 (b4r w3 base bw eg hg sg wg g m pa pk ca ck ha hk s wa wk hWM hSn.len2 hC.nc);clear hlb hub hWM hSn hse hwr hEf hg3 k0 k1 k2 k3 k4 k5 k6 k7;go_upto_region 6 with(go_at_call 165;go_loud (refine HSF.out.mono ?_;rintro e w4 ⟨⟨r,rfl,hfst⟩,rfl⟩))
  have HSK:=b7G HSN.out.1 HSN.out.2.2 hfst;by_cases hr0:(0:Int)≤r
  ·obtain⟨k,rfl⟩:∃k:Nat,r=(k:Int):=⟨r.toNat,by omega⟩
   have HCK:Hid (V2 L c m 14 k):=by
    unfold Hid V2;rw[HX.out.1];exact⟨some k,HSK.2 k rfl,rfl,rfl⟩
   clear HSK;go_wp2_with fail
   exact bodyPost_ret (v:= .tuple #[.int .i64 14, .int .i64 k]) (by simp[results,results102,go_sem]) rfl ⟨14,k,rfl,HCK.out,HG3.out⟩
  ·have HSN0:=A0 (HSK.1 (by omega));have hhk:=b0o HX.out.2.1 (fun i hi=>(HX.out.2.2 i hi).okin) HSN0.out;have hPE:=c0H hC HX.out.2.1 HX.out.2.2 hhk HSN.out.1 HSN.out.2.1;have hTE:=b8Z (L:=L) (lim:=lim) HWM.out HSN.out.1 HEF.out (hRc.out.keep HG3.out) (hRh.out.keep HG3.out) (hRp.out.keep HG3.out);have HPE:=A0 hPE;have HTE:=A0 hTE;have HTD:=A0 (b7z L c m (htS s) hPE w4 lim b p cap m1 m2 m3 q (h.out.keep HG3.out hl) (Nat.le_trans hl HG3.out.size) pa ca ha pk ck hk bw eg hg hTE);have hrd:decide ((0:Int)≤r)=false:=by simp[hr0]
   clear HSK hhk hPE hTE hfst;go_upto_region 9 with(go_at_call 127;go_loud (refine HTD.out.mono ?_;rintro e w5 ⟨t,tg,g2,s2,ra,rk,rfl,hTM,hOk,hIT,htold,hg5⟩))
   have HKF:=A0 (b4A L c m (htS s) HPE w5 lim b p cap m1 m2 m3 q (h.out.keep (A1 HG3.out hg5) hl) (Nat.le_trans hl (A1 HG3.out hg5).size) pa ca ha pk ck hk bw eg hg (HTE.out.keep hg5) w4.heap.size t tg g2 s2 ra rk hTM hOk hIT htold);have HG5:=A0 (A1 HG3.out hg5);have HIT:=A0 hIT;clear hTM hOk hIT htold hg5;go_upto_region 10 with(go_at_call 166;go_loud (refine HKF.out.mono ?_;rintro e w6 ⟨r6,bo,rfl,hg6,hans⟩))
   have HG6:=A0 (A1 HG5.out hg6);rcases hans with⟨rfl,h1,k,h2,h3,h4⟩|⟨rfl,rfl,h4⟩
   ·have HCK:Hid (V2 L c m 15 r6):=by
     unfold Hid V2;rw[HX.out.1];exact⟨none,HSN0.out,_,HIT.out, .inl ⟨k,rfl,h1,h2,h3,h4⟩⟩
    clear h1 h2 h3 h4 hg6;go_wp2_with fail
    exact bodyPost_ret (v:= .tuple #[.int .i64 15, .int .i64 r6]) (by simp[results,results102,go_sem]) rfl ⟨15,r6,rfl,HCK.out,HG6.out⟩
   ·have HCK:Hid (V2 L c m 0 0):=by
     unfold Hid V2;rw[HX.out.1];exact⟨none,HSN0.out,_,HIT.out, .inr ⟨rfl,rfl,h4⟩⟩
    clear h4 hg6;go_wp2_with fail
    exact bodyPost_ret (v:= .tuple #[.int .i64 0, .int .i64 0]) (by simp[results,results102,go_sem]) rfl ⟨0,0,rfl,HCK.out,HG6.out⟩
def a3x(L fs:List Cl)(er f k at_:Nat):Prop:=
 (er≠0∧f<fs.length∧k<(cl fs f).methods.length∧V2 L (cl fs f).name ((cl fs f).methods.getD k I9) er at_∧(∀f' k',f'<f→k'<(cl fs f').methods.length→V2 L (cl fs f').name ((cl fs f').methods.getD k' I9) 0 0)∧∀k',k'<k→V2 L (cl fs f).name ((cl fs f).methods.getD k' I9) 0 0)∨
 (er=0∧f=0∧k=0∧at_=0∧∀f' k',f'<fs.length→k'<(cl fs f').methods.length→V2 L (cl fs f').name ((cl fs f').methods.getD k' I9) 0 0)
theorem b6X(h:V2 L c m 0 a):a=0:=by
 unfold V2 at h;split at h
 ·omega
 ·obtain⟨f,-,h⟩:=h;split at h
  ·omega
  ·obtain⟨T,-,h⟩:=h;rcases h with⟨k,h1,-⟩|⟨-,h1,-⟩
   ·omega
   ·exact h1
theorem b5f(w:World)(lim b:Nat)(fs:List Cl)(L:List Cl)(hL:L=A7++fs)(p:Addr)(cap m1 m2 m3:Nat)(qf:Nat→Qs)(h:Hid (Lk w lim b L p cap m1 m2 m3 (O9 qf)))(hl:lim≤w.heap.size)(a:Option Addr)(kk:Nat)(hR:Hid (B8 w lim 4 (V5 fs qf) a (List.range fs.length)))(hPM:Hid (S8 w lim (A7++fs) (O9 qf)))(hl12:fs.length≤12)(hmn:∀i,i<fs.length→(cl fs i).methods.length≤65535)
 (hmc:∀i,i<fs.length→∀j,j<(cl fs i).methods.length→MeC L (cl fs i).name ((cl fs i).methods.getD j I9)):
 Calls prog 61 #[.pointer (some ⟨b,0,none⟩), .slice a fs.length kk] w fun e w'=>∃er f k at_:Nat,e= .returned (.tuple #[.int .i64 er, .agg #[.int .i64 f, .int .i64 k, .int .i64 at_]])∧a3x L fs er f k at_∧w.grownBy w' none:=by
 have HB1:Hid (A3 (w.alloc (.cells #[.int .i64 0, .int .i64 0, .int .i64 0] 78)) w.heap.size #[.int .i64 0, .int .i64 0, .int .i64 0] 78):=A3.new w _ _;have HG1:Hid (w.grownBy (w.alloc (.cells #[.int .i64 0, .int .i64 0, .int .i64 0] 78)) none):=A2 _ _ none;obtain⟨n,hn⟩:∃n,n=fs.length:=⟨_,rfl⟩
 have HN:=A0 hn;have hn12:n≤12:=by rw[hn];exact hl12
 rw[←hn];clear hn;go_enter func61,ntmps61;go_wp2_with fail
 generalize (w.alloc (.cells #[.int .i64 0, .int .i64 0, .int .i64 0] 78))=W1 at HB1 HG1⊢;go_loopw [14] (fun v W=>∃i:Nat,v= .int .i64 i∧i≤n∧W1.grownBy W none∧∀f k,f<i→k<(cl fs f).methods.length→V2 L (cl fs f).name ((cl fs f).methods.getD k I9) 0 0) (fun v _=>n-(intOf v).toNat)
 case atStart=>exact⟨0,rfl,Nat.zero_le _,I8 _ _,fun f k hf=>absurd hf (Nat.not_lt_zero _)⟩
 case round=>
  obtain⟨i,rfl,hi,hgr,hall⟩:=hrel;have HGQ:=A0 hgr;have HG:=A0 (A1 HG1.out hgr);have HALL:=A0 hall;clear hgr hall;by_cases hlt:i<n
  ·obtain⟨pd,hpd,-,hcd⟩:=(hR.out.keep HG.out) i (by simp;rw[←HN.out];exact hlt);simp only[List.getElem_range,V5]at hcd;obtain⟨cc,hcc⟩:∃cc,cc=cl fs i:=⟨_,rfl⟩
   obtain⟨⟨fa,fk,ma,mk⟩,hq⟩:∃q2,q2=qf i:=⟨_,rfl⟩
   rw[←hcc,←hq]at hcd;have HCC:Hid (cc=cl fs i∧(⟨fa,fk,ma,mk⟩:Qs)=qf i):=⟨hcc,hq⟩
   subst hpd;have y0:wr.cell? (pd.add (i*4))=some (.string cc.name):=hcd 0 _ rfl;have y1:wr.cell? ⟨(pd.add (i*4)).block,(pd.add (i*4)).off+1,none⟩=some (.string cc.super):=by rw[C0 pd (i*4) 0];exact hcd 1 _ rfl
   have y2:wr.cell? ⟨(pd.add (i*4)).block,(pd.add (i*4)).off+2,none⟩=some (.slice fa cc.fields.length fk):=by rw[C0 pd (i*4) 1];exact hcd 2 _ rfl
   have y3:wr.cell? ⟨(pd.add (i*4)).block,(pd.add (i*4)).off+3,none⟩=some (.slice ma cc.methods.length mk):=by rw[C0 pd (i*4) 2];exact hcd 3 _ rfl
   have hiI:(i:Int)<(n:Int):=by omega
   have hml:cc.methods.length≤65535:=by rw[hcc];exact hmn i (by rw[←HN.out];exact hlt)
   have HIF:Hid (i<fs.length):=by unfold Hid;rw[←HN.out];exact hlt
   clear hcd hcc hq;go_wp2_with fail
   have hbc:A3 (wr.alloc (.cells #[.string cc.name, .string cc.super, .slice fa cc.fields.length fk, .slice ma cc.methods.length mk] 44)) wr.heap.size #[.string cc.name, .string cc.super, .slice fa cc.fields.length fk, .slice ma cc.methods.length mk] 44:=A3.new wr _ _;have HBC:=A0 hbc;have HGC:Hid (W1.grownBy (wr.alloc (.cells #[.string cc.name, .string cc.super, .slice fa cc.fields.length fk, .slice ma cc.methods.length mk] 44)) none):=A1 HGQ.out (A2 _ _ none);generalize wr.alloc (.cells #[.string cc.name, .string cc.super, .slice fa cc.fields.length fk, .slice ma cc.methods.length mk] 44)=W2 at HBC HGC⊢;generalize wr.heap.size=B7 at HBC⊢;clear hbc y0 y1 y2 y3;go_loopw [22] (fun v W=>∃j:Nat,v= .int .i64 j∧j≤cc.methods.length∧W2.grownBy W none∧∀k,k<j→V2 L cc.name (cc.methods.getD k I9) 0 0) (fun v _=>cc.methods.length-(intOf v).toNat)
   case atStart=>exact⟨0,rfl,Nat.zero_le _,I8 _ _,fun k hk=>absurd hk (Nat.not_lt_zero _)⟩
   case round=>
    obtain⟨j,rfl,hj,hgr,hall⟩:=hrel;have HGR:=A0 (A1 HGC.out hgr);have HGW:=A0 (A1 HG1.out HGR.out);have HG2:=A0 hgr;have HALJ:=A0 hall;have hb7:=HBC.out.keep hgr A5;have z0:=hb7.c0;have lB7:=hb7.lt;clear hgr hall hb7;by_cases hlj:j<cc.methods.length
    ·obtain⟨pm,pa,ca,ha,pk,ck,hk,hpm,-,r1,r2,r3,hcm⟩:=(hPM.out.keep HGW.out) (9+i) (by simp[a9h];have:=HIF.out;omega) j (by rw[T2,←HCC.out.1];exact hlj);rw[T2,←HCC.out.1]at r1 r2 r3 hcm;have hqq:O9 qf (9+i)=⟨fa,fk,ma,mk⟩:=by unfold O9;rw[if_neg (by omega),Nat.add_sub_cancel_left];exact HCC.out.2.symm
     rw[hqq]at hpm;dsimp only at hpm;obtain⟨me,hme⟩:∃me,me=cc.methods.getD j I9:=⟨_,rfl⟩
     rw[←hme]at r1 r2 r3 hcm;have HME:=A0 hme;have hMC:=hmc i HIF.out j (by rw[←HCC.out.1];exact hlj);rw[←HCC.out.1,←hme]at hMC;subst hpm;have x0:wr.cell? (pm.add (j*8))=some (.string me.name):=hcm 0 _ rfl;have x1:wr.cell? ⟨(pm.add (j*8)).block,(pm.add (j*8)).off+1,none⟩=some (.slice pa me.params.length pk):=by rw[C0 pm (j*8) 0];exact hcm 1 _ rfl
     have x2:wr.cell? ⟨(pm.add (j*8)).block,(pm.add (j*8)).off+2,none⟩=some (.int .i64 me.ret.kind):=by rw[C0 pm (j*8) 1];exact hcm 2 _ rfl
     have x3:wr.cell? ⟨(pm.add (j*8)).block,(pm.add (j*8)).off+3,none⟩=some (.string me.ret.name):=by rw[C0 pm (j*8) 2];exact hcm 3 _ rfl
     have x4:wr.cell? ⟨(pm.add (j*8)).block,(pm.add (j*8)).off+4,none⟩=some (.int .i64 me.stack):=by rw[C0 pm (j*8) 3];exact hcm 4 _ rfl
     have x5:wr.cell? ⟨(pm.add (j*8)).block,(pm.add (j*8)).off+5,none⟩=some (.int .i64 me.locals):=by rw[C0 pm (j*8) 4];exact hcm 5 _ rfl
     have x6:wr.cell? ⟨(pm.add (j*8)).block,(pm.add (j*8)).off+6,none⟩=some (.slice ca me.code.length ck):=by rw[C0 pm (j*8) 5];exact hcm 6 _ rfl
     have x7:wr.cell? ⟨(pm.add (j*8)).block,(pm.add (j*8)).off+7,none⟩=some (.slice ha me.handlers.length hk):=by rw[C0 pm (j*8) 6];exact hcm 7 _ rfl
     have HMT:Hid (∀W,wr.grownBy W none→Calls prog 102 #[.pointer (some ⟨b,0,none⟩), .string cc.name, .agg (mV me pa pk ca ck ha hk)] W fun e w'=>∃er at_:Nat,e= .returned (.tuple #[.int .i64 er, .int .i64 at_])∧V2 L cc.name me er at_∧W.grownBy w' none):=fun W hW=>
      b4G W lim b L p cap m1 m2 m3 (O9 qf) (h.out.keep (A1 HGW.out hW) hl) (Nat.le_trans hl (A1 HGW.out hW).size) cc.name me pa ca ha pk ck hk hMC (r2.keep hW) (r3.keep hW) (r1.keep hW)
     have hjI:(j:Int)<(cc.methods.length:Int):=by omega
     clear hcm r1 r2 r3 hqq hme hMC;go_upto_region 8 with(go_at_call 102;go_loud (refine(HMT.out _ (A2 _ _ none)).mono ?_;rintro e w5 ⟨er,at_,rfl,hck,hg5⟩))
     have HG5:=A0 (A1 (A1 HG2.out (A2 _ _ none)) hg5);have HCK:=A0 hck;clear hck hg5;by_cases he0:er=0
     ·subst he0;have hat:=b6X HCK.out;subst hat;go_wp2_with fail
      go_roundw
      case rel=>exact⟨j+1,by first|rfl|go_num,by omega,HG5.out,fun k hk=>by
       by_cases e:k=j
       ·subst e;rw[←HME.out];exact HCK.out
       ·exact HALJ.out k (by omega)⟩
      case measure=>exact a1g
     ·have heb:((er:Int)==0)=false:=by rw[beq_eq_false_iff_ne];omega
      have hen:¬(er:Int)=0:=by omega
      have HW5:=A0 (A1 HGC.out HG5.out);have hbp:=HB1.out.keep HW5.out A5;obtain⟨p0,p1,p2⟩:=hbp.q3;obtain⟨f0,f1,f2⟩:=hbp.z3;have HANS:Hid (a3x L fs er i j at_):= .inl ⟨he0,HIF.out,by rw[←HCC.out.1];exact hlj,by rw[←HCC.out.1,←HME.out];exact HCK.out,HALL.out,fun k hk=>by rw[←HCC.out.1];exact HALJ.out k hk⟩;clear he0;go_wp2_with fail
      have hb6:=((hbp.set 0 (.int .i64 i)).set 1 (.int .i64 j)).set 2 (.int .i64 at_);have hs6:=A1 (A1 (A9 w5 ⟨w.heap.size,0,none⟩ (.int .i64 i)) (A9 _ ⟨w.heap.size,1,none⟩ (.int .i64 j))) (A9 _ ⟨w.heap.size,2,none⟩ (.int .i64 at_));have hg6:=D5 (A1 HG1.out HW5.out) hs6 (fun k e=>by cases e;exact .inl (Nat.le_refl _));clear p0 p1 p2 f0 f1 f2;generalize ((w5.setCell ⟨w.heap.size,0,none⟩ (.int .i64 i)).setCell ⟨w.heap.size,1,none⟩ (.int .i64 j)).setCell ⟨w.heap.size,2,none⟩ (.int .i64 at_)=W6 at hb6 hg6⊢;have q0:=hb6.c0;have q1:=hb6.c1;have q2:=hb6.c2;exact bodyPost_ret (v:= .tuple #[.int .i64 er, .agg #[.int .i64 i, .int .i64 j, .int .i64 at_]]) (by simp[results,results61,go_sem,q0,q1,q2]) rfl ⟨er,i,j,at_,rfl,HANS.out,hg6⟩
    ·have hjn:j=cc.methods.length:=by omega
     have HNX:Hid (∀f k,f<i+1→k<(cl fs f).methods.length→V2 L (cl fs f).name ((cl fs f).methods.getD k I9) 0 0):=fun f k hf hk=>by
      by_cases e:f=i
      ·subst e;rw[←HCC.out.1]at hk⊢;exact HALJ.out k (by omega)
      ·exact HALL.out f k (by omega) hk
     clear HALJ;subst hjn;go_wp2_with fail
     go_roundw
     case rel=>exact⟨i+1,by first|rfl|go_num,by omega,HGR.out,HNX.out⟩
     case measure=>exact a1g
  ·have hin:i=n:=by omega
   have HANS:Hid (a3x L fs 0 0 0 0):= .inr ⟨rfl,rfl,rfl,rfl,fun f k hf=>HALL.out f k (by rw[hin,HN.out];exact hf)⟩;have hbp:=HB1.out.keep HGQ.out A5;obtain⟨p0,p1,p2⟩:=hbp.q3;obtain⟨f0,f1,f2⟩:=hbp.z3;clear HALL;subst hin;go_wp2_with fail
   have hb6:=((hbp.set 0 (.int .i64 0)).set 1 (.int .i64 0)).set 2 (.int .i64 0);have hs6:=A1 (A1 (A9 wr ⟨w.heap.size,0,none⟩ (.int .i64 0)) (A9 _ ⟨w.heap.size,1,none⟩ (.int .i64 0))) (A9 _ ⟨w.heap.size,2,none⟩ (.int .i64 0));have hg6:=D5 HG.out hs6 (fun k e=>by cases e;exact .inl (Nat.le_refl _));clear p0 p1 p2 f0 f1 f2;generalize ((wr.setCell ⟨w.heap.size,0,none⟩ (.int .i64 0)).setCell ⟨w.heap.size,1,none⟩ (.int .i64 0)).setCell ⟨w.heap.size,2,none⟩ (.int .i64 0)=W6 at hb6 hg6⊢;have q0:=hb6.c0;have q1:=hb6.c1;have q2:=hb6.c2;exact bodyPost_ret (v:= .tuple #[.int .i64 0, .agg #[.int .i64 0, .int .i64 0, .int .i64 0]]) (by simp[results,results61,go_sem,q0,q1,q2]) rfl ⟨0,0,0,0,rfl,HANS.out,hg6⟩
def LC(w:World)(base:Nat)(q:Qs)(c:Cl):Prop:=K8 base 129 3 H8 w (.slice q.fa c.fields.length q.fk) c.fields∧Z8 base w (.slice q.ma c.methods.length q.mc) c.methods
theorem LC.of{c:Cl}(h:a1c base w v c):∃q,v= .agg (P9 c q).toArray∧LC w base q c:=by
 obtain⟨a1,k1,a2,k2,rfl,h1,h2⟩:=h;exact⟨⟨a1,k1,a2,k2⟩,rfl,h1,h2⟩
section
variable{w w':World}{bs b2:Nat}{q:Qs}{c:Cl}
theorem LC.keep(h:LC w bs q c)(hg:w.grownBy w' none):LC w' bs q c:=⟨h.1.keep hg (fun k e=>by cases e),h.2.keep hg (fun k e=>by cases e)⟩
theorem LC.lower(h:LC w bs q c)(hb:b2≤bs):LC w b2 q c:=by
 refine⟨P3 h.1 hb,?_⟩;obtain⟨css,h1,h2,h3⟩:=h.2;exact⟨css,h1,P3 h2 hb,fun i c m hc hm=>(h3 i c m hc hm).base hb⟩
theorem LC.onto{v:Value}{s n:Nat}{cs:List Value}(h:LC w bs q c)(ho:w.ownsRow b2 44 s v n cs)(hg:w.grownBy w' v.ownBlock):LC w' bs q c:=by
 refine⟨World.ownsRow.kept h.1 hg (a3i h.1 ho (by decide)),?_⟩;obtain⟨css,h1,h2,h3⟩:=h.2;refine⟨css,h1,h2.kept hg (a3i h2 ho (by decide)),fun i c m hc hm=> ?_⟩;obtain⟨pv,cv,hv,hc,g1,g2,g3,g4⟩:=h3 i c m hc hm;exact⟨pv,cv,hv,hc,World.ownsRow.kept g1 hg (a3i g1 ho (by decide)),World.ownsRow.kept g2 hg (a3i g2 ho (by decide)),World.ownsRow.kept g3 hg (a3i g3 ho (by decide)),g4⟩
theorem b3E:∀(css:List (List Value)) (_:∀c∈css,c.length=8) (j:Nat) (hj:j<css.length) (r:Nat) (_:r<8),css.flatten[j*8+r]? =css[j][r]?
 | [],_,_,hj,_,_=>by cases hj
 |x::l,h,0,_,r,hr=>by
  rw[List.flatten_cons,Nat.zero_mul,Nat.zero_add,List.getElem?_append_left (by rw[h x (by simp)];exact hr)];rfl
 |x::l,h,j+1,hj,r,hr=>by
  rw[List.flatten_cons,List.getElem?_append_right (by rw[h x (by simp)];omega),h x (by simp),show(j+1)*8+r-8=j*8+r from by omega];exact b3E l (fun c hc=>h c (by simp[hc])) j (by simpa using hj) r hr
theorem LC.rd(h:LC w bs q c):B8 w w.heap.size 3 H8 q.fa c.fields∧PM w w.heap.size q.ma c.methods:=by
 refine⟨a1B b7e h.1,fun j hj=> ?_⟩;obtain⟨css,h1,h2,h3⟩:=h.2;have hjc:j<css.length:=by omega
 obtain⟨pv,cv,hv,hc,g1,g2,g3,-⟩:=h3 j css[j] c.methods[j] (List.getElem?_eq_getElem hjc) (List.getElem?_eq_getElem hj);obtain⟨pa,pk,rfl⟩:=F0 g1;obtain⟨ca,ck,rfl⟩:=F0 g2;obtain⟨ha,hk,rfl⟩:=F0 g3;obtain⟨g,cap,hv,-,hg⟩:=h2.form (by omega);injection hv with hv _ _
 have e:c.methods.getD j I9=c.methods[j]:=by rw[List.getD_eq_getElem?_getD,List.getElem?_eq_getElem hj];rfl
 rw[e];refine⟨⟨g,0,none⟩,pa,ca,ha,pk,ck,hk,hv,hg,a1B (fun _=>rfl) g1,a1B (fun _=>rfl) g2,a1B (fun _=>rfl) g3,fun r u hu=> ?_⟩;have hr:r<8:=by have:=(List.getElem?_eq_some_iff.1 hu).1;simpa[mv]using this
 have h8:∀x∈css,x.length=8:=fun x hx=>by
  obtain⟨i,hi,rfl⟩:=List.getElem_of_mem hx;obtain⟨pv,cv,hv,hc,-⟩:=h3 i css[i] c.methods[i] (List.getElem?_eq_getElem hi) (List.getElem?_eq_getElem (by omega));rw[hc];rfl
 refine h2.cells (g:=g) (by rw[hv];rfl) (j*8+r) u ?_;rw[b3E css h8 j hjc r hr,hc];exact hu
end
structure T8(w:World)(B:Nat)(v:Value)(fs:List Cl)(qf:Nat→Qs):Prop where
 own:w.ownsRow B 44 4 v fs.length ((List.range fs.length).flatMap (V5 fs qf))
 lc:∀i,i<fs.length→LC w B (qf i) (cl fs i)
theorem T8.nil(w:World)(B:Nat)(qf:Nat→Qs):T8 w B (.slice none 0 0) [] qf:=⟨World.ownsRow_nil _ _ _ _,fun i hi=>by cases hi⟩
variable {w w':World}
variable {B:Nat}
variable {v:Value}
variable {fs:List Cl}
variable {qf:Nat→Qs}
theorem T8.keep(h:T8 w B v fs qf)(hg:w.grownBy w' none):T8 w' B v fs qf:=
 ⟨h.own.kept hg (by cases v.ownBlock<;>simp),fun i hi=>(h.lc i hi).keep hg⟩
def a4f(qf:Nat→Qs)(n:Nat)(q:Qs)(i:Nat):Qs:=if i=n then q else qf i
variable {c:Cl}
theorem T8.push{v':Value}{q:Qs}(h:T8 w B v fs qf)(hc:LC w B q c)(ho:w'.ownsRow B 44 4 v' (fs.length+1) ((List.range fs.length).flatMap (V5 fs qf)++P9 c q))(hg:w.grownBy w' v.ownBlock):
 T8 w' B v' (fs++ [c]) (a4f qf fs.length q):=by
 refine⟨?_,fun i hi=> ?_⟩
 ·rw[List.length_append,List.length_singleton,List.range_succ,List.flatMap_append]
  have e:(List.range fs.length).flatMap (V5 (fs++ [c]) (a4f qf fs.length q))=(List.range fs.length).flatMap (V5 fs qf):=by
   refine a7W (fun i hi=> ?_);have:=List.mem_range.1 hi;unfold V5 a4f;rw[U8 this,if_neg (by omega)]
  rw[e];simp only[List.flatMap_cons,List.flatMap_nil,List.append_nil,V5,a7v,a4f,if_true];exact ho
 ·rw[List.length_append,List.length_singleton]at hi;by_cases e:i=fs.length
  ·subst e;rw[a7v,a4f,if_pos rfl];exact hc.onto h.own hg
  ·rw[U8 (by omega),a4f,if_neg e];exact(h.lc i (by omega)).onto h.own hg
theorem a4X(h:S3 c):Okc c:=by
 have h12:(12:Nat)≤maxLen:=by decide
 refine⟨Nat.le_trans (a1j h.name) h12,Nat.le_trans (a1j h.super) h12,fun x hx=> ?_,fun x hx=> ?_,by have:=h.nf;omega,by have:=h.nm;omega⟩
 ·obtain⟨f,hf,rfl⟩:=List.mem_map.1 hx;exact Nat.le_trans (a1j (h.fields f hf).1) h12
 ·obtain⟨f,hf,rfl⟩:=List.mem_map.1 hx;exact Nat.le_trans (a1j (h.methods f hf).name) h12
theorem c1X(h:S3 c):Szc c:=⟨by have:=h.nf;omega,by have:=h.nm;omega,fun j hj=>by
 have:=h.methods _ (List.getElem_mem hj);have a:=this.np;have b:=this.nh;omega⟩
theorem T8.gvn{a:Option Addr}{k n:Nat}(h:T8 w B (.slice a n k) fs qf)(hok:∀c∈fs,S3 c)(hl:fs.length≤12):Gvn w w.heap.size fs qf∧B8 w w.heap.size 4 (V5 fs qf) a (List.range fs.length):=by
 have hc:∀i,i<fs.length→S3 (cl fs i):=fun i hi=>by rw[R8 hi];exact hok _ (List.getElem_mem hi)
 refine⟨⟨fun i hi=>(h.lc i hi).rd.1,fun i hi=>(h.lc i hi).rd.2,fun i hi=>c1X (hc i hi),fun i hi=>⟨(a4X (hc i hi)).1,(a4X (hc i hi)).2.1⟩,fun i hi=>⟨(a4X (hc i hi)).2.2.2.2.1,(a4X (hc i hi)).2.2.2.2.2⟩,hl⟩,?_⟩;obtain⟨a',k',hv⟩:=F0 h.own;injection hv with hv hn hk
 have:=h.own;rw[hn]at this;exact a1B (b2g fs qf) (by simpa using this)
theorem c1W(hok:∀c∈fs,S3 c):SzL (A7++fs):=fun i hi=>by
 by_cases h9:i<9
 ·rw[U8 h9];have:=a3S h9;refine⟨fun j hj=> ?_,fun f hf=> ?_,by rw[this.1];simp,by rw[this.2.1];simp⟩
  ·rw[this.2.1]at hj;cases hj
  ·rw[this.1]at hf;cases hf
 ·obtain⟨j,rfl⟩:∃j,i=9+j:=⟨i-9,by omega⟩
  rw[T2];have hj:j<fs.length:=by rw[List.length_append,a9h]at hi;omega
  have hc:S3 (cl fs j):=by rw[R8 hj];exact hok _ (List.getElem_mem hj)
  have h12:(12:Nat)≤maxLen:=by decide
  refine⟨fun k hk=> ?_,fun f hf=>⟨Nat.le_trans (a9l (hc.fields f hf).2) h12,Nat.le_trans (a1j (hc.fields f hf).1) h12⟩,by have:=hc.nf;omega,by have:=hc.nm;omega⟩
  have hm:a5l ((cl fs j).methods.getD k I9):=by
   rw[List.getD_eq_getElem?_getD,List.getElem?_eq_getElem hk];exact hc.methods _ (List.getElem_mem hk)
  exact⟨fun t ht=>Nat.le_trans (a9l (hm.params t ht)) h12,fun d hd=>Nat.le_trans (a1j (hm.handlers d hd).cls) h12,Nat.le_trans (a9l hm.ret) h12,by have:=hm.np;omega,by have:=hm.nh;omega⟩
end Kx
namespace Cf
variable {α:Type}
def a8(p:St→R α):Prop:=∀st er,p st= .error er→0<er.1
theorem V8{β:Type}{p:St→R α}{m:α→St→R β}(hp:a8 p)(hm:∀a,a8 (m a)):a8 (fun st=>M3 (p st) m):=fun st er h=>by
 unfold M3 at h;cases hr:p st with
 |error e=>simp only[hr]at h;cases h;exact hp st _ hr
 |ok q=>simp only[hr]at h;exact hm q.1 q.2 er h
theorem a4H{a:α}:a8 (fun st=> .ok (a,st)):=fun st er h=>by cases h
theorem a1l(f:ByteArray)(k:Nat):a8 (C1 f k):=fun st er h=>by
 unfold C1 at h;split at h
 ·cases h
 ·cases h;show 0<2;omega
theorem b2f{p:St→R α}(hp:a8 p):∀n,a8 (C8 p n)
 |0=>fun st er h=>by simp only[C8]at h;cases h
 |n+1=>fun st er h=>by
  simp only[C8]at h;cases hq:p st with
  |error e=>rw[hq]at h;cases h;exact hp st _ hq
  |ok q=>
   rw[hq]at h;dsimp only at h;cases hr:C8 p n q.2 with
   |error e=>rw[hr]at h;cases h;exact b2f hp n q.2 _ hr
   |ok q2=>rw[hr]at h;cases h
theorem a4J{p:St→R α}(hp:a8 p)(f:ByteArray)(k:Nat):a8 (E5 f k p):=by
 rw[b8i];exact V8 (a1l f k) fun n=>b2f hp n
theorem a4I(f:ByteArray):a8 (name f):=by
 rw[b7Z];refine V8 (a1l f 1) fun n st er h=> ?_
 split at h
 ·cases h
 ·cases h;show 0<5;omega
theorem a8g(f:ByteArray)(b:Bool):a8 (P5 f b):=by
 cases b with
 |true=>exact a4I f
 |false=>exact a4H (a:=ByteArray.empty)
theorem a8J(f:ByteArray):a8 (kind f):=by
 rw[b1r];refine V8 (a1l f 1) fun k st er h=> ?_
 by_cases h4:4<k
 ·simp only[h4,if_true]at h;cases h;show 0<3;omega
 ·simp only[h4,if_false]at h;exact V8 (a8g f _) (fun n=>a4H) st er h
theorem c0l(f:ByteArray):a8 (S4 f):=fun st er h=>by
 unfold S4 at h;cases h1:C1 f 1 st with
 |error e=>rw[h1]at h;cases h;exact a1l f 1 st _ h1
 |ok q=>
  rw[h1]at h;dsimp only at h;split at h
  ·cases h;show 0<3;omega
  ·cases h2:C1 f (F3 q.1) q.2 with
   |error e=>rw[h2]at h;cases h;exact a1l f _ _ _ h2
   |ok q2=>
    rw[h2]at h;dsimp only at h;cases h3:P5 f (Y5 q.1) q2.2 with
    |error e=>rw[h3]at h;cases h;exact a8g f _ _ _ h3
    |ok q3=>
     rw[h3]at h;dsimp only at h;cases h4:P5 f (Z4 q.1) q3.2 with
     |error e=>rw[h4]at h;cases h;exact a8g f _ _ _ h4
     |ok q4=>rw[h4]at h;cases h
theorem b5c(f:ByteArray):a8 (X2 f):=by
 rw[b0p];exact V8 (a1l f 2) fun a=>V8 (a1l f 2) fun b=>V8 (a1l f 2) fun c=>V8 (a4I f) fun n=>a4H
theorem b7d(f:ByteArray):a8 (Z7 f):=by
 rw[b0V];exact V8 (a4I f) fun n=>V8 (a8J f) fun t=>a4H
theorem b8y(f:ByteArray):a8 (meth f):=by
 rw[b1l]
 exact V8 (a4I f) fun n=>V8 (a4J (a8J f) f 1) fun ps=>V8 (a8J f) fun t=>V8 (a1l f 1) fun s=>V8 (a1l f 1) fun l=>
  V8 (a4J (c0l f) f 2) fun is=>V8 (a4J (b5c f) f 1) fun hs2=>a4H
theorem c0m(f:ByteArray):a8 (cls f):=by
 rw[b2k];exact V8 (a4I f) fun n=>V8 (a4I f) fun s=>V8 (a4J (b7d f) f 1) fun fs=>V8 (a4J (b8y f) f 1) fun ms=>a4H
theorem b8x(f:ByteArray):a8 (O5 f):=fun st er h=>by
 unfold O5 at h;cases hn:Z2 f st with
 |error e=>
  rw[hn]at h;cases h;unfold Z2 at hn;cases h1:C1 f 1 st with
  |error e=>rw[h1]at hn;cases hn;exact a1l f 1 st _ h1
  |ok q=>
   rw[h1]at hn;dsimp only at hn;split at hn
   ·split at hn
    ·cases hn
    ·cases hn;show 0<4;omega
   ·cases hn;show 0<2;omega
 |ok q=>rw[hn]at h;cases h
theorem b0W(f:ByteArray)(c i:Nat):a8 (N2 f c i):=fun st er h=>by
 unfold N2 at h;cases h1:C1 f 1 st with
 |error e=>rw[h1]at h;cases h;exact a1l f 1 st _ h1
 |ok q=>
  rw[h1]at h;dsimp only at h;split at h
  ·cases h
  ·cases h;show 0<3;omega
theorem a5W{f:ByteArray}{er:Er}(h:G7 f= .error er):0<er.1:=by
 unfold G7 at h;split at h
 ·cases h;show 0<1;omega
 ·cases h1:N2 f 87 0 ⟨0,0,[]⟩with
  |error e=>rw[h1]at h;cases h;exact b0W f _ _ _ _ h1
  |ok q=>
   rw[h1]at h;dsimp only at h;cases h2:N2 f 49 1 q.2 with
   |error e=>rw[h2]at h;cases h;exact b0W f _ _ _ _ h2
   |ok q2=>
    rw[h2]at h;dsimp only at h;cases h3:E5 f 1 (O5 f) q2.2 with
    |error e=>rw[h3]at h;cases h;exact a4J (b8x f) f 1 _ _ h3
    |ok q3=>
     rw[h3]at h;dsimp only at h;cases h4:cls f q3.2 with
     |error e=>rw[h4]at h;cases h;exact c0m f _ _ h4
     |ok q4=>
      rw[h4]at h;dsimp only at h;split at h
      ·cases h;show 0<5;omega
      ·split at h
       ·cases h;show 0<6;omega
       ·cases h
end Cf
namespace Kx
def a6p(s:ByteArray):List Value:=[.string s]
def b3N(B:Nat)(files:List ByteArray)(e:Ending)(w':World):Prop:=
 (∃(j:Nat) (hj:j<files.length) (er:Er),G7 files[j]= .error er∧(∀i (hi:i<files.length),i<j→∃c,G7 files[i]= .ok c)∧e= .returned (.tuple #[.slice none 0 0, .int .i64 er.1, .agg #[.int .i64 j, .int .i64 0, .int .i64 er.2]]))∨
 (∃(fs:List Cl) (v:Value) (qf:Nat→Qs),fs.length=files.length∧(∀i (hi:i<files.length),G7 files[i]= .ok (cl fs i))∧e= .returned (.tuple #[v, .int .i64 0, .agg #[.int .i64 0, .int .i64 0, .int .i64 0]])∧T8 w' B v fs qf)
variable {w w':World}
variable {c:Cl}
variable {e:Ending}
theorem a6N(h:a7w w (.ok c) e w'):w.grownBy w' none∧∃q,e= .returned (.tuple #[.agg #[.string c.name, .string c.super, .slice q.fa c.fields.length q.fk, .slice q.ma c.methods.length q.mc], .int .i64 0, .int .i64 0])∧LC w' w.heap.size q c:=by
 obtain⟨hg,v,k,rfl,hc,rfl⟩:=h;obtain⟨q,rfl,hl⟩:=LC.of hc;exact⟨hg,q,rfl,hl⟩
variable {er:Er}
theorem a4v(h:a7w w (.error er) e w'):w.grownBy w' none∧e= .returned (.tuple #[.agg #[.string ⟨#[]⟩, .string ⟨#[]⟩, .slice none 0 0, .slice none 0 0], .int .i64 er.1, .int .i64 er.2]):=by
 obtain⟨hg,v,k,rfl,rfl,rfl⟩:=h;exact⟨hg,rfl⟩
variable {B g k lim n:Nat}
variable {q:Qs}
theorem LC.far(h:LC w B q c)(hg:w.grownBy w' (some k))(hk:k<B):LC w' B q c:=⟨h.1.keep hg (fun x e=>by cases e;exact hk),h.2.keep hg (fun x e=>by cases e;exact hk)⟩
variable {v:Value}
variable {L fs:List Cl}
variable {qf:Nat→Qs}
theorem T8.far(h:T8 w B v fs qf)(hg:w.grownBy w' (some k))(hk:k<B):T8 w' B v fs qf:=
 ⟨h.own.kept hg (.inr (K0 h.own hk)),fun i hi=>(h.lc i hi).far hg hk⟩
theorem NC(w:World)(c:Cl)(q:Qs):Hid (∀j u,(P9 c q)[j]? =some u→((w.alloc (.cells #[.string c.name, .string c.super, .slice q.fa c.fields.length q.fk, .slice q.ma c.methods.length q.mc] 44)).alloc (.cells #[.string c.name, .string c.super, .slice q.fa c.fields.length q.fk, .slice q.ma c.methods.length q.mc] 44)).cell? ((⟨w.heap.size+1,0,none⟩:Addr).add j)=some u):=by
 have:=S6 (w.alloc (.cells #[.string c.name, .string c.super, .slice q.fa c.fields.length q.fk, .slice q.ma c.methods.length q.mc] 44)) (P9 c q) 44;unfold Hid;simpa[P9]using this
theorem T8.ownk(h:T8 w B v fs qf)(hk:fs.length=k):w.ownsRow B 44 4 v k ((List.range fs.length).flatMap (V5 fs qf)):=by
 subst hk;exact h.own
theorem b9r{s:Nat}{t:TypeId}{xs:List Value}(hk:n=k)(h:w.ownsRow B t s v (k+1) xs):w.ownsRow B t s v (n+1) xs:=by
 subst hk;exact h
theorem b4E(w:World)(lim:Nat)(hl:lim≤w.heap.size)(files:List ByteArray)(a:Option Addr)(kk:Nat)(hR:Hid (B8 w lim 1 a6p a files))(hz:Hid (∀s∈files,s.size≤maxLen))(hn12:files.length≤12)(hS:Hid (O4 w)):
 Calls prog 59 #[.slice a files.length kk] w fun e w'=>w.grownBy w' none∧b3N (w.heap.size+1) files e w':=by
 obtain⟨n,hn⟩:∃n,n=files.length:=⟨_,rfl⟩
 have HN:=A0 hn;rw[←hn]at hn12⊢;clear hn;have HB0:Hid (A3 (w.alloc (.cells #[.int .i64 0, .int .i64 0, .int .i64 0] 78)) w.heap.size #[.int .i64 0, .int .i64 0, .int .i64 0] 78):=A3.new w _ _;have HG0:Hid (w.grownBy (w.alloc (.cells #[.int .i64 0, .int .i64 0, .int .i64 0] 78)) none):=A2 _ _ _;go_enter func59,ntmps59;go_wp2_with fail
 go_loopw [5,13] (fun o i wr=>∃(k:Nat) (fs:List Cl) (qf:Nat→Qs),k≤n∧fs.length=k∧i= .int .i64 k∧Hid (T8 wr (w.heap.size+1) o fs qf)∧Hid (∀j (hj:j<files.length),j<k→G7 files[j]= .ok (cl fs j))∧Hid (A3 wr w.heap.size #[.int .i64 0, .int .i64 0, .int .i64 0] 78)∧Hid (w.grownBy wr none)) (fun _ i _=>n-(intOf i).toNat)
 case atStart=>exact⟨0,[],fun _=>q0,by omega,rfl,rfl,T8.nil _ _ _,fun j _ hj=>by omega,HB0,HG0⟩
 case round=>
  obtain⟨k,fs,qf,hk,hfl,rfl,hD,hall,hb,hg⟩:=hrel;obtain⟨va,vk,rfl⟩:=F0 hD.out.own;have HFL:=A0 hfl;rw[hfl];by_cases hlt:k<n
  ·have hkl:k<files.length:=by rw[←HN.out];exact hlt
   obtain⟨p,hp,-,hc⟩:=hR.out.keep hg.out k hkl;have c0:wr.cell? (p.add k)=some (.string files[k]):=by have:=hc 0 _ rfl;simpa using this
   subst hp;clear hc;obtain⟨s,hs⟩:∃s,s=files[k]:=⟨_,rfl⟩
   rw[←hs]at c0;have HSZ:s.size≤maxLen:=by rw[hs];exact hz.out _ (List.getElem_mem hkl)
   have HS1:=A0 hs;have HSh:=A0 (hS.out.keep hg.out (by simp));clear hs hfl;cases hd:G7 s with
   |error er=>
    have her:=a5W hd;have HDE:=A0 hd;have hne:(er.1:Int)≠0:=by omega
    clear hd;go_wp2_with (go_at_call 18;refine(a6M _ s HSZ HSh).mono ?_;intro e w4 he;rw[HDE.out]at he;obtain⟨hg4,rfl⟩:=a4v he;clear he;have hb4:=(hb.out.keep hg4 (by simp)).keep (A2 w4 (.cells #[.string ⟨#[]⟩, .string ⟨#[]⟩, .slice none 0 0, .slice none 0 0] 44) none) (by simp);obtain⟨r0,r1,r2⟩:=hb4.q3;obtain⟨z0,z1,z2⟩:=hb4.z3;have HB4:=C7 hb4;have HG4:=C7 (A1 (A1 hg.out hg4) (A2 w4 (.cells #[.string ⟨#[]⟩, .string ⟨#[]⟩, .slice none 0 0, .slice none 0 0] 44) none));clear hb4 hg4)
    clear r0 r1 r2 z0 z1 z2;generalize w4.alloc (.cells #[.string ⟨#[]⟩, .string ⟨#[]⟩, .slice none 0 0, .slice none 0 0] 44)=W5 at HB4 HG4⊢;have hb6:=((HB4.out.set 0 (.int .i64 k)).set 1 (.int .i64 0)).set 2 (.int .i64 er.2);have hg6:=a4a (w:=w) HG4.out (Nat.le_refl _) (i:=0) (j:=1) (k:=2) (x:= .int .i64 k) (y:= .int .i64 0) (z:= .int .i64 er.2);generalize ((W5.setCell ⟨w.heap.size,0,none⟩ (.int .i64 k)).setCell ⟨w.heap.size,1,none⟩ (.int .i64 0)).setCell ⟨w.heap.size,2,none⟩ (.int .i64 er.2)=W6 at hb6 hg6⊢;have q0:=hb6.c0;have q1:=hb6.c1;have q2:=hb6.c2;refine bodyPost_ret (v:= .tuple #[.slice none 0 0, .int .i64 er.1, .agg #[.int .i64 k, .int .i64 0, .int .i64 er.2]]) (by simp[results,results59,go_sem,q0,q1,q2]) rfl ⟨hg6, .inl ⟨k,hkl,er,by rw[←HS1.out];exact HDE.out,fun i hi hik=>⟨_,hall.out i hi hik⟩,rfl⟩⟩
   |ok c=>
    have HDE:=A0 hd;clear hd;obtain⟨inf,hi0,hz0,hz1,hz2⟩:=info_parts b2H;rw[HFL.out]at hD
    go_wp2_with (first
     |(go_at_call 18;refine(a6M _ s HSZ HSh).mono ?_;intro e w4 he;rw[HDE.out]at he;obtain⟨hg4,q,rfl,hlc⟩:=a6N he;clear he;have HLC:=C7 hlc;have HG4:=C7 hg4;clear hlc hg4)
     |(at_builtin;go_loud (refine wpList_append_own _ rfl _ _ 90 rfl (w.heap.size+1) 44 inf _ 4 80 underlying90 hi0 hz0 hz1 hz2 rfl (by decide) _ k ((List.range fs.length).flatMap (V5 fs qf)) rfl (World.ownsRow.alloc (World.ownsRow.alloc ((T8.keep hD.out HG4.out).ownk HFL.out) _) _) ⟨w4.heap.size+1,0,none⟩ 1 1 (P9 c q) rfl rfl (NC w4 c q).out (by simp[P9,Value.oneCell']) (by unfold maxLen;omega) (by omega) (by have:=hg.out.size;have:=HG4.out.size;have:=hb.out.lt;simp;omega) ?_;intro v' w6 hown hgrow _;have HD6:=C7 (T8.push (((T8.keep hD.out HG4.out).keep (A2 w4 (.cells #[.string c.name, .string c.super, .slice q.fa c.fields.length q.fk, .slice q.ma c.methods.length q.mc] 44) none)).keep (A2 _ (.cells #[.string c.name, .string c.super, .slice q.fa c.fields.length q.fk, .slice q.ma c.methods.length q.mc] 44) none)) (((HLC.out.lower (by have:=hg.out.size;have:=hb.out.lt;omega)).keep (A2 w4 (.cells #[.string c.name, .string c.super, .slice q.fa c.fields.length q.fk, .slice q.ma c.methods.length q.mc] 44) none)).keep (A2 _ (.cells #[.string c.name, .string c.super, .slice q.fa c.fields.length q.fk, .slice q.ma c.methods.length q.mc] 44) none)) (b9r HFL.out hown) hgrow);have HG6:=C7 (D5 (A1 (A1 (A1 hg.out HG4.out) (A2 w4 (.cells #[.string c.name, .string c.super, .slice q.fa c.fields.length q.fk, .slice q.ma c.methods.length q.mc] 44) none)) (A2 _ (.cells #[.string c.name, .string c.super, .slice q.fa c.fields.length q.fk, .slice q.ma c.methods.length q.mc] 44) none)) hgrow (fun x e=> .inl (by have:=(Y4 hD.out.own e).1;omega)));have HB6:=C7 ((((hb.out.keep HG4.out (by simp)).keep (A2 w4 (.cells #[.string c.name, .string c.super, .slice q.fa c.fields.length q.fk, .slice q.ma c.methods.length q.mc] 44) none) (by simp)).keep (A2 _ (.cells #[.string c.name, .string c.super, .slice q.fa c.fields.length q.fk, .slice q.ma c.methods.length q.mc] 44) none) (by simp)).keep hgrow (fun e=>K0 hD.out.own (Nat.lt_succ_self _) e.symm));clear hown hgrow)))
    go_roundw
    case rel=>exact⟨k+1,fs++ [c],a4f qf fs.length q,by omega,by simp[HFL.out],by go_num,HD6,by
     intro j hj hjk;rcases Nat.lt_or_ge j k with h1|h1
     ·rw[U8 (by rw[HFL.out];exact h1)];exact hall.out j hj h1
     ·obtain rfl:j=k:=by omega
      have e2:cl (fs++ [c]) j=c:=by rw[←HFL.out];exact a7v _ _
      rw[e2];have:=HDE.out;rw[HS1.out]at this;exact this,HB6,HG6⟩
    case measure=>simp[intOf];omega
  ·have hkn:k=n:=by omega
   rw[HFL.out]at hD;obtain⟨r0,r1,r2⟩:=hb.out.q3;obtain⟨z0,z1,z2⟩:=hb.out.z3;go_wp2_with fail
   clear r0 r1 r2 z0 z1 z2;have hb6:=((hb.out.set 0 (.int .i64 0)).set 1 (.int .i64 0)).set 2 (.int .i64 0);have hg6:=a4a (w:=w) hg.out (Nat.le_refl _) (i:=0) (j:=1) (k:=2) (x:= .int .i64 0) (y:= .int .i64 0) (z:= .int .i64 0);have hs6:=A1 (A1 (A9 wr ⟨w.heap.size,0,none⟩ (.int .i64 0)) (A9 _ ⟨w.heap.size,1,none⟩ (.int .i64 0))) (A9 _ ⟨w.heap.size,2,none⟩ (.int .i64 0));generalize ((wr.setCell ⟨w.heap.size,0,none⟩ (.int .i64 0)).setCell ⟨w.heap.size,1,none⟩ (.int .i64 0)).setCell ⟨w.heap.size,2,none⟩ (.int .i64 0)=W6 at hb6 hg6 hs6⊢;have q0:=hb6.c0;have q1:=hb6.c1;have q2:=hb6.c2;refine bodyPost_ret (v:= .tuple #[.slice va k vk, .int .i64 0, .agg #[.int .i64 0, .int .i64 0, .int .i64 0]]) (by simp[results,results59,go_sem,q0,q1,q2]) rfl ⟨hg6, .inr ⟨fs, .slice va k vk,qf,by rw[HFL.out,hkn,HN.out],fun i hi=>hall.out i hi (by rw[hkn,HN.out];exact hi),rfl,?_⟩⟩;have:=hD.out.far hs6 (Nat.lt_succ_self _);exact this
variable {cs:Array Value}
theorem LC.blk{bs:Nat}(h:LC w bs q c)(hb:A3 w g cs 78)(hg:w.grownBy w' (some g)):LC w' bs q c:=by
 have hk:∀{base e sz n:Nat} {v:Value} {xs:List Value},78≠e→w.ownsRow base e sz v n xs→w'.ownsRow base e sz v n xs:=fun hne ho=>ho.kept hg (.inr (I4 ho hb hne))
 refine⟨hk (by decide) h.1,?_⟩;obtain⟨css,h1,h2,h3⟩:=h.2;refine⟨css,h1,hk (by decide) h2,fun i c m hc hm=> ?_⟩;obtain⟨pv,cv,hv,hc,g1,g2,g3,g4⟩:=h3 i c m hc hm;exact⟨pv,cv,hv,hc,hk (by decide) g1,hk (by decide) g2,hk (by decide) g3,g4⟩
theorem T8.blk(h:T8 w B v fs qf)(hb:A3 w g cs 78)(hg:w.grownBy w' (some g)):T8 w' B v fs qf:=
 ⟨h.own.kept hg (.inr (I4 h.own hb (by decide))),fun i hi=>(h.lc i hi).blk hb hg⟩
theorem a5M{files:List ByteArray}(hl:fs.length=files.length)(h:∀i (hi:i<files.length),G7 files[i]= .ok (cl fs i)):∀c∈fs,S3 c:=fun c hc=>by
 obtain⟨i,hi,rfl⟩:=List.getElem_of_mem hc;have:=h i (by omega);rw[R8 hi]at this;exact Cf.b3r this
theorem b1S:∀(rs:List (Nat→Bool)) (n k:Nat) (er:Er),y9 rs n k= .error er→k≤er.1
 | [],n,k,er,h=>by simp[y9]at h
 |r::rs,n,k,er,h=>by
  simp only[y9]at h;split at h
  ·cases h;exact Nat.le_refl _
  ·exact Nat.le_trans (Nat.le_succ _) (b1S rs n (k+1) er h)
theorem b1R(h:P1 fs= .error er):0<er.1:=Nat.lt_of_lt_of_le (by decide) (b1S _ _ _ _ h)
theorem c4n(h:n≤12):n≤maxLen:=Nat.le_trans h (by decide)
theorem a9A{s:ByteArray}(h:s=C5∨E3 s=true):s.size≤maxLen:=by
 rcases h with rfl|h
 ·exact Nat.zero_le _
 ·exact c4n (a1j h)
theorem a9k(hck:∀c∈fs,S3 c)(hlp:P1 fs= .ok ()):B9 (A7++fs)∧o4 (A7++fs):=by
 have hok:=fun c hc=>(hck c hc).okCl
 have hr:a5k fs= .ok ():=by rw[←b3i fs hok];exact hlp
 exact⟨b2V fs hok hr,b2X fs hok hr⟩
theorem b3C{W:World}{b b':Nat}{m1 m2 m3:Nat}(hgm:Gm w B b v m1 m2 m3 (A7++fs) (O9 qf))(hck:∀c∈fs,S3 c)(hlp:P1 fs= .ok ())(hl12:fs.length≤12)(hg:w.grownBy W none)
 (hgv:Gvn W lim fs qf) (hlim:lim≤W.heap.size) (hb:∀k x,[v, .map (some m1), .map (some m2), .map (some m3)][k]? =some x→W.cell? ⟨b',k,none⟩=some x):∃p cap,v= .slice (some p) (A7++fs).length cap∧Lk W W.heap.size b' (A7++fs) p cap m1 m2 m3 (O9 qf):=by
 obtain⟨hW,hT⟩:=a9k hck hlp;have hokL:∀c∈A7++fs,Okc c:=fun c hc=>(List.mem_append.1 hc).elim (a7f 9 c) (fun h=>a4X (hck c h))
 have hlen:(A7++fs).length=9+fs.length:=by rw[List.length_append];rfl
 obtain⟨p,cap,hv,hK⟩:=(hgm.keep hg).kls (by omega) hokL (by omega);have hb0:=block_lt_of_cell (hb 0 _ rfl);have htl:fs.take fs.length=fs:=List.take_length;have hpf:l9 W W.heap.size (A7++fs) (O9 qf):=by have:=hgv.partF (Nat.le_refl fs.length);rw[htl]at this;exact this.upto hlim
 have hpm:S8 W W.heap.size (A7++fs) (O9 qf):=by have:=hgv.partM (Nat.le_refl fs.length);rw[htl]at this;exact this.upto hlim
 refine⟨p,cap,hv,⟨hb0,hK.p_lt,hK.m1_lt,hK.m2_lt,hK.m3_lt,by rw[←hv];exact hb 0 _ rfl,hb 1 _ rfl,hb 2 _ rfl,hb 3 _ rfl,hK.row,hK.n1,hK.n2,hK.n3,hK.names,hK.small⟩,fun n=>hW.up_eq n,hW.dist,?_,(Okc.sized hokL).1,(Okc.sized hokL).2,hpf,hpm⟩;unfold a7F;cases hf:C3 (A7++fs) ⟨#[]⟩with
 |none=>rfl
 |some i=>
  have:=M9 hf;exact absurd this.2.1 (hW.names i this.1)
theorem c2p(hck:∀c∈fs,S3 c)(hlp:P1 fs= .ok ())(hl12:fs.length≤12){i:Nat}(hi:i<fs.length){j:Nat}(hj:j<(cl fs i).methods.length)(htw:∀m∈(cl fs i).methods,Me2 m):MeC (A7++fs) (cl fs i).name ((cl fs i).methods.getD j I9):=by
 obtain⟨hW,hT⟩:=a9k hck hlp;have hcl:∀k,k<fs.length→S3 (cl fs k):=fun k hk=>by rw[R8 hk];exact hck _ (List.getElem_mem hk)
 have hlen:(A7++fs).length=9+fs.length:=by rw[List.length_append];rfl
 have hmem:(cl fs i).methods.getD j I9∈(cl fs i).methods:=by
  exact c7f
 have hm:=(hcl i hi).methods _ hmem;have hfile:=T2 fs i;refine⟨hW,hT,fun x hx=> ?_,fun x=> ?_,fun d hd=>a9A (.inr (hm.handlers d hd).cls),(htw _ hmem).2,?_,fun p hp=> ?_,by have:=hm.nc;omega,by have:=hm.np;omega,(htw _ hmem).1,by have:=hm.stack;omega,by have:=hm.locals;omega,by omega⟩
 ·have hx':=hm.code x hx;exact⟨a9A hx'.cls,a9A hx'.mem,hx'.op,fun h0=>(hx'.nn h0).1⟩
 ·unfold a0V;cases hk:L3 (A7++fs) x.cls x.mem with
  |none=>exact Nat.zero_le _
  |some p=>
   dsimp only;obtain⟨h1,h2,-⟩:=hW.meth_lt hk;unfold E1;by_cases h9:p.1<9
   ·have hbase:(cl (A7++fs) p.1).methods=[]:=by
     rw[U8 (by have:A7.length=9:=rfl;omega)];rcases a3C h9 with e|e|e|e|e|e|e|e|e<;>rw[e]<;>rfl
    rw[hbase]at h2;simp at h2
   ·obtain⟨k,hk2⟩:∃k,p.1=9+k:=⟨p.1-9,by omega⟩
    rw[hk2,T2]at h2⊢
    have hmm:(cl fs k).methods.getD p.2 I9∈(cl fs k).methods:=by
     exact c7g
    have:=((hcl k (by omega)).methods _ hmm).np;omega
 ·unfold G3;rw[←hfile,a6L hW.dist (by omega)];rfl
 ·have:=(hT.meths (9+i) (by omega) _ (by rw[hfile];exact hmem)).2.2.1 p hp;exact this.1
def a9F(B0:Nat)(files:List ByteArray)(e:Ending)(w':World):Prop:=
 (12<files.length∧e= .returned (.tuple #[.pointer none, .int .i64 17, .agg #[.int .i64 0, .int .i64 0, .int .i64 0]]))∨
 (files.length≤12∧∃(j:Nat) (hj:j<files.length) (er:Er),G7 files[j]= .error er∧(∀i (hi:i<files.length),i<j→∃c,G7 files[i]= .ok c)∧e= .returned (.tuple #[.pointer none, .int .i64 er.1, .agg #[.int .i64 j, .int .i64 0, .int .i64 er.2]]))∨
 (files.length≤12∧∃(fs:List Cl),fs.length=files.length∧(∀i (hi:i<files.length),G7 files[i]= .ok (cl fs i))∧
   ((∃er:Er,P1 fs= .error er∧e= .returned (.tuple #[.pointer none, .int .i64 er.1, .agg #[.int .i64 er.2, .int .i64 0, .int .i64 0]]))∨
    (P1 fs= .ok ()∧∃er f k at_:Nat,a3x (A7++fs) fs er f k at_∧
      ((er≠0∧e= .returned (.tuple #[.pointer none, .int .i64 er, .agg #[.int .i64 f, .int .i64 k, .int .i64 at_]]))∨
       (er=0∧∃(P B b:Nat) (v:Value) (m1 m2 m3:Nat) (qf:Nat→Qs),e= .returned (.tuple #[.pointer (some ⟨P,0,none⟩), .int .i64 0, .agg #[.int .i64 0, .int .i64 0, .int .i64 0]])∧
        B0≤P∧B0≤B∧A3 w' P #[v, .map (some m1), .map (some m2), .map (some m3), .bool true] 158∧Gm w' B b v m1 m2 m3 (A7++fs) (O9 qf)∧Gvn w' w'.heap.size fs qf)))))
theorem Gvn.upto{lim':Nat}(h:Gvn w lim fs qf)(hl:lim≤lim'):Gvn w lim' fs qf:=
 ⟨fun i hi=>(h.fields i hi).upto hl,h.meths.upto hl,h.sz,h.names,h.memb,h.few⟩
theorem b8e(w:World)(lim:Nat)(hl:lim≤w.heap.size)(files:List ByteArray)(a:Option Addr)(kk:Nat)(hR:Hid (B8 w lim 1 a6p a files))(hz:Hid (∀s∈files,s.size≤maxLen))(htw:Hid (∀s∈files,∀c,G7 s= .ok c→∀m∈c.methods,Me2 m))(hS:Hid (O4 w))(hBin:Hid (Bin w)):
 Calls prog 31 #[.slice a files.length kk, .bool true] w fun e w'=>w.grownBy w' none∧a9F w.heap.size files e w':=by
 obtain⟨n,hn⟩:∃n,n=files.length:=⟨_,rfl⟩
 have HN:=A0 hn
 have HDA:Hid (n≤12→Calls prog 59 #[.slice a n kk] (w.alloc (.cells #[.int .i64 0, .int .i64 0, .int .i64 0] 78)) fun e w'=>(w.alloc (.cells #[.int .i64 0, .int .i64 0, .int .i64 0] 78)).grownBy w' none∧b3N (w.heap.size+2) files e w'):=fun h12=>by
  have:=b4E (w.alloc (.cells #[.int .i64 0, .int .i64 0, .int .i64 0] 78)) lim (by simp;omega) files a kk (hR.out.keep (A2 _ _ _)) hz (by omega) (hS.out.keep (A2 w (.cells #[.int .i64 0, .int .i64 0, .int .i64 0] 78) none) (by simp));rw[←hn,World.size_alloc]at this;exact this
 rw[←hn];clear hn;have HB0:Hid (A3 (w.alloc (.cells #[.int .i64 0, .int .i64 0, .int .i64 0] 78)) w.heap.size #[.int .i64 0, .int .i64 0, .int .i64 0] 78):=A3.new w _ _;have HG0:Hid (w.grownBy (w.alloc (.cells #[.int .i64 0, .int .i64 0, .int .i64 0] 78)) none):=A2 _ _ _;have HBN:Hid (Bin w):=hBin;clear hR hS hBin;by_cases h12:12<n
 ·go_enter func31,ntmps31;obtain⟨r0,r1,r2⟩:=HB0.out.q3;obtain⟨z0,z1,z2⟩:=HB0.out.z3;go_wp2_with fail
  refine bodyPost_ret (v:= .tuple #[.pointer none, .int .i64 17, .agg #[.int .i64 0, .int .i64 0, .int .i64 0]]) (by simp[results,results31,go_sem,r0,r1,r2]) rfl ⟨HG0.out, .inl ⟨by rw[←HN.out];exact h12,rfl⟩⟩
 ·go_enter func31,ntmps31;go_wp2_with (go_at_call 59;refine(HDA.out (by omega)).mono ?_)
  rintro e w1 ⟨hg1,⟨j,hj,er,hde,hpre,rfl⟩|⟨fs,v,qf,hfl,hall,rfl,hD⟩⟩
  ·have her:=a5W hde;have hne:(er.1:Int)≠0:=by omega
   have HDE:=A0 hde;have HPR:=C7 hpre;clear hde hpre her;have hb1:=HB0.out.keep hg1 (by simp);have hq1:=hb1.keep (A2 w1 (.cells #[.int .i64 j, .int .i64 0, .int .i64 er.2] 78) none) (by simp);have hP1:A3 (w1.alloc (.cells #[.int .i64 j, .int .i64 0, .int .i64 er.2] 78)) w1.heap.size #[.int .i64 j, .int .i64 0, .int .i64 er.2] 78:=A3.new w1 _ _;obtain⟨z0,z1,z2⟩:=hq1.z3;obtain⟨r0,r1,r2⟩:=hq1.q3;obtain⟨p0,p1,p2⟩:=hP1.q3;have hg5w:w.grownBy (w1.alloc (.cells #[.int .i64 j, .int .i64 0, .int .i64 er.2] 78)) none:=A1 (A1 HG0.out hg1) (A2 _ _ _);go_wp2_with fail
   go_region
   all_goals
    have hb6:=A3.keep (row:=none) (((hq1.set 0 (.int .i64 j)).set 1 (.int .i64 0)).set 2 (.int .i64 er.2)) (B6 _ none) (by simp);have hg6:=A1 (a4a (w:=w) hg5w (Nat.le_refl _) (i:=0) (j:=1) (k:=2) (x:= .int .i64 j) (y:= .int .i64 0) (z:= .int .i64 er.2)) (B6 _ none);clear r0 r1 r2 z0 z1 z2 p0 p1 p2;generalize ((((w1.alloc (.cells #[.int .i64 j, .int .i64 0, .int .i64 er.2] 78)).setCell ⟨w.heap.size,0,none⟩ (.int .i64 j)).setCell ⟨w.heap.size,1,none⟩ (.int .i64 0)).setCell ⟨w.heap.size,2,none⟩ (.int .i64 er.2)).drew=W6 at hb6 hg6⊢;have q0:=hb6.c0;have q1:=hb6.c1;have q2:=hb6.c2;go_wp2_with fail
    refine bodyPost_ret (v:= .tuple #[.pointer none, .int .i64 er.1, .agg #[.int .i64 j, .int .i64 0, .int .i64 er.2]]) (by simp[results,results31,go_sem,q0,q1,q2]) rfl ⟨hg6, .inr (.inl ⟨by rw[←HN.out];omega,j,hj,er,HDE.out,HPR.out,rfl⟩)⟩
  ·obtain⟨va,vk,rfl⟩:=F0 hD.own;have hck:=a5M hfl hall;have h12f:fs.length≤12:=by rw[hfl,←HN.out];omega
   obtain⟨W2,hW2⟩:∃W2,W2=w1.alloc (.cells #[.int .i64 0, .int .i64 0, .int .i64 0] 78):=⟨_,rfl⟩
   have hg12:w1.grownBy W2 none:=by rw[hW2];exact A2 _ _ _
   have hgv:=(hD.keep hg12).gvn hck h12f;have HDC:=A0 (hD.keep hg12)
   have HLK:Hid (Calls prog 60 #[.slice va fs.length vk] W2 fun e w'=>W2.grownBy w' none∧a3w (W2.heap.size+1) fs qf (P1 fs) e w'):=
    b9J W2 W2.heap.size (Nat.le_refl _) fs qf va vk hgv.1 (fun c hc=>a4X (hck c hc)) (fun c hc=>(hck c hc).okCl) (c1W hck) hgv.2 (HBN.out.keep (A1 HG0.out (A1 hg1 hg12)))
   have hz2:W2.heap.size=w1.heap.size+1:=by rw[hW2];simp
   have HGV:=A0 hgv;have HCKL:Hid ((∀c∈fs,S3 c)∧fs.length≤12):=⟨hck,h12f⟩
   have HB1:=A0 ((HB0.out.keep hg1 (by simp)).keep hg12 (by simp));have HPL:Hid (A3 W2 w1.heap.size #[.int .i64 0, .int .i64 0, .int .i64 0] 78):=by rw[hW2];exact A3.new w1 _ _
   have HGW:=A0 (A1 HG0.out (A1 hg1 hg12));have HALL:=C7 hall;have HFL:=C7 hfl;have HZ2:=C7 hz2;rw[hz2]at HLK;have hgl1:w.heap.size+1≤w1.heap.size:=by have:=hg1.size;simp at this;omega
   clear hck hg12 hgv hD hall hfl HDA hg1 hz2;rw[hW2]at HLK HB1 HPL HGW HGV HDC;go_wp2_with (go_at_call 60;refine HLK.out.mono ?_)
   rintro e w3 ⟨hg3,hla⟩;have hb3:=HB1.out.keep hg3 (by simp);cases hlp:P1 fs with
   |error er=>
    rw[hlp]at hla;obtain rfl:=hla;have HLP:=A0 hlp;have hne:(er.1:Int)≠0:=by have:=b1R hlp;omega
    clear hlp;have hb4:=hb3.keep (A2 w3 (.cells #[.slice none 0 0, .map none, .map none, .map none] 151) none) (by simp);have hg4w:w.grownBy (w3.alloc (.cells #[.slice none 0 0, .map none, .map none, .map none] 151)) none:=A1 (A1 HGW.out hg3) (A2 _ _ _);obtain⟨r0,r1,r2⟩:=hb4.q3;obtain⟨z0,z1,z2⟩:=hb4.z3;go_wp2_with fail
    clear r0 r1 r2 z0 z1 z2;have hb6:=((hb4.set 0 (.int .i64 er.2)).set 1 (.int .i64 0)).set 2 (.int .i64 0);have hg6:=a4a (w:=w) hg4w (Nat.le_refl _) (i:=0) (j:=1) (k:=2) (x:= .int .i64 er.2) (y:= .int .i64 0) (z:= .int .i64 0);generalize (((w3.alloc (.cells #[.slice none 0 0, .map none, .map none, .map none] 151)).setCell ⟨w.heap.size,0,none⟩ (.int .i64 er.2)).setCell ⟨w.heap.size,1,none⟩ (.int .i64 0)).setCell ⟨w.heap.size,2,none⟩ (.int .i64 0)=W6 at hb6 hg6⊢;have q0:=hb6.c0;have q1:=hb6.c1;have q2:=hb6.c2;refine bodyPost_ret (v:= .tuple #[.pointer none, .int .i64 er.1, .agg #[.int .i64 er.2, .int .i64 0, .int .i64 0]]) (by simp[results,results31,go_sem,q0,q1,q2]) rfl ⟨hg6, .inr (.inr ⟨by rw[←HN.out];omega,fs,HFL.out,HALL.out, .inl ⟨er,HLP.out,rfl⟩⟩)⟩
   |ok u=>
    rw[hlp]at hla;obtain⟨b,v,m1,m2,m3,rfl,hgm⟩:=hla;obtain⟨ra,rk,rfl⟩:=F0 hgm.own;have hb4:=(hb3.keep (A2 w3 (.cells #[.slice ra (A7++fs).length rk, .map (some m1), .map (some m2), .map (some m3)] 151) none) (by simp))
    have hpl4:=(HPL.out.keep hg3 (by simp)).keep (A2 w3 (.cells #[.slice ra (A7++fs).length rk, .map (some m1), .map (some m2), .map (some m3)] 151) none) (by simp);have hcb4:A3 (w3.alloc (.cells #[.slice ra (A7++fs).length rk, .map (some m1), .map (some m2), .map (some m3)] 151)) w3.heap.size #[.slice ra (A7++fs).length rk, .map (some m1), .map (some m2), .map (some m3)] 151:=A3.new w3 _ _;have hgv4:=HGV.out.1.keep (A1 hg3 (A2 w3 (.cells #[.slice ra (A7++fs).length rk, .map (some m1), .map (some m2), .map (some m3)] 151) none));have hrd4:=(HGV.out.2.keep (A1 hg3 (A2 w3 (.cells #[.slice ra (A7++fs).length rk, .map (some m1), .map (some m2), .map (some m3)] 151) none)))
    have hsz24:=(A1 hg3 (A2 w3 (.cells #[.slice ra (A7++fs).length rk, .map (some m1), .map (some m2), .map (some m3)] 151) none)).size;obtain⟨pp,cap,hv,hLk⟩:=b3C hgm HCKL.out.1 hlp HCKL.out.2 (A2 w3 (.cells #[.slice ra (A7++fs).length rk, .map (some m1), .map (some m2), .map (some m3)] 151) none) (hgv4.upto hsz24) (Nat.le_refl _) (b':=w3.heap.size) (fun k x hx=>hcb4.cell k x (by simpa using hx));have hCA:=b5f (w3.alloc (.cells #[.slice ra (A7++fs).length rk, .map (some m1), .map (some m2), .map (some m3)] 151)) (w3.alloc (.cells #[.slice ra (A7++fs).length rk, .map (some m1), .map (some m2), .map (some m3)] 151)).heap.size w3.heap.size fs (A7++fs) rfl pp cap m1 m2 m3 qf hLk (Nat.le_refl _) va vk (hrd4.upto hsz24) hLk.pm HCKL.out.2 (fun i hi=>by have:=(HCKL.out.1 _ (by rw[R8 hi];exact List.getElem_mem hi):S3 (cl fs i)).nm;omega) (fun i hi j hj=>c2p HCKL.out.1 hlp HCKL.out.2 hi hj (htw.out _ (List.getElem_mem (by rw[←HFL.out];exact hi)) _ (HALL.out i (by rw[←HFL.out];exact hi))));have HCA:=A0 hCA;have HLP:Hid (P1 fs= .ok ()):=hlp;have HGM4:=C7 (hgm.keep (A2 w3 (.cells #[.slice ra (A7++fs).length rk, .map (some m1), .map (some m2), .map (some m3)] 151) none));have HDC4:=C7 (HDC.out.keep (A1 hg3 (A2 w3 (.cells #[.slice ra (A7++fs).length rk, .map (some m1), .map (some m2), .map (some m3)] 151) none)));have HB4:=C7 hb4;have HPL4:=C7 hpl4;have HCB4:=C7 hcb4;have HG4:=C7 (A1 (A1 HGW.out hg3) (A2 w3 (.cells #[.slice ra (A7++fs).length rk, .map (some m1), .map (some m2), .map (some m3)] 151) none));clear hb3 hb4 hpl4 hcb4 hgv4 hrd4 hsz24 hLk hCA hlp hgm hv;have hlt1:w1.heap.size<w3.heap.size:=by have:=hg3.size;simp at this;omega
    have HLT:Hid (w.heap.size<w1.heap.size∧w1.heap.size<w3.heap.size∧w3.heap.size<(w3.alloc (.cells #[.slice ra (A7++fs).length rk, .map (some m1), .map (some m2), .map (some m3)] 151)).heap.size):=⟨by have:=HB0.out.lt;have h2:=HGW.out.size;have h3:=HPL.out.lt;have h4:=hgl1;omega,hlt1,by simp⟩
    obtain⟨NL,hNL⟩:∃NL,NL=(A7++fs).length:=⟨_,rfl⟩
    rw[←hNL]at HCA HGM4 HB4 HPL4 HCB4 HG4 HLT HDC4⊢;clear hNL hlt1;go_upto_region 11 with(go_at_call 61;go_loud (refine HCA.out.mono ?_;rintro e w5 ⟨er,f,k,at_,rfl,hall5,hg5⟩;have hpl5:=HPL4.out.keep hg5 A5;obtain⟨p0,p1,p2⟩:=hpl5.q3;obtain⟨f0,f1,f2⟩:=hpl5.z3))
    clear p0 p1 p2 f0 f1 f2;have hs6:=A1 (A1 (A9 w5 ⟨w1.heap.size,0,none⟩ (.int .i64 f)) (A9 _ ⟨w1.heap.size,1,none⟩ (.int .i64 k))) (A9 _ ⟨w1.heap.size,2,none⟩ (.int .i64 at_));have hpl6:=((hpl5.set 0 (.int .i64 f)).set 1 (.int .i64 k)).set 2 (.int .i64 at_);have hb6:=(HB4.out.keep hg5 A5).keep hs6 (by simp;have:=HLT.out;omega);have hcb6:=(HCB4.out.keep hg5 A5).keep hs6 (by simp;have:=HLT.out;omega);have hdc6:=(HDC4.out.keep hg5).blk hpl5 hs6;have hgm6:=Am.far (HGM4.out.keep hg5) hs6 (by show w1.heap.size<_;first|omega|(simp;omega));have hg6:=D5 (A1 HG4.out hg5) hs6 (fun k e=>by cases e;exact .inl (Nat.le_of_lt HLT.out.1));have hz6:=hcb6.lt;clear hpl5;generalize ((w5.setCell ⟨w1.heap.size,0,none⟩ (.int .i64 f)).setCell ⟨w1.heap.size,1,none⟩ (.int .i64 k)).setCell ⟨w1.heap.size,2,none⟩ (.int .i64 at_)=W6 at hs6 hpl6 hb6 hcb6 hgm6 hdc6 hg6 hz6⊢;have HAL:=A0 hall5;obtain⟨r0,r1,r2⟩:=hb6.q3;obtain⟨z0,z1,z2⟩:=hb6.z3;have HB6:=C7 hb6;have HG6:=C7 hg6;have HGM6:=C7 hgm6;have HDC6:=C7 hdc6;by_cases he0:er=0
    ·subst he0;obtain⟨n0,n1,n2,n3⟩:=hcb6.q4;have lt1:=hb6.lt;clear hs6 hpl6 hb6 hcb6 hgm6 hdc6 hg6 hg5 hall5;go_wp2_with fail
     clear r0 r1 r2 z0 z1 z2 n0 n1 n2 n3;have hs7:=A1 (A1 (A9 W6 ⟨w.heap.size,0,none⟩ (.int .i64 0)) (A9 _ ⟨w.heap.size,1,none⟩ (.int .i64 0))) (A9 _ ⟨w.heap.size,2,none⟩ (.int .i64 0));have hb7:=((HB6.out.set 0 (.int .i64 0)).set 1 (.int .i64 0)).set 2 (.int .i64 0);have hdc7:=HDC6.out.blk HB6.out hs7;have hgm7:=Am.far HGM6.out hs7 (by show w.heap.size<_;have:=HLT.out.1;first|omega|(simp;omega));have hg7:=D5 HG6.out hs7 (fun k e=>by cases e;exact .inl (Nat.le_refl _));have hsz7:(((W6.setCell ⟨w.heap.size,0,none⟩ (.int .i64 0)).setCell ⟨w.heap.size,1,none⟩ (.int .i64 0)).setCell ⟨w.heap.size,2,none⟩ (.int .i64 0)).heap.size=W6.heap.size:=by simp[World.setCell]
     generalize ((W6.setCell ⟨w.heap.size,0,none⟩ (.int .i64 0)).setCell ⟨w.heap.size,1,none⟩ (.int .i64 0)).setCell ⟨w.heap.size,2,none⟩ (.int .i64 0)=W7 at hs7 hb7 hgm7 hdc7 hg7 hsz7⊢;have hb8:=hb7.keep (A2 W7 (.cells #[.slice ra NL rk, .map (some m1), .map (some m2), .map (some m3), .bool true] 158) none) (by simp)
     have hp8:A3 (W7.alloc (.cells #[.slice ra NL rk, .map (some m1), .map (some m2), .map (some m3), .bool true] 158)) W6.heap.size #[.slice ra NL rk, .map (some m1), .map (some m2), .map (some m3), .bool true] 158:=by
      have:=A3.new W7 #[.slice ra NL rk, .map (some m1), .map (some m2), .map (some m3), .bool true] 158;rw[hsz7]at this;exact this
     have hg8:=A1 hg7 (A2 W7 (.cells #[.slice ra NL rk, .map (some m1), .map (some m2), .map (some m3), .bool true] 158) none);have hgm8:=Gm.keep hgm7 (A2 W7 (.cells #[.slice ra NL rk, .map (some m1), .map (some m2), .map (some m3), .bool true] 158) none);have hdc8:=(hdc7.keep (A2 W7 (.cells #[.slice ra NL rk, .map (some m1), .map (some m2), .map (some m3), .bool true] 158) none)).gvn HCKL.out.1 HCKL.out.2;generalize W7.alloc (.cells #[.slice ra NL rk, .map (some m1), .map (some m2), .map (some m3), .bool true] 158)=W8 at hb8 hp8 hgm8 hdc8 hg8⊢;have q0:=hb8.c0;have q1:=hb8.c1;have q2:=hb8.c2;refine bodyPost_ret (v:= .tuple #[.pointer (some ⟨W6.heap.size,0,none⟩), .int .i64 0, .agg #[.int .i64 0, .int .i64 0, .int .i64 0]]) (by simp[results,results31,go_sem,q0,q1,q2]) rfl ⟨hg8, .inr (.inr ⟨by rw[←HN.out];omega,fs,HFL.out,HALL.out, .inr ⟨HLP.out,0,f,k,at_,HAL.out, .inr ⟨rfl,W6.heap.size,w1.heap.size+1+1,b,_,m1,m2,m3,qf,rfl,Nat.le_of_lt lt1,by have:=HLT.out.1;omega,hp8,?_⟩⟩⟩)⟩;exact⟨hgm8,hdc8.1⟩
    ·have hne:(er:Int)≠0:=by omega
     have HNE:Hid (er≠0):=he0;obtain⟨p0,p1,p2⟩:=hpl6.q3;clear hs6 hpl6 hb6 hcb6 hgm6 hdc6 hg6 hg5 hall5 he0;go_wp2_with fail
     go_region
     all_goals
      have hb8:=A3.keep (row:=none) (((HB6.out.set 0 (.int .i64 f)).set 1 (.int .i64 k)).set 2 (.int .i64 at_)) (B6 _ none) (by simp);have hg8:=A1 (a4a (w:=w) HG6.out (Nat.le_refl _) (i:=0) (j:=1) (k:=2) (x:= .int .i64 f) (y:= .int .i64 k) (z:= .int .i64 at_)) (B6 _ none);clear r0 r1 r2 z0 z1 z2 p0 p1 p2;generalize (((W6.setCell ⟨w.heap.size,0,none⟩ (.int .i64 f)).setCell ⟨w.heap.size,1,none⟩ (.int .i64 k)).setCell ⟨w.heap.size,2,none⟩ (.int .i64 at_)).drew=W8 at hb8 hg8⊢;have q0:=hb8.c0;have q1:=hb8.c1;have q2:=hb8.c2;go_wp2_with fail
      refine bodyPost_ret (v:= .tuple #[.pointer none, .int .i64 er, .agg #[.int .i64 f, .int .i64 k, .int .i64 at_]]) (by simp[results,results31,go_sem,q0,q1,q2]) rfl ⟨hg8, .inr (.inr ⟨by rw[←HN.out];omega,fs,HFL.out,HALL.out, .inr ⟨HLP.out,er,f,k,at_,HAL.out, .inl ⟨HNE.out,rfl⟩⟩⟩)⟩
theorem a3P:∀c∈A7,c.fields=[]∧c.methods=[]∧c.name.size≤12:=by
 intro c hc;simp only[A7,List.mem_cons,List.not_mem_nil,or_false]at hc;rcases hc with rfl|rfl|rfl|rfl|rfl|rfl|rfl|rfl|rfl<;>exact⟨rfl,rfl,by decide⟩
theorem b7b(fs:List Cl){c:ByteArray}(h:C3 A7 c=some k):C3 (A7++fs) c=some k:=by
 unfold C3 at h⊢;rw[List.findIdx?_append,h];rfl
theorem b2W{c:ByteArray}(hL:0<L.length)(h:C3 L c=some k):0<(up L c).length:=by
 unfold up;obtain⟨n,hn⟩:∃n,L.length=n+1:=⟨L.length-1,by omega⟩
 rw[hn,E9,h];simp
theorem c0J{c:ByteArray}(h:up L c≠ []):∃k,C3 L c=some k:=by
 cases hf:C3 L c with
 |some k=>exact⟨k,rfl⟩
 |none=>
  exfalso;apply h;unfold up;cases L.length with
  |zero=>rfl
  |succ n=>rw[E9,hf]
theorem a9B(hck:∀c∈fs,S3 c)(hlp:P1 fs= .ok ()):b3y (A7++fs):=by
 obtain⟨hW,-⟩:=a9k hck hlp;have hlen:0<(A7++fs).length:=by rw[List.length_append];exact Nat.lt_of_lt_of_le (by decide) (Nat.le_add_right _ _)
 have hmem:∀i,i<(A7++fs).length→cl (A7++fs) i∈A7∨cl (A7++fs) i∈fs:=fun i hi=>by
  rw[R8 hi];exact List.mem_append.1 (List.getElem_mem hi)
 refine⟨fun i hi=> ?_,fun c hc=> ?_,fun cls mem p hp=> ?_⟩
 ·rcases hmem i hi with h|h
  ·rw[(a3P _ h).1];simp
  ·have:=(hck _ h).nf;omega
 ·have hk:∃k,C3 A7 c=some k:=by
   simp only[List.mem_cons,List.not_mem_nil,or_false]at hc;rcases hc with rfl|rfl|rfl|rfl|rfl|rfl|rfl
   ·exact⟨2,by decide⟩
   ·exact⟨3,by decide⟩
   ·exact⟨4,by decide⟩
   ·exact⟨5,by decide⟩
   ·exact⟨6,by decide⟩
   ·exact⟨7,by decide⟩
   ·exact⟨8,by decide⟩
  obtain⟨k,hk⟩:=hk;exact b2W hlen (b7b fs hk)
 ·obtain⟨h1,h2,-,-,-⟩:=hW.meth_lt hp
  have hne:up (A7++fs) cls≠ []:=fun e=>by
   unfold L3 at hp;rw[e]at hp;cases hp
  obtain⟨k,hk⟩:=c0J hne;have hks:=M9 hk
  have hsz:cls.size≤2048:=by
   rw[←hks.2.1];rcases hmem k hks.1 with h|h
   ·have:=(a3P _ h).2.2;omega
   ·have:=a1j (hck _ h).name;omega
  have hm:∃c∈fs,E1 (A7++fs) p∈c.methods:=by
   rcases hmem p.1 h1 with h|h
   ·rw[(a3P _ h).2.1]at h2;simp at h2
   ·refine⟨_,h,?_⟩;unfold E1;exact c7g
  obtain⟨c,hc,hm⟩:=hm;have hme:=(hck c hc).methods _ hm;exact⟨b2W hlen hk,hsz,by have:=hme.locals;omega,by have:=hme.np;omega⟩
section
variable{L:List Cl}{s s':Ms}{f g:Fm}{fs gs:List Fm}{i:In}{n:Nat}
structure LSz(L:List Cl):Prop where
 ok:LOk L
 few:a4o L
 nz:∀i,i<L.length→(cl L i).name.size≤maxLen
variable {fs:List Cl}
theorem c2t(hck:∀c∈fs,S3 c)(hlp:P1 fs= .ok ()):LSz (A7++fs):=by
 have hok:=fun c hc=>(hck c hc).okCl
 have hr:a5k fs= .ok ():=by rw[←b3i fs hok];exact hlp
 have hmem:∀i,i<(A7++fs).length→cl (A7++fs) i∈A7∨cl (A7++fs) i∈fs:=fun i hi=>by
  rw[R8 hi];exact List.mem_append.1 (List.getElem_mem hi)
 refine⟨⟨b2V fs hok hr,b2X fs hok hr,fun i hi=> ?_,fun i hi m hm=> ?_⟩,(a9B hck hlp).few,fun i hi=> ?_⟩
 ·by_cases h9:i<9
  ·have hb:=a3P (cl A7 i) (by rw[R8 (show i<A7.length from h9)];exact List.getElem_mem _);have e:cl (A7++fs) i=cl A7 i:=U8 h9;unfold ovR;rw[e,hb.2.1];rfl
  ·obtain⟨q,rfl⟩:∃q,i=9+q:=⟨i-9,by omega⟩
   rw[T2];exact a7j hr (fun i=>ovR (A7++fs) (cl fs i)) (by simp) q (by simp[A7]at hi;omega)
 ·rcases hmem i hi with h|h
  ·rw[(a3P _ h).2.1]at hm;cases hm
  ·exact(hck _ h).methods m hm
 ·rcases hmem i hi with h|h
  ·exact Nat.le_trans (a3P _ h).2.2 (by decide)
  ·exact Nat.le_trans (a1j (hck _ h).name) (by decide)
theorem c1J{f k a:Nat}(hck:∀c∈fs,S3 c)(hA:a3x (A7++fs) fs 0 f k a):a3r (A7++fs):=by
 rcases hA with⟨h,-⟩|⟨-,-,-,-,hA⟩
 ·exact absurd rfl h
 ·intro i hi m hm;by_cases h9:i<9
  ·have hb:=a3P (cl A7 i) (by rw[R8 (show i<A7.length from h9)];exact List.getElem_mem _);have e:cl (A7++fs) i=cl A7 i:=U8 h9;rw[e,hb.2.1]at hm;cases hm
  ·obtain⟨q,rfl⟩:∃q,i=9+q:=⟨i-9,by omega⟩
   rw[T2]at hm⊢;have hq:q<fs.length:=by simp[A7]at hi;omega
   obtain⟨j,hj,rfl⟩:=List.getElem_of_mem hm;have hc:=hA q j hq hj;have e:(cl fs q).methods.getD j I9=(cl fs q).methods[j]:=by rw[List.getD_eq_getElem?_getD,List.getElem?_eq_getElem hj];rfl
   rw[e]at hc;have hmok:=(hck (cl fs q) (by rw[R8 hq];exact List.getElem_mem _)).methods _ hm;unfold V2 at hc;cases hco:l7 (A7++fs) (cl fs q).methods[j]with
   |some a=>rw[hco]at hc;exact absurd hc.1 (by omega)
   |none=>
    rw[hco]at hc;obtain⟨o,ho,hc⟩:=hc;cases o with
    |some a=>exact absurd hc.1 (by omega)
    |none=>
     obtain⟨T,hT,⟨h,h15,-⟩|⟨-,-,hf⟩⟩:=hc
     ·exact absurd h15 (by omega)
     ·exact⟨T,a7c hco,b0o (a7c hco) (fun x hx=>⟨(hmok.code x hx).op,fun h=>((hmok.code x hx).nn h).1⟩) ho,hT,hf⟩
end
section
variable{E:En}{W0:World}{S0:List Nat}{loc:List Lo}{fp:Nat}{fps:List Nat}{s s':Ms}{st:Nat}{L:List Cl}{fast:Bool}{B k n:Nat}
def a1H(W:World)(P:Nat)(L:List Cl)(ck:Bool):Prop:=∃lim p cap m1 m2 m3 q,lim≤W.heap.size∧Lk W lim P L p cap m1 m2 m3 q∧W.cell? ⟨P,4,none⟩=some (.bool ck)
theorem a1H.keep{W W':World}{P:Nat}{ck:Bool}(h:a1H W P L ck)(hg:W.grownBy W' none):a1H W' P L ck:=by
 obtain⟨lim,p,cap,m1,m2,m3,q,h1,h2,h3⟩:=h;exact⟨lim,p,cap,m1,m2,m3,q,Nat.le_trans h1 hg.size,h2.keep hg h1,hg.cell h3 A5⟩
theorem Mc.grown{W:World}(h:Mc E W [] W0 fps s st loc):W.grownBy W0 none:=by
 obtain⟨y,-,h⟩:=h;exact⟨h.only.os,h.only.tape,h.only.output,h.only.size,fun k hk _=>h.only.low k hk (by simp)⟩
def Lkd(fs:List Cl):Prop:=(∀c∈fs,S3 c)∧P1 fs= .ok ()∧fs.length≤12
theorem Lkd.sz{fs:List Cl}(h:Lkd fs):LSz (A7++fs):=c2t h.1 h.2.1
theorem b9D{B0:Nat}{files:List ByteArray}{e:Ending}{w':World}(h:a9F B0 files e w'):
 (∃er a,er≠0∧e= .returned (.tuple #[.pointer none, .int .i64 (er:Nat),a]))∨
 ∃P fs,fs.length=files.length∧(∀i (hi:i<files.length),G7 files[i]= .ok (cl fs i))∧Lkd fs∧a3r (A7++fs)∧a1H w' P (A7++fs) true∧e= .returned (.tuple #[.pointer (some ⟨P,0,none⟩), .int .i64 0, .agg #[.int .i64 0, .int .i64 0, .int .i64 0]]):=by
 rcases h with⟨-,he⟩|⟨-,j,hj,er,hd,-,he⟩|⟨hl12,fs,hl,hd,h⟩
 ·exact .inl ⟨17,_,by omega,he⟩
 ·exact .inl ⟨er.1,_,by have:=a5W hd;omega,he⟩
 ·have hck:=a5M hl hd;rcases h with⟨er,hlp,he⟩|⟨hlp,er,f,k,at_,hA,h⟩
  ·exact .inl ⟨er.1,_,by have:=b1R hlp;omega,he⟩
  ·rcases h with⟨hne,he⟩|⟨rfl,P,B,b,v,m1,m2,m3,qf,he,-,-,hb,hgm,hgv⟩
   ·exact .inl ⟨er,_,hne,he⟩
   ·refine .inr ⟨P,fs,hl,hd,⟨hck,hlp,by omega⟩,c1J hck hA,?_,he⟩
    obtain⟨p,cap,hv,hLk⟩:=b3C (W:=w') (b':=P) hgm hck hlp (by omega) (I8 _ _) hgv (Nat.le_refl _) (fun k x hx=>hb.cell k x (by
     have:k<4:=(List.getElem?_eq_some_iff.1 hx).1;rcases(by omega:k=0∨k=1∨k=2∨k=3)with rfl|rfl|rfl|rfl<;>exact hx))
    exact⟨_,p,cap,m1,m2,m3,_,Nat.le_refl _,hLk,hb.cell 4 _ rfl⟩
end
section
variable{E:En}{W0:World}{S0:List Nat}{loc:List Lo}{fp:Nat}{fps:List Nat}{s:Ms}{st:Nat}{f:Fm}{fs:List Fm}
theorem b9N(w:World)(op a:Int):Calls prog 47 #[.int .i64 op, .int .i64 a] w fun e w'=>e= .returned (.agg #[.int .i64 op, .int .i64 a, .string ⟨#[]⟩, .string ⟨#[]⟩])∧w.grownBy w' none:=by
 go_enter func47,ntmps47;go_wp2_with fail
 have hb:=A3.new w #[.int .i64 op, .int .i64 a, .string ⟨#[]⟩, .string ⟨#[]⟩] 120;obtain⟨r0,r1,r2,r3⟩:=hb.q4;exact bodyPost_ret (v:= .agg #[.int .i64 op, .int .i64 a, .string ⟨#[]⟩, .string ⟨#[]⟩]) (by simp[results,results47,go_sem,r0,r1,r2,r3]) rfl ⟨rfl,A2 _ _ _⟩
theorem b6S(w:World):Calls prog 89 #[] w fun e w'=>e= .returned (.agg #[.int .i64 1, .string ⟨#[]⟩])∧w.grownBy w' none:=by
 go_enter func89,ntmps89;go_wp2_with fail
 have hb:=A3.new w #[.int .i64 1, .string ⟨#[]⟩] 98;obtain⟨r0,r1⟩:=hb.q2;exact bodyPost_ret (v:= .agg #[.int .i64 1, .string ⟨#[]⟩]) (by simp[results,results89,go_sem,r0,r1]) rfl ⟨rfl,A2 _ _ _⟩
end
section
variable{E:En}{W0:World}{S0:List Nat}{loc:List Lo}{fp:Nat}{fps:List Nat}{s:Ms}{st:Nat}{f:Fm}{fs:List Fm}
theorem b5P(w:World)(nm:ByteArray)(n:Nat)(hn9:n≤1000)(ca ha:Option Addr)(cn ck hn hk:Nat):
 Calls prog 46 #[.string nm, .int .i64 (n:Int), .slice ca cn ck, .slice ha hn hk] w fun e w'=>∃pv,e= .returned (.agg #[.string nm,pv, .int .i64 1, .string ⟨#[]⟩, .int .i64 6, .int .i64 ((n:Int)+3), .slice ca cn ck, .slice ha hn hk])∧w'.ownsRow w.heap.size 98 2 pv n ((List.replicate n O1).flatMap C9)∧w.grownBy w' none:=by
 have HW:=A0 b6S;have e3:IntKind.i64.wrap ((n:Int)+3)=(n:Int)+3:=IntWalk.i64_in _ (by omega);go_enter func46,ntmps46;go_upto_region 3 with(go_at_call 89;refine(HW.out _).mono ?_;rintro e w1 ⟨rfl,hg1⟩)
 have hB0:=A3.new w1 #[.string nm, .slice none 0 0, .int .i64 1, .string ⟨#[]⟩, .int .i64 6, .int .i64 ((n:Int)+3), .slice ca cn ck, .slice ha hn hk] 102;have hA0:=((A3.new w mZ 102).keep hg1 A5).keep (A2 w1 (.cells #[.string nm, .slice none 0 0, .int .i64 1, .string ⟨#[]⟩, .int .i64 6, .int .i64 ((n:Int)+3), .slice ca cn ck, .slice ha hn hk] 102) none) A5;have hgw0:=A1 (A1 (A2 w (.cells mZ 102) none) hg1) (A2 w1 (.cells #[.string nm, .slice none 0 0, .int .i64 1, .string ⟨#[]⟩, .int .i64 6, .int .i64 ((n:Int)+3), .slice ca cn ck, .slice ha hn hk] 102) none);obtain⟨k9,hk9⟩:∃k9,k9=w1.heap.size:=⟨_,rfl⟩
 have HK9:Hid (w.heap.size<k9):=by have:=hg1.size;rw[World.size_alloc]at this;show _<_;omega
 rw[←hk9]at hB0⊢;generalize w1.alloc (.cells #[.string nm, .slice none 0 0, .int .i64 1, .string ⟨#[]⟩, .int .i64 6, .int .i64 ((n:Int)+3), .slice ca cn ck, .slice ha hn hk] 102)=W1 at hB0 hA0 hgw0⊢;have HB0:=A0 hB0;have HA0:=A0 hA0;have HG0:=A0 hgw0;obtain⟨inf,hi0,hz0,hz1,hz2⟩:=info_parts a5S;clear hB0 hA0 hgw0 hk9 hg1;go_loopg [10] n (fun gk v10 W=>∃(j:Nat) (pv:Value),v10= .int .i64 (j:Int)∧gk+j=n∧A3 W k9 #[.string nm,pv, .int .i64 1, .string ⟨#[]⟩, .int .i64 6, .int .i64 ((n:Int)+3), .slice ca cn ck, .slice ha hn hk] 102∧A3 W w.heap.size mZ 102∧W.ownsRow w.heap.size 98 2 pv j ((List.replicate j O1).flatMap C9)∧w.grownBy W none)
 case atStart=>exact⟨0, .slice none 0 0,rfl,by omega,HB0.out,HA0.out,World.ownsRow_nil _ _ _ _,HG0.out⟩
 case round=>
  obtain⟨j,pv,rfl,hj,hB,hA,hO,hgr⟩:=hrel;have HJ:=A0 hj;obtain⟨ua,uk,rfl⟩:=F0 hO;have hlt9:=HK9.out;by_cases hlt:j<n
  ·have d1:decide ((j:Int)<(n:Int))=true:=decide_eq_true (by omega);have d2:=decide_eq_true hlt;have e6:IntKind.i64.wrap ((j:Int)+1)=((j+1:Nat):Int):=IntWalk.i64_in _ (by omega);have hj16:j≤1000:=by omega
   have HR3:=A0 hO;have HB3:=A0 hB;have HA3:=A0 hA;have HGr:=A0 hgr;have q2:=hB.c1;have z2:=hB.frozen 1;have hne:=I4 hO hB (by decide);have hwl:=hB.lt;have hbW:=hgr.size;have HNN:Hid ((Value.slice ua j uk).ownBlock=none∨(Value.slice ua j uk).ownBlock≠(none:Option Nat)):=by show _∨_;cases ua<;>simp[Value.ownBlock]
   have HLT:=A0 hlt;clear hB hA hO hj hgr hlt;go_wp2_with fail
   go_region_law (first
    |(refine step_append_lies _ rfl _ _ 96 rfl w.heap.size 98 inf _ 2 24 underlying96 hi0 hz0 hz1 hz2 rfl (by decide) _ j ((List.replicate j O1).flatMap C9) rfl (World.ownsRow.alloc HO4.out _) ⟨w4.heap.size,0,none⟩ 1 1 [.int .i64 1, .string ⟨#[]⟩] rfl rfl (S6 w4 _ _) (by simp[Value.oneCell']) (by omega) (by unfold maxLen;omega) (by omega) (by simp;omega) _ rfl ?_;intro g5 cap w5 hown5 hgrow5 hat5 hlt5;have hb5:=(HB4.out.keep (A2 w4 (.cells #[.int .i64 1, .string ⟨#[]⟩] 98) none) A5).keep hgrow5 (I4 (World.ownsRow.alloc HO4.out _) (HB4.out.keep (A2 w4 (.cells #[.int .i64 1, .string ⟨#[]⟩] 98) none) A5) (by decide)).symm;have q5:=hb5.c1;have z5:=hb5.frozen 1)
    |(go_simp
      go_at_call 89
      refine(HW.out _).mono ?_;rintro e w4 ⟨rfl,hg4⟩;have hg34:=A1 (B6 wr none) hg4;have q24:=hg34.cell q2 A5;have z24:=(hg34.frozen_far ⟨k9,1,none⟩ hwl (by simp)).trans z2;have q25:∀o,(w4.alloc o).cell? ⟨k9,1,none⟩=some (.slice ua j uk):=fun o=>(A2 w4 o none).cell q24 A5
      have hsz4:=hg34.size;have HO4:Hid (_):=HR3.out.kept hg34 HNN.out;have HB4:=A0 (HB3.out.keep hg34 A5);dsimp only))
   all_goals
    have hgA:=A1 hg34 (A2 w4 (.cells #[.int .i64 1, .string ⟨#[]⟩] 98) none);have hOA:=World.ownsRow.alloc (o:= .cells #[.int .i64 1, .string ⟨#[]⟩] 98) HO4.out;have hb6:=hb5.set 1 (.slice (some ⟨g5,0,none⟩) (j+1) cap);have hs6:=A9 w5 ⟨k9,1,none⟩ (.slice (some ⟨g5,0,none⟩) (j+1) cap);have ho6:=j4 hown5 hs6 hb5 (by decide);have hA4:=HA3.out.keep hgA A5;have hA6:=(hA4.keep hgrow5 (I4 hOA hA4 (by decide)).symm).keep hs6 (by simp;omega);have hgr6:=D5 (D5 (A1 HGr.out hgA) hgrow5 (fun k e=> .inl (HR3.out.lt k e).1)) hs6 (fun k e=>by cases e;exact .inl (Nat.le_of_lt HK9.out))
    have hrep:(List.replicate (j+1) O1).flatMap C9=(List.replicate j O1).flatMap C9++ [.int .i64 1, .string ⟨#[]⟩]:=by
     rw[List.replicate_succ',List.flatMap_append];rfl
    rw[←hrep]at ho6;generalize w5.setCell ⟨k9,1,none⟩ (.slice (some ⟨g5,0,none⟩) (j+1) cap)=W6 at hb6 ho6 hA6 hgr6⊢;clear hA4 hOA hs6 hgA hrep hown5 hgrow5 hat5 hb5 q5 z5 q24 z24 q25 HO4 HB4 hg34 hg4;go_wp2_with fail
    go_roundg (gk-1)
    case rel=>exact⟨j+1,_,rfl,by have:=HJ.out;have:=HLT.out;omega,hb6,hA6,ho6,hgr6⟩
    case measure=>have:=HJ.out;have:=HLT.out;omega
  ·have hjn:j=n:=by omega
   subst hjn;have d1:decide ((j:Int)<(j:Int))=false:=decide_eq_false (by omega);obtain⟨q0,q1,q2,q3,q4,q5,q6,q7⟩:=hB.q8;obtain⟨a0,a1,a2,a3,a4,a5,a6,a7⟩:=hA.q8;obtain⟨x0,x1,x2,x3,x4,x5,x6,x7⟩:=hA.z8;have HAh:=A0 hA;have HOh:=A0 hO;have HGh:=A0 hgr;clear hO hA hB hj HJ hgr hlt HW HK9 hlt9 inf hi0 hz0 hz1 hz2 HB0 HA0 HG0 hn9 e3;go_upto_region 6 with fail
   clear d1;go_wp2_with fail
   all_goals
    have g8:=c3s wr w.heap.size (.string nm) (.slice ua j uk) (.int .i64 1) (.string ⟨#[]⟩) (.int .i64 6) (.int .i64 ((j:Int)+3)) (.slice ca cn ck) (.slice ha hn hk);have hA8:=c4c HAh.out (.string nm) (.slice ua j uk) (.int .i64 1) (.string ⟨#[]⟩) (.int .i64 6) (.int .i64 ((j:Int)+3)) (.slice ca cn ck) (.slice ha hn hk);have hne:=I4 HOh.out HAh.out (by decide);have ho8:=HOh.out.kept g8 (.inr hne);have hg8:=D5 HGh.out g8 (fun k e=>by cases e;exact .inl (Nat.le_refl _));generalize (((((((wr.setCell ⟨w.heap.size,0,none⟩ (.string nm)).setCell ⟨w.heap.size,1,none⟩ (.slice ua j uk)).setCell ⟨w.heap.size,2,none⟩ (.int .i64 1)).setCell ⟨w.heap.size,3,none⟩ (.string ⟨#[]⟩)).setCell ⟨w.heap.size,4,none⟩ (.int .i64 6)).setCell ⟨w.heap.size,5,none⟩ (.int .i64 ((j:Int)+3))).setCell ⟨w.heap.size,6,none⟩ (.slice ca cn ck)).setCell ⟨w.heap.size,7,none⟩ (.slice ha hn hk)=W8 at hA8 ho8 hg8⊢;clear g8 hne HAh HOh HGh q0 q1 q2 q3 q4 q5 q6 q7 a0 a1 a2 a3 a4 a5 a6 a7 x0 x1 x2 x3 x4 x5 x6 x7;obtain⟨r0,r1,r2,r3,r4,r5,r6,r7⟩:=hA8.q8;exact bodyPost_ret (v:= .agg #[.string nm, .slice ua j uk, .int .i64 1, .string ⟨#[]⟩, .int .i64 6, .int .i64 ((j:Int)+3), .slice ca cn ck, .slice ha hn hk]) (by simp[results,results46,go_sem,r0,r1,r2,r3,r4,r5,r6,r7]) rfl ⟨_,rfl,ho8,hg8⟩
end
end Kx
open Go.RowKit Cf
section
variable{w wr w1:World}{R E C g:Nat}{f:ByteArray}{pv:Value}{c:Array Value}{fs:List T7}{ms:List Me}{lf lm:Value}{s s1:Except Er St}
end
end
end Go.Proofs.YtdhophglnhcjbaaGreatDoor
