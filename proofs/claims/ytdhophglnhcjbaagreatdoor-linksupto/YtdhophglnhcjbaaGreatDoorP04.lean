/- P04: a part of the proof that the last text tells. -/
import Derived.Test.YtdhophglnhcjbaaGreatDoorP03
import Derived.Deep.RegionLaw
import Derived.RangeFuncNested
import Derived.RangeFuncCalls
import Derived.RangeFuncFrom
set_option linter.all false
namespace Go.Proofs.YtdhophglnhcjbaaGreatDoor
open Go.RowKit Go.Shelf Cf
namespace Kx
set_option maxRecDepth 100000 in
set_option maxHeartbeats 2000000 in
theorem a4x(w:World)(l1 l2:Nat)(xs ys:List Ty)(a1 a2:Option Addr)(k1 k2:Nat)(h1:Hid (C0 w l1 2 C1 a1 xs))(h2:Hid (C0 w l2 2 C1 a2 ys))(hx:xs.length≤65536)(hy:ys.length≤65536):
 Calls Tryz.prog 261 #[.slice a1 xs.length k1, .slice a2 ys.length k2] w fun e w'=>e= .returned (.bool (Y3 xs ys))∧w.grownBy w' none:=by
 by_cases hl:xs.length=ys.length
 ·obtain⟨n,hn⟩:∃n,n=xs.length:=⟨_,rfl⟩
  have HX:=A0 hn;have HY:=A0 (hn.trans hl);rw[←hl,←hn];have hnn:n≤65536:=by omega
  clear hn hl hx hy;go_enter Tryz.func261,Tryz.ntmps261;go_wp2_with fail
  go_loopw [5] (fun k wr=>∃j:Nat,j≤n∧k= .int .i64 j∧w.grownBy wr none∧∀r,r<j→∀(g1:r<xs.length) (g2:r<ys.length),I4 xs[r] ys[r]=true) (fun k _=>n-(intOf k).toNat)
  case atStart=>exact⟨0,Nat.zero_le _,rfl,G1 _ _,fun r hr=>by omega⟩
  case round=>
   obtain⟨j,hj,rfl,hgr,hv⟩:=hrel;have HG:=A0 hgr;have HV:=A0 hv;clear hgr hv;by_cases hlt:j<n
   ·have hjx:j<xs.length:=by rw[←HX.out];exact hlt
    have hjy:j<ys.length:=by rw[←HY.out];exact hlt
    obtain⟨p1,e1,-,pc1⟩:=h1.out.keep HG.out j hjx;obtain⟨p2,e2,-,pc2⟩:=h2.out.keep HG.out j hjy;obtain⟨x,hxx⟩:∃x,x=xs[j]:=⟨_,rfl⟩
    obtain⟨y,hyy⟩:∃y,y=ys[j]:=⟨_,rfl⟩
    rw[←hxx]at pc1;rw[←hyy]at pc2;have HXX:=A0 hxx;have HYY:=A0 hyy;have f0:wr.cell? (p1.add (j*2))=some (.int .i64 x.kind):=pc1 0 _ rfl;have f1:wr.cell? ⟨(p1.add (j*2)).block,(p1.add (j*2)).off+1,none⟩=some (.string x.name):=by rw[B9 p1 (j*2) 0];exact pc1 1 _ rfl
    have g0:wr.cell? (p2.add (j*2))=some (.int .i64 y.kind):=pc2 0 _ rfl;have g1:wr.cell? ⟨(p2.add (j*2)).block,(p2.add (j*2)).off+1,none⟩=some (.string y.name):=by rw[B9 p2 (j*2) 0];exact pc2 1 _ rfl
    subst e1;subst e2;clear pc1 pc2 hxx hyy;obtain⟨xk,xn⟩:=x;obtain⟨yk,yn⟩:=y;dsimp only at f0 f1 g0 g1;by_cases hk:xk=yk
    ·subst hk;by_cases hnm:xn=yn
     ·subst hnm;have HE:=A0 (HXX.out.symm.trans HYY.out);clear HXX HYY;go_wp2
      go_quiet (fail)
      go_wp2
      go_roundw
      case rel=>exact⟨j+1,by omega,by go_num,A1 HG.out (F0 _ _ _),fun r hr g1 g2=>by
       rcases Nat.lt_or_ge r j with h1|h1
       ·exact HV.out r h1 g1 g2
       ·obtain rfl:r=j:=by omega
        exact(a1m _ _).2 HE.out⟩
      case measure=>simp[intOf];omega
     ·have hN:¬xn.toList=yn.toList:=fun e=>hnm (t8 e)
      have HE:=A0 (a5l xs ys j hjx hjy (by rw[←HXX.out,←HYY.out];simp[I4,hnm]));clear HXX HYY;go_wp2
      go_quiet (fail)
      go_wp2
      go_ret;rw[HE.out];exact⟨rfl,A1 HG.out (F0 _ _ _)⟩
    ·have hK:¬((xk:Int)=(yk:Int)):=by omega
     have HE:=A0 (a5l xs ys j hjx hjy (by rw[←HXX.out,←HYY.out];simp[I4,hk]));clear HXX HYY;go_wp2
     go_quiet (fail)
     go_wp2
     go_ret;rw[HE.out];exact⟨rfl,A1 HG.out (F0 _ _ _)⟩
   ·have hjn:j=n:=by omega
    subst hjn;go_wp2_with fail
    go_ret;have:=a8U (HX.out.symm.trans HY.out) (fun r h1 h2=>HV.out r (by rw[HX.out];exact h1) h1 h2);rw[this];exact⟨rfl,HG.out⟩
 ·rw[a9s hl];have hA:((xs.length:Int)==(ys.length:Int))=false:=by simp;omega
  go_enter Tryz.func261,Tryz.ntmps261;go_wp2
  go_ret;exact⟨rfl,G1 _ _⟩
def a2C(m o:Me):Bool:=decide (o.name=m.name)&&(!Y3 m.params o.params|| !I4 o.ret m.ret)
def a4R(L:List Cl)(s:ByteArray)(m:Me):Bool:=(up L s).any fun k=>(cl L k).methods.any (a2C m)
theorem b8Y(L:List Cl)(c:Cl):ovR L c=c.methods.any (a4R L c.super):=rfl
set_option maxRecDepth 100000 in
set_option maxHeartbeats 2000000 in
theorem b2k(w:World)(lim wb:Nat)(L:List Cl)(p:Addr)(cap:Nat)(q:Nat→Qs)(h:Hid (Wo w lim wb L p cap q))(hPM:Hid (O9 w lim L q))(hZL:Hid (∀i,i<L.length→Szc (cl L i)))(c:Cl)(qc:Qs)(hM:Hid (PM w lim qc.ma c.methods))(hz:Hid (Szc c)):
 Calls Tryz.prog 181 #[.pointer (some ⟨wb,0,none⟩), .agg (F8 c qc).toArray] w fun e w'=>e= .returned (.bool (ovR L c))∧w.grownBy w' none:=by
 have hnm:=hz.out.2.1;have hsmL:=h.out.small;obtain⟨nf,hf⟩:∃nf,nf=c.fields.length:=⟨_,rfl⟩
 obtain⟨nm,hm⟩:∃nm,nm=c.methods.length:=⟨_,rfl⟩
 have HNM:=A0 hm;unfold F8;rw[←hf,←hm];rw[←hm]at hnm;clear hf hm;obtain⟨sp,hsp⟩:∃sp,sp=c.super:=⟨_,rfl⟩
 have hul:=a5T (L:=L) sp;obtain⟨l,hl⟩:∃l,l=up L sp:=⟨_,rfl⟩
 obtain⟨nl,hnl⟩:∃nl,nl=l.length:=⟨_,rfl⟩
 have HL:=A0 hl.symm;have HNL:=A0 hnl.symm;rw[←hl,←hnl]at hul;have HLT:Hid (∀i∈l,i<L.length):=by unfold Hid;rw[hl];exact a1W _ _
 have HSP:=A0 hsp;rw[←hsp];clear hl hnl hsp;have HOV:Hid (ovR L c=c.methods.any (a4R L sp)):=by unfold Hid;rw[HSP.out];exact b8Y L c
 go_enter Tryz.func181,Tryz.ntmps181;have HBc:Hid (A3 (w.alloc (.cells #[.string c.name, .string sp, .slice qc.fa nf qc.fk, .slice qc.ma nm qc.mc] 44)) w.heap.size #[.string c.name, .string sp, .slice qc.fa nf qc.fk, .slice qc.ma nm qc.mc] 44):=A3.new w _ _;have HG0:Hid (w.grownBy (w.alloc (.cells #[.string c.name, .string sp, .slice qc.fa nf qc.fk, .slice qc.ma nm qc.mc] 44)) none):=A2 _ _ _;have HW:∀ob,Hid (Wo (w.alloc ob) lim wb L p cap q):=fun ob=>h.out.keep (A2 _ _ _)
 go_wp2_with (go_at_call 130;refine(a6P _ lim wb L p cap q (HW _) sp).mono ?_;rintro e w4 ⟨aa,ak,rfl,hrl,hg4⟩;rw[HL.out]at hrl⊢;rw[HNL.out])
 have HRL:=A0 hrl;have HG4:=A0 (A1 HG0.out hg4);have HB4:=A0 (HBc.out.keep hg4 (by simp));have HM4:=A0 (hM.out.keep HG4.out);have HPM4:=A0 (hPM.out.keep HG4.out);clear hrl hg4 HBc HG0 HW;go_loopw [6] (fun f wx=>∃k:Nat,k≤nm∧f= .int .i64 k∧Hid (∀j (hj:j<c.methods.length),j<k→a4R L sp c.methods[j]=false)∧Hid (w4.grownBy wx none)) (fun f _=>nm-(intOf f).toNat)
 case atStart=>exact⟨0,by omega,rfl,fun j _ hj=>by omega,G1 _ _⟩
 case round=>
  obtain⟨i,hi,rfl,hall,hg⟩:=hrel;have c3:=(HB4.out.keep hg.out (by simp)).cell 3 _ rfl;by_cases hlt:i<nm
  ·have hil:i<c.methods.length:=by rw[←HNM.out];exact hlt
   obtain⟨mp,pa,ca,ha,pk,ck,hh,hmp,-,r1,-,-,m0,m1,m2,m3,m4,m5,m6,m7⟩:=a3J (HM4.out.keep hg.out) hil;rw[hmp]at c3;have hszp:=(hz.out.2.2 i hil).1;obtain⟨mx,hmx⟩:∃mx,mx=c.methods[i]:=⟨_,rfl⟩
   rw[←hmx]at r1 m0 m1 m2 m3 m4 m5 m6 m7 hszp;have HMX:=A0 hmx;have HR1:=A0 r1;clear hmx r1 hmp;go_wp2
   have HBm:Hid (A3 (wr.alloc (.cells #[.string mx.name, .slice pa mx.params.length pk, .int .i64 mx.ret.kind, .string mx.ret.name, .int .i64 mx.stack, .int .i64 mx.locals, .slice ca mx.code.length ck, .slice ha mx.handlers.length hh] 102)) wr.heap.size #[.string mx.name, .slice pa mx.params.length pk, .int .i64 mx.ret.kind, .string mx.ret.name, .int .i64 mx.stack, .int .i64 mx.locals, .slice ca mx.code.length ck, .slice ha mx.handlers.length hh] 102):=A3.new wr _ _;have HGm:Hid (w4.grownBy (wr.alloc (.cells #[.string mx.name, .slice pa mx.params.length pk, .int .i64 mx.ret.kind, .string mx.ret.name, .int .i64 mx.stack, .int .i64 mx.locals, .slice ca mx.code.length ck, .slice ha mx.handlers.length hh] 102)) none):=A1 hg.out (A2 _ _ _);have HRm:Hid (C0 (wr.alloc (.cells #[.string mx.name, .slice pa mx.params.length pk, .int .i64 mx.ret.kind, .string mx.ret.name, .int .i64 mx.stack, .int .i64 mx.locals, .slice ca mx.code.length ck, .slice ha mx.handlers.length hh] 102)) lim 2 C1 pa mx.params):=HR1.out.keep (A2 _ _ _);clear c3 m0 m1 m2 m3 m4 m5 m6 m7 HR1;go_loopw [8] (fun f wx=>∃k:Nat,k≤nl∧f= .int .i64 k∧Hid (∀j (hj:j<l.length),j<k→(cl L l[j]).methods.any (a2C mx)=false)∧Hid ((wr.alloc (.cells #[.string mx.name, .slice pa mx.params.length pk, .int .i64 mx.ret.kind, .string mx.ret.name, .int .i64 mx.stack, .int .i64 mx.locals, .slice ca mx.code.length ck, .slice ha mx.handlers.length hh] 102)).grownBy wx none)) (fun f _=>nl-(intOf f).toNat)
   case atStart=>exact⟨0,by omega,rfl,fun j _ hj=>by omega,G1 _ _⟩
   case round=>
    obtain⟨k,hk,rfl,hall2,hg2⟩:=hrel;by_cases hlt2:k<nl
    ·have hkl:k<l.length:=by rw[HNL.out];exact hlt2
     have HG42:=A0 (A1 HGm.out hg2.out);obtain⟨cp,hcp,-,-,-,-,d3⟩:=a2W (HRL.out.keep HG42.out) hkl;subst hcp;have hij:=HLT.out _ (List.getElem_mem hkl);obtain⟨ms,hms⟩:∃ms,ms=(cl L l[k]).methods:=⟨_,rfl⟩
     have HMS:=A0 hms.symm;have HPk:Hid (PM wr lim (q l[k]).ma ms):=by unfold Hid;rw[hms];exact(HPM4.out.at hij).keep HG42.out
     have hszk:=hZL.out _ hij;have hmsl:ms.length≤65536:=by rw[hms];exact hszk.2.1
     have HSZ:Hid (∀(j:Nat) (hj:j<ms.length),ms[j].params.length≤65536):=by subst hms;exact fun j hj=>(hszk.2.2 j hj).1
     rw[←hms]at d3;obtain⟨no,hno⟩:∃no,no=ms.length:=⟨_,rfl⟩
     have HNO:=A0 hno.symm;rw[←hno]at d3 hmsl;clear hms hszk hno;go_wp2
     have HD3:=A0 d3;clear d3;go_loopw [9] (fun f wx=>∃j:Nat,j≤no∧f= .int .i64 j∧Hid (∀r (hr:r<ms.length),r<j→a2C mx ms[r]=false)∧Hid (wr.grownBy wx none)) (fun f _=>no-(intOf f).toNat)
     case atStart=>exact⟨0,by omega,rfl,fun j _ hj=>by omega,G1 _ _⟩
     case round=>
      obtain⟨j,hj,rfl,hall3,hg3⟩:=hrel;have d3:=hg3.out.cell HD3.out (by simp);by_cases hlt3:j<no
      ·have hjl:j<ms.length:=by rw[HNO.out];exact hlt3
       obtain⟨op,pa2,ca2,ha2,pk2,ck2,hh2,hop,-,r2,-,-,m0,m1,m2,m3,m4,m5,m6,m7⟩:=a3J (HPk.out.keep hg3.out) hjl;rw[hop]at d3;have hszo:=HSZ.out j hjl;obtain⟨ox,hox⟩:∃ox,ox=ms[j]:=⟨_,rfl⟩
       rw[←hox]at r2 m0 m1 m2 m3 m4 m5 m6 m7 hszo;obtain⟨on,ops,⟨ork,orn⟩,os,ol,oc,oh⟩:=ox;dsimp only at r2 m0 m1 m2 m3 m4 m5 m6 m7 hszo;have HBmr:=(HBm.out.keep hg2.out (by simp)).keep hg3.out (by simp);have b1:=(HBmr.keep (A2 wr (.cells #[.string on, .slice pa2 ops.length pk2, .int .i64 ork, .string orn, .int .i64 os, .int .i64 ol, .slice ca2 oc.length ck2, .slice ha2 oh.length hh2] 102) none) (by simp)).cell 1 _ rfl;have HRA:Hid (C0 (wr.alloc (.cells #[.string on, .slice pa2 ops.length pk2, .int .i64 ork, .string orn, .int .i64 os, .int .i64 ol, .slice ca2 oc.length ck2, .slice ha2 oh.length hh2] 102)) lim 2 C1 pa mx.params):=((HRm.out.keep hg2.out).keep hg3.out).keep (A2 _ _ _);have HRB:Hid (C0 (wr.alloc (.cells #[.string on, .slice pa2 ops.length pk2, .int .i64 ork, .string orn, .int .i64 os, .int .i64 ol, .slice ca2 oc.length ck2, .slice ha2 oh.length hh2] 102)) lim 2 C1 pa2 ops):=r2.keep (A2 _ _ _);obtain⟨sv,hsv⟩:∃sv,sv=Y3 mx.params ops:=⟨_,rfl⟩
       have HSV:=A0 hsv.symm;have HOB:Hid (a2C mx ms[j]=(decide (on=mx.name)&&(!sv|| !I4 ⟨ork,orn⟩ mx.ret))):=by unfold Hid a2C;rw[←hox,hsv]
       have hlm:=HBmr.lt;clear hop hox r2 hsv;have HBm1:Hid (A3 (wr.alloc (.cells #[.string on, .slice pa2 ops.length pk2, .int .i64 ork, .string orn, .int .i64 os, .int .i64 ol, .slice ca2 oc.length ck2, .slice ha2 oh.length hh2] 102)) _ #[.string mx.name, .slice pa mx.params.length pk, .int .i64 mx.ret.kind, .string mx.ret.name, .int .i64 mx.stack, .int .i64 mx.locals, .slice ca mx.code.length ck, .slice ha mx.handlers.length hh] 102):=HBmr.keep (A2 wr (.cells #[.string on, .slice pa2 ops.length pk2, .int .i64 ork, .string orn, .int .i64 os, .int .i64 ol, .slice ca2 oc.length ck2, .slice ha2 oh.length hh2] 102) none) (by simp);have HBn1:Hid (A3 (wr.alloc (.cells #[.string on, .slice pa2 ops.length pk2, .int .i64 ork, .string orn, .int .i64 os, .int .i64 ol, .slice ca2 oc.length ck2, .slice ha2 oh.length hh2] 102)) wr.heap.size #[.string on, .slice pa2 ops.length pk2, .int .i64 ork, .string orn, .int .i64 os, .int .i64 ol, .slice ca2 oc.length ck2, .slice ha2 oh.length hh2] 102):=A3.new wr _ _
       have HYES:Hid (a2C mx ms[j]=true→ovR L c=true):=fun e=>by
        rw[HOV.out];refine a2w hil ?_;rw[←HMX.out];unfold a4R;rw[HL.out];refine a2w hkl ?_;rw[HMS.out];exact a2w hjl e
       have HNO2:Hid (a2C mx ms[j]=false→∀r (hr:r<ms.length),r<j+1→a2C mx ms[r]=false):=fun e r hr hrj=>by
        rcases Nat.lt_or_ge r j with h1|h1
        ·exact hall3.out r hr h1
        ·obtain rfl:r=j:=by omega
         exact e
       have HGY:=A0 (A1 HG4.out (A1 (A1 HGm.out hg2.out) hg3.out));clear HBmr;by_cases hname:on=mx.name
       ·subst hname;simp only[decide_true,Bool.true_and]at HOB;cases sv with
        |false=>
         simp only[Bool.not_false,Bool.true_or]at HOB;go_wp2_with (go_at_call 261;refine(a4x _ lim lim mx.params ops pa pa2 pk pk2 HRA HRB hszp hszo).mono ?_;rintro e w5 ⟨rfl,hg5⟩;rw[HSV.out];have e0:=(HBm1.out.keep hg5 (by simp)).cell 0 _ rfl;have e2:=(HBm1.out.keep hg5 (by simp)).cell 2 _ rfl;have e3:=(HBm1.out.keep hg5 (by simp)).cell 3 _ rfl;have f0:=(HBn1.out.keep hg5 (by simp)).cell 0 _ rfl;have f2:=(HBn1.out.keep hg5 (by simp)).cell 2 _ rfl;have f3:=(HBn1.out.keep hg5 (by simp)).cell 3 _ rfl)
         go_ret;exact⟨i9 (HYES.out HOB.out).symm,A1 HGY.out (A1 (A2 _ _ none) hg5)⟩
        |true=>
         simp only[Bool.not_true,Bool.false_or]at HOB;by_cases hrk:ork=mx.ret.kind
         ·subst hrk;by_cases hrn:orn=mx.ret.name
          ·subst hrn;have HQ:Hid (I4 ⟨mx.ret.kind,mx.ret.name⟩ mx.ret=true):=by unfold Hid I4;simp
           rw[HQ.out]at HOB;go_wp2_with (go_at_call 261;refine(a4x _ lim lim mx.params ops pa pa2 pk pk2 HRA HRB hszp hszo).mono ?_;rintro e w5 ⟨rfl,hg5⟩;rw[HSV.out];have e0:=(HBm1.out.keep hg5 (by simp)).cell 0 _ rfl;have e2:=(HBm1.out.keep hg5 (by simp)).cell 2 _ rfl;have e3:=(HBm1.out.keep hg5 (by simp)).cell 3 _ rfl;have f0:=(HBn1.out.keep hg5 (by simp)).cell 0 _ rfl;have f2:=(HBn1.out.keep hg5 (by simp)).cell 2 _ rfl;have f3:=(HBn1.out.keep hg5 (by simp)).cell 3 _ rfl)
           go_roundw
           case rel=>exact⟨j+1,by omega,by go_num,by have:=HNO2.out HOB.out;exact this,A1 hg3.out (A1 (A2 _ _ none) hg5)⟩
           case measure=>simp[intOf];omega
          ·have hrn2:=j4 hrn;have hrn3:¬orn.toList=mx.ret.name.toList:=fun e=>hrn (t8 e)
           have HQ:Hid (I4 ⟨mx.ret.kind,orn⟩ mx.ret=false):=by unfold Hid I4;simp[hrn]
           rw[HQ.out]at HOB;go_wp2_with (go_at_call 261;refine(a4x _ lim lim mx.params ops pa pa2 pk pk2 HRA HRB hszp hszo).mono ?_;rintro e w5 ⟨rfl,hg5⟩;rw[HSV.out];have e0:=(HBm1.out.keep hg5 (by simp)).cell 0 _ rfl;have e2:=(HBm1.out.keep hg5 (by simp)).cell 2 _ rfl;have e3:=(HBm1.out.keep hg5 (by simp)).cell 3 _ rfl;have f0:=(HBn1.out.keep hg5 (by simp)).cell 0 _ rfl;have f2:=(HBn1.out.keep hg5 (by simp)).cell 2 _ rfl;have f3:=(HBn1.out.keep hg5 (by simp)).cell 3 _ rfl)
           go_ret;exact⟨i9 (HYES.out HOB.out).symm,A1 HGY.out (A1 (A2 _ _ none) hg5)⟩
         ·have hrk2:¬((ork:Int)=(mx.ret.kind:Int)):=by omega
          have HQ:Hid (I4 ⟨ork,orn⟩ mx.ret=false):=by unfold Hid I4;simp[hrk]
          rw[HQ.out]at HOB;go_wp2_with (go_at_call 261;refine(a4x _ lim lim mx.params ops pa pa2 pk pk2 HRA HRB hszp hszo).mono ?_;rintro e w5 ⟨rfl,hg5⟩;rw[HSV.out];have e0:=(HBm1.out.keep hg5 (by simp)).cell 0 _ rfl;have e2:=(HBm1.out.keep hg5 (by simp)).cell 2 _ rfl;have e3:=(HBm1.out.keep hg5 (by simp)).cell 3 _ rfl;have f0:=(HBn1.out.keep hg5 (by simp)).cell 0 _ rfl;have f2:=(HBn1.out.keep hg5 (by simp)).cell 2 _ rfl;have f3:=(HBn1.out.keep hg5 (by simp)).cell 3 _ rfl)
          go_ret;exact⟨i9 (HYES.out HOB.out).symm,A1 HGY.out (A1 (A2 _ _ none) hg5)⟩
       ·have hb1:=j4 hname;simp only[hname,decide_false,Bool.false_and]at HOB;go_wp2_with (go_at_call 261;refine(a4x _ lim lim mx.params ops pa pa2 pk pk2 HRA HRB hszp hszo).mono ?_;rintro e w5 ⟨rfl,hg5⟩;rw[HSV.out];have e0:=(HBm1.out.keep hg5 (by simp)).cell 0 _ rfl;have e2:=(HBm1.out.keep hg5 (by simp)).cell 2 _ rfl;have e3:=(HBm1.out.keep hg5 (by simp)).cell 3 _ rfl;have f0:=(HBn1.out.keep hg5 (by simp)).cell 0 _ rfl;have f2:=(HBn1.out.keep hg5 (by simp)).cell 2 _ rfl;have f3:=(HBn1.out.keep hg5 (by simp)).cell 3 _ rfl)
        go_roundw
        case rel=>exact⟨j+1,by omega,by go_num,by have:=HNO2.out HOB.out;exact this,A1 hg3.out (A1 (A2 _ _ none) hg5)⟩
        case measure=>simp[intOf];omega
      ·go_wp2
       exact⟨⟨k+1,by omega,by go_num,by
        intro r hr hrk;rcases Nat.lt_or_ge r k with h1|h1
        ·exact hall2.out r hr h1
        ·obtain rfl:r=k:=by omega
         rw[HMS.out];exact a2u (fun r hr=>hall3.out r hr (by rw[HNO.out]at hr;omega)),A1 hg2.out hg3.out⟩,by simp[intOf];omega⟩
    ·go_wp2
     exact⟨⟨i+1,by omega,by go_num,by
      intro r hr hrk;rcases Nat.lt_or_ge r i with h1|h1
      ·exact hall.out r hr h1
      ·obtain rfl:r=i:=by omega
       rw[←HMX.out];unfold a4R;rw[HL.out];exact a2u (fun r hr=>hall2.out r hr (by rw[HNL.out]at hr;omega)),A1 HGm.out hg2.out⟩,by simp[intOf];omega⟩
  ·have HF:=A0 (a2u (fun j hj=>hall.out j hj (by rw[←HNM.out]at hj;omega)));go_wp2
   go_ret;exact⟨i9 (by rw[HOV.out,HF.out]),A1 HG4.out hg.out⟩
def wrR(L:List Cl)(kind:Nat)(c:Cl):Bool:=
 if kind=0 then !E2 L c.super else if kind=1 then I6 L c.super c.name else if kind=2 then y9 L c else if kind=3 then mbR L c else ovR L c
set_option maxRecDepth 100000 in
set_option maxHeartbeats 2000000 in
theorem a8X(w:World)(lim wb:Nat)(L:List Cl)(p:Addr)(cap:Nat)(q:Nat→Qs)(h:Hid (Wo w lim wb L p cap q))(hPF:Hid (U0 w lim L q))(hPM:Hid (O9 w lim L q))(hfew:Hid (Few L))(hZL:Hid (∀i,i<L.length→Szc (cl L i)))(kind:Nat)(hk:kind<5)(c:Cl)(qc:Qs)(hF:Hid (C0 w lim 3 G8 qc.fa c.fields))(hM:Hid (PM w lim qc.ma c.methods))(hz:Hid (Szc c)):
 Calls Tryz.prog 122 #[.pointer (some ⟨wb,0,none⟩), .int .i64 kind, .agg (F8 c qc).toArray] w fun e w'=>e= .returned (.bool (wrR L kind c))∧w.grownBy w' none:=by
 have HW:Hid (∀ob,Wo (w.alloc ob) lim wb L p cap q):=fun ob=>h.out.keep (A2 _ _ _)
 have HPF:Hid (∀ob,U0 (w.alloc ob) lim L q):=fun ob i hi=>(hPF.out i hi).keep (A2 _ _ _)
 have HPM:Hid (∀ob,O9 (w.alloc ob) lim L q):=fun ob=>hPM.out.keep (A2 _ _ _)
 have HF:Hid (∀ob,C0 (w.alloc ob) lim 3 G8 qc.fa c.fields):=fun ob=>hF.out.keep (A2 _ _ _)
 have HM:Hid (∀ob,PM (w.alloc ob) lim qc.ma c.methods):=fun ob=>hM.out.keep (A2 _ _ _)
 have HC:Hid (F8 c qc=[.string c.name, .string c.super, .slice qc.fa c.fields.length qc.fk, .slice qc.ma c.methods.length qc.mc]):=rfl;rw[HC.out];obtain⟨r,hr⟩:∃r,r=wrR L kind c:=⟨_,rfl⟩
 have HR:=A0 hr;rw[←hr];clear hr;rcases(by omega:kind=0∨kind=1∨kind=2∨kind=3∨kind=4)with rfl|rfl|rfl|rfl|rfl
 ·have HE:Hid (r= !E2 L c.super):=HR.out;go_enter Tryz.func122,Tryz.ntmps122;go_wp2_with (go_at_call 177;refine(b2B _ lim wb L p cap q (HW.out _) c qc).mono ?_;rintro e w4 ⟨rfl,hg4⟩;rw[←HE.out])
  go_ret;exact⟨rfl,A1 (A2 _ _ _) hg4⟩
 ·have HE:Hid (r=I6 L c.super c.name):=HR.out;go_enter Tryz.func122,Tryz.ntmps122;go_wp2_with (go_at_call 178;refine(b4k _ lim wb L p cap q (HW.out _) c qc).mono ?_;rintro e w4 ⟨rfl,hg4⟩;rw[←HE.out])
  go_ret;exact⟨rfl,A1 (A2 _ _ _) hg4⟩
 ·have HE:Hid (r=y9 L c):=HR.out;go_enter Tryz.func122,Tryz.ntmps122;go_wp2_with (go_at_call 179;refine(b2A _ lim wb L p cap q (HW.out _) c qc (HF.out _) (HM.out _) hz).mono ?_;rintro e w4 ⟨rfl,hg4⟩;rw[←HE.out])
  go_ret;exact⟨rfl,A1 (A2 _ _ _) hg4⟩
 ·have HE:Hid (r=mbR L c):=HR.out;go_enter Tryz.func122,Tryz.ntmps122;go_wp2_with (go_at_call 180;refine(b2C _ lim wb L p cap q (HW.out _) (HPF.out _) hfew c qc (HF.out _) (HM.out _) hz).mono ?_;rintro e w4 ⟨rfl,hg4⟩;rw[←HE.out])
  go_ret;exact⟨rfl,A1 (A2 _ _ _) hg4⟩
 ·have HE:Hid (r=ovR L c):=HR.out;go_enter Tryz.func122,Tryz.ntmps122;go_wp2_with (go_at_call 181;refine(b2k _ lim wb L p cap q (HW.out _) (HPM.out _) hZL c qc (HM.out _) hz).mono ?_;rintro e w4 ⟨rfl,hg4⟩;rw[←HE.out])
  go_ret;exact⟨rfl,A1 (A2 _ _ _) hg4⟩
theorem a8Y(w:World)(n s:ByteArray):Calls Tryz.prog 176 #[.string n, .string s] w fun e w'=>e= .returned (.agg #[.string n, .string s, .slice none 0 0, .slice none 0 0])∧w'=w.alloc (.cells #[.string n, .string s, .slice none 0 0, .slice none 0 0] 44):=by
 go_enter Tryz.func176,Tryz.ntmps176;go_wp2
 exact bodyPost_ret (v:= .agg #[.string n, .string s, .slice none 0 0, .slice none 0 0]) (by simp[results,Tryz.results176,go_sem]) rfl ⟨rfl,rfl⟩
theorem b6y{P:Program}{c:Code}{Q:Exit→Act→World→Prop}{a:Act}{W:World}(h:c.wp P Q a W):c.wp P Q a W:=h
theorem a0f(w:World)(e:TypeId)(sz n base:Nat)(xs:List Value)(hl:xs.length=n*sz)(hb:base≤w.heap.size)(hn:n≤maxLen):(w.alloc (.cells xs.toArray e)).ownsRow base e sz (.slice (some ⟨w.heap.size,0,none⟩) n n) n xs:=
 ⟨hl, .inr ⟨w.heap.size,n,xs.toArray,rfl,hb,heap_alloc_new w _,Nat.le_refl _,hn,by simpa using hl,by simp[←hl]⟩⟩
def q0:Qs:=⟨none,0,none,0⟩
def a0F:List ByteArray:=[a8a,a7M,a7U,a7V,a7T,a7A,a7N]
def z9(n s:ByteArray):List Value:=[.string n, .string s, .slice none 0 0, .slice none 0 0]
def y7(k:Nat):List Value:=z9 D4 C3++z9 F9 D4++(a0F.take k).flatMap fun n=>z9 n F9
variable {base i k lim:Nat}
theorem b5a(hk:k<a0F.length):y7 (k+1)=y7 k++z9 a0F[k] F9:=by
 unfold y7;rw[List.take_succ_eq_append_getElem hk,List.flatMap_append];simp
set_option maxRecDepth 100000 in
set_option maxHeartbeats 2000000 in
theorem b5x(w:World):Calls Tryz.prog 120 #[] w fun e w'=>∃wb a k,e= .returned (.pointer (some ⟨wb,0,none⟩))∧A3 w' wb #[.slice a 9 k, .slice none 0 0] 92∧w'.ownsRow w.heap.size 44 4 (.slice a 9 k) 9 (y7 7)∧w.grownBy w' none∧w.heap.size≤wb:=by
 go_enter Tryz.func120,Tryz.ntmps120;go_wp2_with (go_at_call 176;refine(a8Y _ _ _).mono ?_;rintro e w' ⟨rfl,rfl⟩)
 have ho:=a0f ((w.alloc (.cells #[.string D4, .string C3, .slice none 0 0, .slice none 0 0] 44)).alloc (.cells #[.string F9, .string D4, .slice none 0 0, .slice none 0 0] 44)) 44 4 2 w.heap.size (y7 0) rfl (by simp;omega) (by unfold maxLen;omega);have ho2:=ho.alloc (.cells (a0F.map Value.string).toArray 9);have hb:=A3.new (((w.alloc (.cells #[.string D4, .string C3, .slice none 0 0, .slice none 0 0] 44)).alloc (.cells #[.string F9, .string D4, .slice none 0 0, .slice none 0 0] 44)).alloc (.cells (y7 0).toArray 44)) (a0F.map Value.string).toArray 9;have hg:w.grownBy ((((w.alloc (.cells #[.string D4, .string C3, .slice none 0 0, .slice none 0 0] 44)).alloc (.cells #[.string F9, .string D4, .slice none 0 0, .slice none 0 0] 44)).alloc (.cells (y7 0).toArray 44)).alloc (.cells (a0F.map Value.string).toArray 9)) none:=A1 (A1 (A1 (A2 _ _ _) (A2 _ _ _)) (A2 _ _ _)) (A2 _ _ _);simp only[World.size_alloc]at ho2 hb;refine b6y (W:=(((w.alloc (.cells #[.string D4, .string C3, .slice none 0 0, .slice none 0 0] 44)).alloc (.cells #[.string F9, .string D4, .slice none 0 0, .slice none 0 0] 44)).alloc (.cells (y7 0).toArray 44)).alloc (.cells (a0F.map Value.string).toArray 9)) ?_;obtain⟨W2,hW2⟩:∃W2,W2=(((w.alloc (.cells #[.string D4, .string C3, .slice none 0 0, .slice none 0 0] 44)).alloc (.cells #[.string F9, .string D4, .slice none 0 0, .slice none 0 0] 44)).alloc (.cells (y7 0).toArray 44)).alloc (.cells (a0F.map Value.string).toArray 9):=⟨_,rfl⟩
 rw[←hW2]at ho2 hb hg⊢;have HO:=A0 ho2;have HB:=A0 hb;have HG:=A0 hg;clear ho ho2 hb hg hW2;go_loopw [1,3] (fun l i wr=>∃k g cap:Nat,k≤7∧i= .int .i64 k∧l= .slice (some ⟨g,0,none⟩) (2+k) cap∧g≠w.heap.size+1+1+1∧w.heap.size+1+1≤g∧Hid (wr.ownsRow w.heap.size 44 4 (.slice (some ⟨g,0,none⟩) (2+k) cap) (2+k) (y7 k))∧Hid (A3 wr (w.heap.size+1+1+1) (a0F.map Value.string).toArray 9)∧Hid (w.grownBy wr none)) (fun _ i _=>7-(intOf i).toNat)
 case atStart=>exact⟨0,w.heap.size+1+1,2,by omega,rfl,rfl,by omega,by omega,HO,HB,HG⟩
 case round=>
  obtain⟨k,g,cap,hk,rfl,rfl,hgn,hgl,hrow,hb,hg⟩:=hrel;by_cases hlt:k<7
  ·have hkl:k<a0F.length:=hlt;have c0:=hb.out.cell k (.string a0F[k]) (by simp[hkl]);obtain⟨nm,hnm⟩:∃nm,nm=a0F[k]:=⟨_,rfl⟩
   rw[←hnm]at c0;have HNM:Hid (y7 (k+1)=y7 k++z9 nm F9):=by unfold Hid;rw[hnm];exact b5a hkl
   clear hnm;obtain⟨inf,hi0,hz0,hz1,hz2⟩:=info_parts a3R;have hlb:=hb.out.lt
   have NC:Hid (∀j u,(z9 nm F9)[j]? =some u→((wr.alloc (.cells (z9 nm F9).toArray 44)).alloc (.cells (z9 nm F9).toArray 44)).cell? ((⟨wr.heap.size+1,0,none⟩:Addr).add j)=some u):=by
    have:=O5 (wr.alloc (.cells (z9 nm F9).toArray 44)) (z9 nm F9) 44;unfold Hid;simpa using this
   go_wp2_with (first
    |(go_at_call 176;refine(a8Y _ _ _).mono ?_;rintro e w' ⟨rfl,rfl⟩)
    |(at_builtin;go_loud (refine wpList_append_lies _ rfl _ _ 90 rfl w.heap.size 44 inf _ 4 80 Tryz.underlying90 hi0 hz0 hz1 hz2 rfl (by decide) _ (2+k) (y7 k) rfl (World.ownsRow.alloc (World.ownsRow.alloc hrow.out _) _) ⟨wr.heap.size+1,0,none⟩ 1 1 (z9 nm F9) rfl rfl NC.out (by simp[z9,Value.oneCell']) (by omega) (by unfold maxLen;omega) (by omega) (by have:=hg.out.size;simp;omega) _ rfl ?_
                          intro g2 cap2 w4 hown hgrow hat hlt4;have HG4:Hid (wr.grownBy w4 (some g)):=A1 (A1 (A2 wr (.cells (z9 nm F9).toArray 44) _) (A2 _ (.cells (z9 nm F9).toArray 44) _)) hgrow;have HO4:=A0 hown
                          have hg2:g2=g∨wr.heap.size≤g2:=by
                           rcases hat with e|e
                           ·simp only[Act.eval,Value.ownBlock]at e;left;simpa using e.symm
                           ·right;rw[e];simp;omega
                          clear hown hgrow hat)))
   have hg5:=C7 hg.out HG4.out (fun x e=> .inl (by cases e;omega));go_roundw
   case rel=>exact⟨k+1,g2,cap2,by omega,by go_num,rfl,by omega,by have:=hg.out.size;omega,by rw[HNM.out];exact HO4.out,hb.out.keep HG4.out (by simp;omega),hg5⟩
   case measure=>simp[intOf];omega
  ·have hk7:k=7:=by omega
   subst hk7;go_wp2
   refine bodyPost_ret (v:= .pointer (some ⟨wr.heap.size,0,none⟩)) (by simp[results,Tryz.results120,go_sem]) rfl ⟨wr.heap.size,some ⟨g,0,none⟩,cap,rfl,A3.new wr _ _,World.ownsRow.alloc hrow.out _,A1 hg.out (A2 _ _ _),hg.out.size⟩
def K6(qf:Nat→Qs)(i:Nat):Qs:=if i<9 then q0 else qf (i-9)
theorem a7r:A5.length=9:=rfl
theorem a4o{α β:Type}{f g:α→List β}:∀{l:List α},(∀x∈l,f x=g x)→l.flatMap f=l.flatMap g
 | [],_=>rfl
 |a::l,h=>by rw[List.flatMap_cons,List.flatMap_cons,h a (by simp),a4o (fun x hx=>h x (by simp[hx]))]
theorem b6v(fs:List Cl)(qf:Nat→Qs):y7 7=(List.range 9).flatMap (K4 (A5++fs) (K6 qf)):=by
 have h:∀i,i<9→cl (A5++fs) i=cl A5 i:=fun i hi=>L9 hi
 have e:(List.range 9).flatMap (K4 (A5++fs) (K6 qf))=(List.range 9).flatMap (K4 A5 fun _=>q0):=by
  refine a4o (fun i hi=> ?_);have:=List.mem_range.1 hi;unfold K4 K6;rw[h i this,if_pos this]
 rw[e];rfl
variable {w:World}
theorem b9G{wb:Nat}{L:List Cl}{a:Option Addr}{q:Nat→Qs}{fv:Value}(hn:0<L.length)(hb:A3 w wb #[.slice a L.length k,fv] 92)(hw:wb<lim)(hl:w.heap.size≤lim)
 (ho:w.ownsRow base 44 4 (.slice a L.length k) L.length ((List.range L.length).flatMap (K4 L q))) (hz:∀i,i<L.length→(cl L i).name.size≤maxLen∧(cl L i).super.size≤maxLen) (hs:L.length≤65536):
 ∃p,a=some p∧Wo w lim wb L p k q:=by
 obtain⟨g,cap,hv,-,hg⟩:=ho.form hn;injection hv with hv _ _
 subst hv;refine⟨⟨g,0,none⟩,rfl,hw,Nat.lt_of_lt_of_le hg hl,hb.cell 0 _ rfl,fun i hi r u hu=> ?_,hz,hs⟩;have hrd:=a0k (w:=w) (xs:=List.range L.length) (a4F L q) (by simpa using ho);obtain⟨p,h1,-,h3⟩:=hrd i (by simpa using hi);injection h1 with h1
 subst h1;exact h3 r u (by simpa[K4]using hu)
theorem M7{e sz n b:Nat}{v:Value}{xs:List Value}{cs:Array Value}{t:TypeId}(h:w.ownsRow base e sz v n xs)(hb:A3 w b cs t)(ht:t≠e):v.ownBlock≠some b:=by
 rcases h.2 with⟨rfl,-⟩|⟨g,cap,cur,rfl,-,hg,-⟩
 ·simp[Value.ownBlock]
 ·simp only[Value.ownBlock,ne_eq,Option.some.injEq];rintro rfl;rw[show w.heap[g]? =some (.cells cs t (0,0))from hb]at hg;cases hg;exact ht rfl
structure U7(w:World)(lim:Nat)(fs:List Cl)(qf:Nat→Qs):Prop where
 fields:U0 w lim fs qf
 meths:O9 w lim fs qf
 sz:∀i,i<fs.length→Szc (cl fs i)
 names:∀i,i<fs.length→(cl fs i).name.size≤maxLen∧(cl fs i).super.size≤maxLen
 memb:∀i,i<fs.length→(cl fs i).fields.length≤255∧(cl fs i).methods.length≤255
 few:fs.length≤12
variable {fs:List Cl}
theorem U7.keep{w':World}{qf:Nat→Qs}(h:U7 w lim fs qf)(hg:w.grownBy w' none):U7 w' lim fs qf:=
 ⟨fun i hi=>(h.fields i hi).keep hg,h.meths.keep hg,h.sz,h.names,h.memb,h.few⟩
theorem a3N(hi:9≤i)(hk:i-9<k)(hf:i-9<fs.length):cl (A5++fs.take k) i=cl fs (i-9):=by
 obtain⟨j,rfl⟩:∃j,i=9+j:=⟨i-9,by omega⟩
 rw[R4,Nat.add_sub_cancel_left];unfold cl;rw[List.getD_eq_getElem?_getD,List.getElem?_take,if_pos (by omega),←List.getD_eq_getElem?_getD]
theorem a0Q(hk:k≤fs.length):(A5++fs.take k).length=9+k:=by simp[a7r];omega
theorem a0O(hi:i<9):(cl A5 i).fields=[]∧(cl A5 i).methods=[]∧(cl A5 i).name.size≤maxLen∧(cl A5 i).super.size≤maxLen:=by
 rcases a0Y hi with rfl|rfl|rfl|rfl|rfl|rfl|rfl|rfl|rfl<;>exact⟨rfl,rfl,by decide,by decide⟩
section
variable{w:World}{lim:Nat}{fs:List Cl}{qf:Nat→Qs}{k:Nat}
theorem U7.names'(h:U7 w lim fs qf)(hk:k≤fs.length):∀i,i<(A5++fs.take k).length→(cl (A5++fs.take k) i).name.size≤maxLen∧(cl (A5++fs.take k) i).super.size≤maxLen:=fun i hi=>by
 rw[a0Q hk]at hi;by_cases h9:i<9
 ·rw[L9 h9];exact(a0O h9).2.2
 ·rw[a3N (by omega) (by omega) (by omega)];exact h.names _ (by omega)
theorem U7.partF(h:U7 w lim fs qf)(hk:k≤fs.length):U0 w lim (A5++fs.take k) (K6 qf):=fun i hi=>by
 rw[a0Q hk]at hi;by_cases h9:i<9
 ·rw[L9 h9,(a0O h9).1];intro j hj;cases hj
 ·rw[a3N (by omega) (by omega) (by omega),K6,if_neg h9];exact h.fields _ (by omega)
theorem U7.partM(h:U7 w lim fs qf)(hk:k≤fs.length):O9 w lim (A5++fs.take k) (K6 qf):=fun i hi=>by
 rw[a0Q hk]at hi;by_cases h9:i<9
 ·rw[L9 h9,(a0O h9).2.1];intro j hj;cases hj
 ·rw[a3N (by omega) (by omega) (by omega),K6,if_neg h9];exact h.meths _ (by omega)
theorem U7.szc(h:U7 w lim fs qf)(hk:k≤fs.length):∀i,i<(A5++fs.take k).length→Szc (cl (A5++fs.take k) i):=fun i hi=>by
 rw[a0Q hk]at hi;by_cases h9:i<9
 ·rw[L9 h9];have:=a0O h9;refine⟨by rw[this.1];simp,by rw[this.2.1];simp,fun j hj=> ?_⟩;exfalso;rw[this.2.1]at hj;cases hj
 ·rw[a3N (by omega) (by omega) (by omega)];exact h.sz _ (by omega)
theorem U7.few'(h:U7 w lim fs qf)(hk:k≤fs.length):Few (A5++fs.take k):=⟨by rw[a0Q hk];have:=h.few;omega,fun i hi=>by
 rw[a0Q hk]at hi;by_cases h9:i<9
 ·rw[L9 h9,(a0O h9).1,(a0O h9).2.1];simp
 ·rw[a3N (by omega) (by omega) (by omega)];exact h.memb _ (by omega)⟩
end
def a1X(fs:List Cl)(qf:Nat→Qs)(k:Nat):List Value:=(List.range (9+k)).flatMap (K4 (A5++fs) (K6 qf))
def a3Z(fs:List Cl)(qf:Nat→Qs)(k:Nat):List Value:=(List.range k).flatMap (K4 fs qf)
theorem b4h(fs:List Cl)(qf:Nat→Qs)(k:Nat):a3Z fs qf (k+1)=a3Z fs qf k++F8 (cl fs k) (qf k):=by
 unfold a3Z;rw[List.range_succ,List.flatMap_append];simp[K4]
theorem b4j(fs:List Cl)(qf:Nat→Qs)(k:Nat):a1X fs qf (k+1)=a1X fs qf k++F8 (cl fs k) (qf k):=by
 unfold a1X;rw[show 9+(k+1)=(9+k)+1 from by omega,List.range_succ,List.flatMap_append];congr 1
 simp only[List.flatMap_cons,List.flatMap_nil,List.append_nil,K4];rw[R4,K6,if_neg (by omega),Nat.add_sub_cancel_left]
variable {B k kind lim lim' n wb:Nat}
theorem b4i(fs:List Cl)(qf:Nat→Qs)(hk:k≤fs.length):a1X fs qf k=(List.range (A5++fs.take k).length).flatMap (K4 (A5++fs.take k) (K6 qf)):=by
 unfold a1X;rw[a0Q hk];refine a4o (fun i hi=> ?_);have hi:=List.mem_range.1 hi;unfold K4;congr 1
 by_cases h9:i<9
 ·rw[L9 h9,L9 h9]
 ·rw[a3N (by omega) (by omega) (by omega)];obtain⟨j,rfl⟩:∃j,i=9+j:=⟨i-9,by omega⟩
  rw[R4,Nat.add_sub_cancel_left]
structure Mk(w:World)(B wb:Nat)(va vf:Value)(fs:List Cl)(qf:Nat→Qs)(k:Nat):Prop where
 blk:A3 w wb #[va,vf] 92
 all:w.ownsRow B 44 4 va (9+k) (a1X fs qf k)
 files:w.ownsRow B 44 4 vf k (a3Z fs qf k)
 apart:∀g,va.ownBlock=some g→vf.ownBlock≠some g
 low:B≤wb
variable {w:World}
variable {va vf:Value}
variable {L fs:List Cl}
variable {q qf:Nat→Qs}
theorem Mk.wo(h:Mk w B wb va vf fs qf k)(hk:k≤fs.length){w0:World}{l0:Nat}(hG:U7 w0 l0 fs qf)(hl:w.heap.size≤lim):
 ∃p kk,va= .slice (some p) (9+k) kk∧Wo w lim wb (A5++fs.take k) p kk (K6 qf):=by
 obtain⟨a,kk,rfl⟩:=F1 h.all;have h1:=h.blk;have h2:=h.all;rw[b4i fs qf hk]at h2;rw[←a0Q hk]at h1 h2⊢;obtain⟨p,rfl,hw⟩:=b9G (L:=A5++fs.take k) (by rw[a0Q hk];omega) h1 (Nat.lt_of_lt_of_le h.blk.lt hl) hl h2 (hG.names' hk) (by rw[a0Q hk];have:=hG.few;omega);exact⟨p,kk,rfl,hw⟩
theorem Mk.keep{w':World}(h:Mk w B wb va vf fs qf k)(hg:w.grownBy w' none):Mk w' B wb va vf fs qf k:=
 ⟨h.blk.keep hg (by simp),h.all.kept hg (by cases va.ownBlock<;>simp),h.files.kept hg (by cases vf.ownBlock<;>simp),h.apart,h.low⟩
structure Mk1(w:World)(B wb:Nat)(va vf:Value)(fs:List Cl)(qf:Nat→Qs)(k:Nat):Prop where
 blk:A3 w wb #[va,vf] 92
 all:w.ownsRow B 44 4 va (9+k+1) (a1X fs qf (k+1))
 files:w.ownsRow B 44 4 vf k (a3Z fs qf k)
 apart:∀g,va.ownBlock=some g→vf.ownBlock≠some g
 low:B≤wb
def a7H(B:Nat)(fs:List Cl)(qf:Nat→Qs)(r:Except Er Unit)(e:Ending)(w':World):Prop:=match r with
 | .error er=>e= .returned (.tuple #[.pointer none, .int .i64 er.1, .int .i64 er.2])
 | .ok _=>∃wb va vf,e= .returned (.tuple #[.pointer (some ⟨wb,0,none⟩), .int .i64 0, .int .i64 0])∧Mk w' B wb va vf fs qf fs.length
variable {p:Nat→Bool}
theorem a5e(hk:k<n)(h:p k=true)(hb:∀j,j<k→p j=false):o6 p n=some k:=by
 cases hf:o6 p n with
 |none=>rw[a5f hf k hk]at h;cases h
 |some i=>
  unfold o6 at hf;have h1:=List.find?_some hf
  have h2:k<i→False:=fun hlt=>by
   have:=List.find?_eq_some_iff_append.1 hf;obtain⟨-,us,vs,e,hno⟩:=this
   have hlen:us.length=i:=by
    have h3:(List.range n)[us.length]? =some i:=by rw[e];simp
    have h4:=List.getElem?_range (n:=n) (i:=us.length) (by
     have:=(List.getElem?_eq_some_iff.1 h3).1;simpa using this)
    rw[h4]at h3;injection h3
   have h5:(List.range n)[k]? =us[k]? :=by rw[e,List.getElem?_append_left (by omega)]
   rw[List.getElem?_range hk]at h5;have:=hno k (List.mem_of_getElem? h5.symm);rw[h]at this;cases this
  rcases Nat.lt_trichotomy i k with h3|h3|h3
  ·rw[hb i h3]at h1;cases h1
  ·rw[h3]
  ·exact(h2 h3).elim
theorem a6A(h:∀j,j<n→p j=false):o6 p n=none:=by
 unfold o6;rw[List.find?_eq_none];intro j hj;rw[h j (List.mem_range.1 hj)];simp
def a1U(fs:List Cl)(kind:Nat):Except Er Unit:=V0 ((List.range' kind (5-kind)).map fun k i=>wrR (A5++fs) k (cl fs i)) fs.length (8+kind)
theorem b5O(fs:List Cl)(h:∀j,j<fs.length→twR fs j=false):Z7 fs=a1U fs 0:=by
 have e:Z7 fs=V0 (twR fs::(List.range' 0 5).map fun k i=>wrR (A5++fs) k (cl fs i)) fs.length 7:=by
  unfold Z7;simp[List.range',wrR,I6]
 rw[e];unfold a1U;rw[V0,a6A h]
theorem b3y(fs:List Cl){i:Nat}(hk:kind<5)(hi:i<fs.length)(h:wrR (A5++fs) kind (cl fs i)=true)(hb:∀j,j<i→wrR (A5++fs) kind (cl fs j)=false):a1U fs kind= .error (8+kind,i):=by
 unfold a1U;rw[show 5-kind=(4-kind)+1 from by omega,List.range'_succ,List.map_cons,V0,a5e hi h hb]
theorem b2K(fs:List Cl)(hk:kind<5)(h:∀j,j<fs.length→wrR (A5++fs) kind (cl fs j)=false):a1U fs kind=a1U fs (kind+1):=by
 unfold a1U;rw[show 5-kind=(5-(kind+1))+1 from by omega,List.range'_succ,List.map_cons,V0,a6A h];rfl
theorem b3x(fs:List Cl):a1U fs 5= .ok ():=rfl
theorem U0.upto(h:U0 w lim L q)(hl:lim≤lim'):U0 w lim' L q:=fun i hi=>(h i hi).upto hl
theorem PM.upto{a:Option Addr}{ms:List Me}(h:PM w lim a ms)(hl:lim≤lim'):PM w lim' a ms:=fun j hj=>by
 obtain⟨p,pa,ca,ha,pk,ck,hk,h1,h2,h3,h4,h5,h6⟩:=h j hj;exact⟨p,pa,ca,ha,pk,ck,hk,h1,Nat.lt_of_lt_of_le h2 hl,h3.upto hl,h4.upto hl,h5.upto hl,h6⟩
theorem O9.upto(h:O9 w lim L q)(hl:lim≤lim'):O9 w lim' L q:=fun i hi=>PM.upto (h i hi) hl
set_option maxRecDepth 100000 in
set_option maxHeartbeats 4000000 in
theorem b5v(w:World)(lim:Nat)(fs:List Cl)(qf:Nat→Qs)(a:Option Addr)(kk:Nat)(hl:lim≤w.heap.size)(hG:Hid (U7 w lim fs qf))(hR:Hid (C0 w lim 4 (K4 fs qf) a (List.range fs.length))):
 Calls Tryz.prog 67 #[.slice a fs.length kk] w fun e w'=>w.grownBy w' none∧a7H w.heap.size fs qf (Z7 fs) e w':=by
 obtain⟨n,hn⟩:∃n,n=fs.length:=⟨_,rfl⟩
 have HN:=A0 hn;have hn12:n≤12:=by rw[hn];exact hG.out.few
 rw[←hn];rw[←hn]at hR;clear hn;go_enter Tryz.func67,Tryz.ntmps67;go_wp2_with (go_at_call 120;refine(b5x _).mono ?_;rintro e w1 ⟨wb,ba,bk,rfl,hb,ho,hg,hlb⟩)
 have HM0:Hid (Mk w1 w.heap.size wb (.slice ba 9 bk) (.slice none 0 0) fs qf 0):=
  ⟨hb,by unfold a1X;rw[←b6v];exact ho,World.ownsRow_nil _ _ _ _,fun g _=>by simp[Value.ownBlock],hlb⟩
 have HG0:=A0 hg;clear hb ho hg;go_loopw [6] (fun i wr=>∃(k:Nat) (va vf:Value),k≤n∧i= .int .i64 k∧Hid (Mk wr w.heap.size wb va vf fs qf k)∧Hid (∀j,j<k→twR fs j=false)∧Hid (w.grownBy wr none)) (fun i _=>n-(intOf i).toNat)
 case atStart=>exact⟨0,_,_,by omega,rfl,HM0,fun j hj=>by omega,HG0⟩
 case round=>
  obtain⟨k,va,vf,hk,rfl,hM,htw,hg⟩:=hrel;by_cases hlt:k<n
  ·have hkl:k<fs.length:=by rw[←HN.out];exact hlt
   obtain⟨p,pk,rfl,hW⟩:=hM.out.wo (lim:=wr.heap.size) (Nat.le_of_lt hkl) hG.out (Nat.le_refl _);have HW:=A0 hW;obtain⟨lp,hlp,-,f0,f1,f2,f3⟩:=a2W (hR.out.keep hg.out) (k:=k) (by simpa using hlt);subst hlp;simp only[List.getElem_range]at f0 f1 f2 f3;obtain⟨ci,hci⟩:∃ci,ci=cl fs k:=⟨_,rfl⟩
   rw[←hci]at f0 f1 f2 f3;have HCI:=A0 hci;have HTW:Hid (twR fs k=E2 (A5++fs.take k) ci.name):=by unfold Hid twR E2;rw[hci]
   obtain⟨fv,hfv⟩:∃fv,fv=l4 (A5++fs.take k) ci.name:=⟨_,rfl⟩
   have HFV:=A0 hfv;clear hci hW hfv;by_cases hf:0≤fv
   ·have hf2:fv≥0:=hf;go_wp2_with (go_at_call 121;refine(a1M _ wr.heap.size wb _ p pk _ HW _).mono ?_;rintro e w' ⟨rfl,rfl⟩;rw[←HFV.out])
    have HER:Hid (Z7 fs= .error (7,k)):=by
     unfold Hid Z7 V0;rw[a5e hkl (by rw[HTW.out,←a4E,←HFV.out];simpa using hf) htw.out]
    refine bodyPost_ret (v:= .tuple #[.pointer none, .int .i64 7, .int .i64 k]) (by simp[results,Tryz.results67,go_sem]) rfl ⟨hg.out,by rw[HER.out];rfl⟩
   ·have hf2:¬fv≥0:=hf;have htk:twR fs k=false:=by rw[HTW.out,←a4E,←HFV.out];simpa using hf
    have HTK:Hid (∀j,j<k+1→twR fs j=false):=fun j hj=>by
     rcases Nat.lt_or_ge j k with h1|h1
     ·exact htw.out j h1
     ·obtain rfl:j=k:=by omega
      exact htk
    have c0:=hM.out.blk.c0;have z0:=hM.out.blk.frozen 0;have hwl:=hM.out.blk.lt;have hne:=M7 hM.out.all hM.out.blk (by decide);have c0a:∀o,(wr.drew.alloc o).cell? ⟨wb,0,none⟩=some (.slice (some p) (9+k) pk):=fun o=>(A1 (B8 _ _) (A2 _ _ none)).cell c0 (by simp)
    have z0a:=fun o=>((A2 wr.drew o none).frozen_far ⟨wb,0,none⟩ hwl (by simp)).trans z0
    obtain⟨inf,hi0,hz0,hz1,hz2⟩:=info_parts a3R;go_wp2_with (go_at_call 121;refine(a1M _ wr.heap.size wb _ p pk _ HW _).mono ?_;rintro e w' ⟨rfl,rfl⟩;rw[←HFV.out])
    go_region_law (refine step_append_lies _ rfl _ _ 90 rfl w.heap.size 44 inf _ 4 80 Tryz.underlying90 hi0 hz0 hz1 hz2 rfl (by decide) _ (9+k) (a1X fs qf k) rfl ((World.ownsRow.drew hM.out.all).alloc _) ⟨wr.heap.size,0,none⟩ 1 1 (F8 ci (qf k)) rfl rfl (O5 wr.drew _ _) (by simp[F8,Value.oneCell']) (by omega) (by unfold maxLen;omega) (by omega) (by have:=hg.out.size;simp;omega) _ rfl ?_
                   intro g cap w4 hown4 hgrow4 hat hlt4;have c4:=(hgrow4.cell_far ⟨wb,0,none⟩ (by simp;omega) (fun e=>hne e.symm)).trans (c0a _);have f4:=(hgrow4.frozen_far ⟨wb,0,none⟩ (by simp;omega) (fun e=>hne e.symm)).trans (z0a _);have hgr:wr.grownBy w4 (Value.slice (some p) (9+k) pk).ownBlock:=A1 (A1 (B8 _ _) (A2 _ _ _)) hgrow4
                   have HM1:Hid (Mk1 (w4.setCell ⟨wb,0,none⟩ (.slice (some ⟨g,0,none⟩) (9+k+1) cap)) w.heap.size wb (.slice (some ⟨g,0,none⟩) (9+k+1) cap) vf fs qf k):=by
                    have hb4:=hM.out.blk.keep hgr (fun e=>hne e.symm);refine⟨hb4.set 0 _,?_,?_,?_,hM.out.low⟩
                    ·rw[b4j,←HCI.out];exact hown4.kept (A6 w4 ⟨wb,0,none⟩ _) (.inr (M7 hown4 hb4 (by decide)))
                    ·have h1:=hM.out.files.kept hgr (by
                      cases he:vf.ownBlock with
                      |none=>exact .inl rfl
                      |some x=>right;exact fun e=>hM.out.apart x e.symm he)
                     exact h1.kept (A6 w4 ⟨wb,0,none⟩ _) (.inr (M7 h1 hb4 (by decide)))
                    ·intro x hx;have hx:g=x:=by simpa[Value.ownBlock]using hx
                     subst hx;rcases hat with e|e
                     ·exact hM.out.apart g e
                     ·intro hv;have:=(K9 hM.out.files hv).2;rw[e]at this;simp[World.drew]at this;omega
                   have HG1:Hid (w.grownBy (w4.setCell ⟨wb,0,none⟩ (.slice (some ⟨g,0,none⟩) (9+k+1) cap)) none):=a8 (C7 hg.out hgr (fun x e=> .inl (K9 hM.out.all e).1)) hM.out.low 0 _;clear hown4 hgrow4 hat hgr)
    all_goals
     clear c4 f4 c0a z0a c0 z0 f0 f1 f2 f3;generalize hW5:w4.setCell ⟨wb,0,none⟩ (.slice (some ⟨g,0,none⟩) (9+k+1) cap)=W5 at HM1 HG1⊢;clear hW5;obtain⟨vfa,vfk,rfl⟩:=F1 HM1.out.files;obtain⟨lp',hlp',-,f0,f1,f2,f3⟩:=a2W (hR.out.keep HG1.out) (k:=k) (by simpa using hlt);cases hlp';simp only[List.getElem_range]at f0 f1 f2 f3;rw[←HCI.out]at f0 f1 f2 f3;have c0:=HM1.out.blk.c1;have z0:=HM1.out.blk.frozen 1;have hwl5:=HM1.out.blk.lt;have hne5:=M7 HM1.out.files HM1.out.blk (by decide);have c0a:∀o,(W5.drew.alloc o).cell? ⟨wb,1,none⟩=some (.slice vfa k vfk):=fun o=>(A1 (B8 _ _) (A2 _ _ none)).cell c0 (by simp)
     have z0a:=fun o=>((A2 W5.drew o none).frozen_far ⟨wb,1,none⟩ hwl5 (by simp)).trans z0
     go_wp2_with fail
     go_region_law (refine step_append_lies _ rfl _ _ 90 rfl w.heap.size 44 inf _ 4 80 Tryz.underlying90 hi0 hz0 hz1 hz2 rfl (by decide) _ k (a3Z fs qf k) rfl ((World.ownsRow.drew HM1.out.files).alloc _) ⟨W5.heap.size,0,none⟩ 1 1 (F8 ci (qf k)) rfl rfl (O5 W5.drew _ _) (by simp[F8,Value.oneCell']) (by omega) (by unfold maxLen;omega) (by omega) (by have:=HG1.out.size;simp;omega) _ rfl ?_
                    intro g2 cap2 w6 hown6 hgrow6 hat6 hlt6;have c6:=(hgrow6.cell_far ⟨wb,1,none⟩ (by simp;omega) (fun e=>hne5 e.symm)).trans (c0a _);have f6:=(hgrow6.frozen_far ⟨wb,1,none⟩ (by simp;omega) (fun e=>hne5 e.symm)).trans (z0a _);have hgr:W5.grownBy w6 (Value.slice vfa k vfk).ownBlock:=A1 (A1 (B8 _ _) (A2 _ _ _)) hgrow6
                    have HM2:Hid (Mk (w6.setCell ⟨wb,1,none⟩ (.slice (some ⟨g2,0,none⟩) (k+1) cap2)) w.heap.size wb (.slice (some ⟨g,0,none⟩) (9+(k+1)) cap) (.slice (some ⟨g2,0,none⟩) (k+1) cap2) fs qf (k+1)):=by
                     have hb6:=HM1.out.blk.keep hgr (fun e=>hne5 e.symm);refine⟨hb6.set 1 _,?_,?_,?_,HM1.out.low⟩
                     ·have h1:=HM1.out.all.kept hgr (by
                       cases he:(Value.slice vfa k vfk).ownBlock with
                       |none=>right;simp[Value.ownBlock]
                       |some x=>right;exact fun e=>HM1.out.apart x e he)
                      exact h1.kept (A6 w6 ⟨wb,1,none⟩ _) (.inr (M7 h1 hb6 (by decide)))
                     ·rw[b4h,←HCI.out];exact hown6.kept (A6 w6 ⟨wb,1,none⟩ _) (.inr (M7 hown6 hb6 (by decide)))
                     ·intro x hx hy;have hx:g=x:=by simpa[Value.ownBlock]using hx
                      have hy:g2=x:=by simpa[Value.ownBlock]using hy
                      subst hx;have hgl:=(K9 HM1.out.all (g:=g) rfl).2;rcases hat6 with e|e
                      ·exact HM1.out.apart g rfl (by rw[←hy];exact e)
                      ·rw[hy]at e;rw[e]at hgl;simp[World.drew]at hgl;omega
                    have HG2:Hid (w.grownBy (w6.setCell ⟨wb,1,none⟩ (.slice (some ⟨g2,0,none⟩) (k+1) cap2)) none):=a8 (C7 HG1.out hgr (fun x e=> .inl (K9 HM1.out.files e).1)) HM1.out.low 1 _;clear hown6 hgrow6 hat6 hgr)
    all_goals
     go_wp2_with fail
     go_roundw
     case rel=>exact⟨k+1,_,_,by omega,by go_num,HM2,HTK,HG2⟩
     case measure=>simp[intOf];omega
  ·have hkn:k=n:=by omega
   subst hkn;obtain⟨p,pk,rfl,hW⟩:=hM.out.wo (lim:=wr.heap.size) (by rw[←HN.out];exact Nat.le_refl _) hG.out (Nat.le_refl _);have htk:fs.take k=fs:=by rw[HN.out];exact List.take_length
   rw[htk]at hW;obtain⟨l9,hl9⟩:∃l9,l9=wr.heap.size:=⟨_,rfl⟩
   rw[←hl9]at hW;have HW:=A0 hW;have hGw:=hG.out.keep hg.out;have hll:lim≤l9:=by rw[hl9];exact Nat.le_trans hl hg.out.size
   have htl:fs.take fs.length=fs:=List.take_length;have HPF:Hid (U0 wr l9 (A5++fs) (K6 qf)):=by have:=hGw.partF (Nat.le_refl fs.length);rw[htl]at this;exact this.upto hll
   have HPM:Hid (O9 wr l9 (A5++fs) (K6 qf)):=by have:=hGw.partM (Nat.le_refl fs.length);rw[htl]at this;exact this.upto hll
   have HSZ:Hid (∀i,i<(A5++fs).length→Szc (cl (A5++fs) i)):=by have:=hGw.szc (Nat.le_refl fs.length);rw[htl]at this;exact this
   have HFW:Hid (Few (A5++fs)):=by have:=hGw.few' (Nat.le_refl fs.length);rw[htl]at this;exact this
   have HGw:Hid (U7 wr l9 fs qf):=⟨hGw.fields.upto hll,hGw.meths.upto hll,hGw.sz,hGw.names,hGw.memb,hGw.few⟩
   have HLF:=A0 (b5O fs (by rw[←HN.out];exact htw.out));clear hW hGw htl htk hl9;go_wp2
   generalize hW1:wr=W1 at*
   clear hW1;go_loopw [8] (fun f wx=>∃kind:Nat,kind≤5∧f= .int .i64 kind∧Hid (Z7 fs=a1U fs kind)∧Hid (W1.grownBy wx none)) (fun f _=>5-(intOf f).toNat)
   case atStart=>exact⟨0,by omega,rfl,HLF,G1 _ _⟩
   case round=>
    obtain⟨kind,hkd,rfl,hlf,hgx⟩:=hrel;by_cases hlt5:kind<5
    ·have hlt5i:decide ((kind:Int)<5)=true:=by simp;omega
     go_wp2
     go_loopw [9] (fun f wy=>∃i:Nat,i≤k∧f= .int .i64 i∧Hid (∀j,j<i→wrR (A5++fs) kind (cl fs j)=false)∧Hid (W1.grownBy wy none)) (fun f _=>k-(intOf f).toNat)
     case atStart=>exact⟨0,by omega,rfl,fun j hj=>by omega,hgx⟩
     case round=>
      obtain⟨i,hi,rfl,hall,hgy⟩:=hrel;by_cases hlti:i<k
      ·have hil:i<fs.length:=by rw[←HN.out];exact hlti
       have HGy:=A0 (A1 hg.out hgy.out);obtain⟨lp,hlp,-,f0,f1,f2,f3⟩:=a2W (hR.out.keep HGy.out) (k:=i) (by simpa using hlti);subst hlp;simp only[List.getElem_range]at f0 f1 f2 f3;have hg1:=(HGw.out.keep hgy.out).fields i hil;have hg2:=(HGw.out.keep hgy.out).meths.at hil;have hg3:=HGw.out.sz i hil;obtain⟨ci,hci⟩:∃ci,ci=cl fs i:=⟨_,rfl⟩
       rw[←hci]at f0 f1 f2 f3 hg1 hg2 hg3;have HCI:=A0 hci;have HF1:=A0 hg1;have HF2:=A0 hg2;have HF3:=A0 hg3;have HWy:=A0 (HW.out.keep hgy.out);have HPFy:Hid (U0 wr l9 (A5++fs) (K6 qf)):=fun i hi=>(HPF.out i hi).keep hgy.out
       have HPMy:=A0 (HPM.out.keep hgy.out);obtain⟨b,hb⟩:∃b,b=wrR (A5++fs) kind ci:=⟨_,rfl⟩
       have HB:=A0 hb;clear hci hg1 hg2 hg3 hb;cases b with
       |true=>
        go_wp2_with (go_at_call 122;refine(a8X _ l9 wb _ p pk _ HWy HPFy HPMy HFW HSZ kind hlt5 ci (qf i) HF1 HF2 HF3).mono ?_;rintro e w7 ⟨rfl,hg7⟩;rw[←HB.out])
        refine bodyPost_ret (v:= .tuple #[.pointer none, .int .i64 (8+kind), .int .i64 i]) (by simp[results,Tryz.results67,go_sem]) rfl ⟨A1 HGy.out hg7,?_⟩;rw[hlf.out,b3y fs hlt5 hil (by rw[←HCI.out,←HB.out]) hall.out];unfold a7H;simp
       |false=>
        go_wp2_with (go_at_call 122;refine(a8X _ l9 wb _ p pk _ HWy HPFy HPMy HFW HSZ kind hlt5 ci (qf i) HF1 HF2 HF3).mono ?_;rintro e w7 ⟨rfl,hg7⟩;rw[←HB.out])
        go_roundw
        case rel=>exact⟨i+1,by omega,by go_num,by
         intro j hj;rcases Nat.lt_or_ge j i with h1|h1
         ·exact hall.out j h1
         ·obtain rfl:j=i:=by omega
          rw[←HCI.out,←HB.out],A1 hgy.out hg7⟩
        case measure=>simp[intOf];omega
      ·go_wp2
       exact⟨⟨kind+1,by omega,by go_num,by
        unfold Hid;rw[hlf.out,b2K fs hlt5 (fun j hj=>hall.out j (by rw[←HN.out]at hj;omega))],hgy⟩,by simp[intOf];omega⟩
    ·have hk5:kind=5:=by omega
     subst hk5;go_wp2
     refine bodyPost_ret (v:= .tuple #[.pointer (some ⟨wb,0,none⟩), .int .i64 0, .int .i64 0]) (by simp[results,Tryz.results67,go_sem]) rfl ⟨A1 hg.out hgx.out,?_⟩;rw[hlf.out,b3x];exact⟨wb,_,_,rfl,by rw[←HN.out];exact hM.out.keep hgx.out⟩
open Go.RowKit
variable{F:Fence}{n:Nat}{P:Program}
variable {α:Type}
def b1e(F:Fence)(n:Nat)(P:Program)(g:Nat)(lb:Array Value)(encs:α→Array Value)(Kp:World→World→Prop)(S Sp:List α→Prop)(N:Nat)(w:World):Prop:=
 ∀(l:Nat) (mu:World→Nat) (J Jx:List α→World→Prop) (W:World),Below w.heap.size w W→AbidesFrom W.heap.size J→AbidesFrom W.heap.size Jx→
  (∀pre W1,J pre W1→pre.length<N∧mu W1+pre.length=N)→
  (∀pre x W1,J pre W1→YieldAt F (n-1) P l (encs x) W1 fun e W'=>(e= .returned (.bool true)∧J (pre++ [x]) W'∧Kp W1 W')∨(e= .returned (.bool false)∧Jx (pre++ [x]) W'))→
  J [] W→CallsIn F n P g (#[.func (.yield l) #[] #[]]++lb) W fun e W'=>(∃v,e= .returned v)∧((∃xs,S xs∧J xs W')∨(∃pre,Sp pre∧Jx pre W'))
structure Z9(w W:World)(r:Loop):Prop where
 loop:W.heap[w.heap.size+1]? =some (.loop r)
 block:W.heap[w.heap.size]? =some (.deferred (some []))
variable {A B w:World}
variable {r:Loop}
theorem Z9.grown{row:Option Nat}(h:Z9 w A r)(hg:A.grownBy B row)(hr:∀k,row=some k→∃o:Obj,A.heap[k]? =some o∧o.isWalk=true):Z9 w B r:=
 ⟨(grownBy_keeps hg hr h.loop rfl).trans h.loop,(grownBy_keeps hg hr h.block rfl).trans h.block⟩
theorem Z9.kept(h:Z9 w A r)(hk:KeepsFrom w.heap.size A B):Z9 w B r:=
 ⟨hk.same _ _ (Nat.le_succ _) h.loop rfl,hk.same _ _ (Nat.le_refl _) h.block rfl⟩
theorem Z9.put{r':Loop}(h:Z9 w A r):Z9 w (A.putObj (w.heap.size+1) (.loop r')) r':=
 ⟨World.putObj_heap_same (Array.getElem?_eq_some_iff.1 h.loop).1,(World.putObj_heap_other (by omega)).trans h.block⟩
theorem b4n{g:Operand}{ps:Array Tmp}{assign body:Code}{Q:Exit→Act→World→Prop}{a:Act}(hro:F.round=none)(h1:1≤n)
 {gf:Nat} {lb:Array Value} (hg:a.eval g= .func (.func gf) #[] lb) (hFg:F.fn gf) (eg:∀args w,(callFunc gf args).run P w= .ok (.enter gf args) w)
 {encs:α→Array Value} {Kp:World→World→Prop} {S Sp:List α→Prop} {N:Nat} {w0:World} (hseq:b1e F (n-1) P gf lb encs Kp S Sp N w0)
 (hKt:∀{A B C:World},Kp A B→Kp B C→Kp A C) (hKb:∀(W:World) (l:Nat) (o o':Obj),w.heap.size≤l→W.heap[l]? =some o→o.isCells=false→o.isWalk=false→Kp W (W.putObj l o'))
 (hb0:Below w0.heap.size w0 w) (hps:∀x,(encs x).size=ps.size) (mu:World→Nat)
 (I:List α→World→Prop) (Ix:Code→List α→World→Prop) (hI:OwnFrom w.heap.size I) (hIx:∀c,OwnFrom w.heap.size (Ix c)) (hmu:∀pre W,I pre W→pre.length<N∧mu W+pre.length=N)
 (h0:I [] w) (Ax:α→Act→World→Prop) (hAx:∀x a',OwnFrom w.heap.size (fun(_:Unit) W=>Ax x a' W))
 (hassign:∀(l:Nat) (pre:List α) (x:α) (W:World) (K:Act→World→Prop),I pre W→(∀a' W',KeepsFrom w.heap.size W W'→Kp W W'→I pre W'→Ax x a' W'→K a' W')→
   assign.wpIn (F.inRound l) (n-1-1) P (Exit.then K (fun _ _ _=>False)) {tmps:=(ps.zip (encs x)).foldl (fun t (p,v)=>t.setIfInBounds p v) a.tmps,defers:=[]} W)
 (hbody:∀(l:Nat) (pre:List α) (x:α) (a':Act) (W:World),I pre W→Ax x a' W→body.wpIn (F.inRound l) (n-1-1) P (ownPostG w.heap.size Kp I Ix (pre++ [x]) W) a' W)
 (hdone:∀(D:Nat) (xs:List α) (W:World),w.heap.size≤D→S xs→I xs W→W.heap[D]? =some (.deferred (some []))→Q .normal {a with defers:={target:= .collected D,args:= #[]}::a.defers} W)
 (hstop:∀(D:Nat) (c:Code) (pre:List α) (W:World),w.heap.size≤D→Sp pre→Ix c pre W→W.heap[D]? =some (.deferred (some []))→c.wpIn F n P Q {a with defers:={target:= .collected D,args:= #[]}::a.defers} W):
 (Code.rangeFunc g ps assign body).wpIn F n P Q a w:=by
 refine wpIn_rangeFunc fun fn hfn=> ?_
 rw[hro];generalize hrec:(fun(st:LoopState) (pe:Option Code)=>({state:=st,pending:=pe,fn,tmps:=a.tmps,params:=ps,assign,body,defers:=w.heap.size}:Loop))=rec;have hst:∀st pe,rec st pe={state:=st,pending:=pe,fn,tmps:=a.tmps,params:=ps,assign,body,defers:=w.heap.size}:=fun st pe=>by rw[←hrec]
 generalize hW1:(w.alloc (.deferred (some []))).alloc (.loop (rec .ready none))=W1;have hsz:W1.heap.size=w.heap.size+2:=by rw[←hW1];simp
 have hT1:Z9 w W1 (rec .ready none):=by
  rw[←hW1];refine⟨?_,(Below.heap_alloc _ _ _ (by simp)).trans (World.alloc_heap_new w _)⟩;have:=World.alloc_heap_new (w.alloc (.deferred (some []))) (.loop (rec .ready none));rwa[World.size_alloc]at this
 have hI1:I [] W1:=by rw[←hW1];exact hI.alloc _ (hI.alloc _ h0)
 have hb1:Below w0.heap.size w0 W1:=by rw[←hW1];exact hb0.trans ((((Below.refl _ w).alloc (Nat.le_refl _) _).alloc (by simp) _).mono hb0.size)
 refine⟨w.heap.size+1,[{target:= .collected w.heap.size,args:= #[]}],W1,{target:= .fn (.func gf) lb,args:= #[.func (.yield (w.heap.size+1)) #[] #[]]},W1,gf, #[.func (.yield (w.heap.size+1)) #[] #[]]++lb,W1,?_,?_,?_,?_,fun _=>h1,?_⟩
 ·rw[←hW1,hst];exact run_enterLoop_outer _ _ _ _ _
 ·simp only[resolve,hg];simp[go_sem]
 ·intro f' hf';simp[Target.leads]at hf';subst hf';exact hFg
 ·simp[invoke,go_sem,eg]
 have hfar:∀{A:World} {row:Option Nat},(∀r,row=some r→W1.heap.size≤r∧∃o:Obj,A.heap[r]? =some o∧o.isWalk=true)→∀r,row=some r→w.heap.size≤r∧∃o:Obj,A.heap[r]? =some o∧o.isCells=false:=fun hr r e=>by
  obtain⟨hB,o,ho,hw⟩:=hr r e;exact⟨by omega,o,ho,Obj.not_cells_of_walk hw⟩
 have hturn:∀{pre:List α} {A:World} {r r':Loop},I pre A→Z9 w A r→I pre (A.putObj (w.heap.size+1) (.loop r')):=fun hi hT=>hI.putObj _ hi (by omega) hT.loop rfl
 have hkp:∀{A:World} {r r':Loop},Z9 w A r→Kp A (A.putObj (w.heap.size+1) (.loop r')):=fun hT=>hKb _ _ _ _ (by omega) hT.loop rfl rfl
 have hend:∀(jump:Option Code) {W3:World},Z9 w W3 (rec .busy none)→(Instr.endRound (w.heap.size+1) jump).run P W3= .ok (.bool jump.isNone) (W3.putObj (w.heap.size+1) (.loop (rec (if jump.isNone then .ready else .done) jump))):=fun jump W3 hT=>by
  have:=run_endRound (P:=P) jump hT.loop;rw[hst]at this⊢;exact this
 refine(hseq (w.heap.size+1) mu (fun pre W=>I pre W∧Z9 w W (rec .ready none)) (fun pre W=>∃c,Ix c pre W∧Z9 w W (rec .done (some c))) W1 hb1
  (fun s A B row hs hg' hr=>⟨hI s A B row hs.1 hg' (hfar hr),hs.2.grown hg' (fun r e=>(hr r e).2)⟩)
  (fun s A B row hs hg' hr=>hs.elim fun c hc=>⟨c,hIx c s A B row hc.1 hg' (hfar hr),hc.2.grown hg' (fun r e=>(hr r e).2)⟩)
  (fun pre W hj=>hmu pre W hj.1) ?_ ⟨hI1,hT1⟩).mono ?_
 ·rintro pre x W ⟨hi,hT⟩;have hy:=run_yield (P:=P) (args:=encs x) hT.loop (by rw[hst];exact hps x);rw[hst]at hy;refine⟨fn,_,assign,body,hy,roundIn_of_wpIn hfn (hassign _ pre x W _ hi fun a' Wa hka hpa hia hax=> ?_)⟩;have hTa:=hT.kept hka;refine⟨Wa.putObj (w.heap.size+1) (.loop (rec .busy none)),?_,wpIn_mono (hbody _ pre x a' _ (hturn hia hTa) ((hAx x a').putObj (s:=()) _ hax (by omega) hTa.loop rfl)) ?_⟩
  ·have:=run_beginRound (P:=P) hTa.loop (by rw[hst]);rw[hst]at this⊢;exact this
  ·have hp2:Kp W (Wa.putObj (w.heap.size+1) (.loop (rec .busy none))):=hKt hpa (hkp hTa);rintro e a3 W3 hp
   have hout:∀c,KeepsFrom w.heap.size (Wa.putObj (w.heap.size+1) (.loop (rec .busy none))) W3→Ix c (pre++ [x]) W3→∃v w',(Instr.endRound (w.heap.size+1) (some c)).run P W3= .ok v w'∧
    ((Ending.returned v= .returned (.bool true)∧(I (pre++ [x]) w'∧Z9 w w' (rec .ready none))∧Kp W w')∨(Ending.returned v= .returned (.bool false)∧∃c,Ix c (pre++ [x]) w'∧Z9 w w' (rec .done (some c)))):=fun c hk hx=>by
    have hT3:=(hTa.put (r':=rec .busy none)).kept hk;exact⟨_,_,hend (some c) hT3, .inr ⟨rfl,c,(hIx c).putObj _ hx (by omega) hT3.loop rfl,hT3.put⟩⟩
   cases e with
   |normal=>
    obtain⟨hk,hp3,hi3⟩:=hp;have hT3:=(hTa.put (r':=rec .busy none)).kept hk;exact⟨_,_,hend none hT3, .inl ⟨rfl,⟨hturn hi3 hT3,hT3.put⟩,hKt (hKt hp2 hp3) (hkp hT3)⟩⟩
   |ret=>exact hout .ret hp.1 hp.2
   |exit id=>exact hout (.exit id) hp.1 hp.2
   |goto t=>exact hout (.goto t) hp.1 hp.2
   |panic ch=>exact hp.elim
   |outgrown=>exact hp.elim
 ·have hover:∀(st:LoopState) (pe:Option Code) {W2:World},st≠ .busy→Z9 w W2 (rec st pe)→(Instr.endLoop (w.heap.size+1)).run P W2= .ok pe (W2.putObj (w.heap.size+1) (.loop (rec .exhausted pe))):=fun st pe W2 hne hT=>by
   have:=run_endLoop (P:=P) hT.loop (by rw[hst];exact hne);rw[hst]at this⊢;exact this
  rintro e W2 ⟨⟨v,rfl⟩,(⟨xs,hS,hi,hT⟩|⟨pre,hSp,c,hi,hT⟩)⟩
  ·exact⟨none,_,hover .ready none (by simp) hT,hdone _ xs _ (Nat.le_refl _) hS (hturn hi hT) hT.put.block⟩
  ·exact⟨some c,_,hover .done (some c) (by simp) hT,hstop _ c pre _ (Nat.le_refl _) hSp ((hIx c).putObj _ hi (by omega) hT.loop rfl) hT.put.block⟩
open Go.RowKit Cf
theorem a9e{w:World}{m k:Nat}{l:List (Ky×Nat)}(h:w.ownsMap (H:=Unit) Tryz.prog 255 (plainElem Tryz.prog 3) m k (P2 l))(c n:ByteArray)(hc:c.size≤maxLen)(hn:n.size≤maxLen)(r:Option Nat)(hr:L2 l (M5 c n)=r):
 (Instr.lookup 149 (.map (some m)) (.agg #[.string c, .string n]) false).run Tryz.prog w= .ok (.int .i64 (r.getD 0:Nat)) w:=by
 obtain⟨d,h1,h2,-⟩:=h.lookup_int a3Y Tryz.underlying149 Tryz.underlying3 (a1Q w) (a2S c n hc hn);have ha:(P2 l).atKey (.string (M5 c n)) (.lit (.int .i64 0))= .lit (.int .i64 (r.getD 0:Nat)):=by rw[(a3K l).at_,hr]
 rw[ha]at h2;simp only[DataW.lit.injEq,Lit.int.injEq,true_and]at h2;subst h2;exact h1
theorem U0.keep{w w':World}{lim:Nat}{L:List Cl}{q:Nat→Qs}(h:U0 w lim L q)(hg:w.grownBy w' none):U0 w' lim L q:=fun i hi=>(h i hi).keep hg
theorem b2u(L:List Cl)(c n:ByteArray):∃(fk:Nat) (fn:ByteArray),a1p L c n= .tuple #[.agg #[.int .i64 fk, .string fn], .bool (R0 L c n).isSome]:=by
 unfold a1p;cases R0 L c n with
 |none=>exact⟨0,⟨#[]⟩,rfl⟩
 |some p=>exact⟨_,_,rfl⟩
theorem b5Z{c:Cl}{j:Nat}(hj:j<c.fields.length):∃k,X7 c c.fields[j].name=some k:=by
 cases h:X7 c c.fields[j].name with
 |some k=>exact⟨k,rfl⟩
 |none=>
  unfold X7 at h;have:=List.findIdx?_eq_none_iff.1 h c.fields[j] (List.getElem_mem hj);simp at this
theorem b7h{c:Cl}{j:Nat}(hj:j<c.methods.length):∃k,N8 c c.methods[j].name=some k:=by
 cases h:N8 c c.methods[j].name with
 |some k=>exact⟨k,rfl⟩
 |none=>
  unfold N8 at h;have:=List.findIdx?_eq_none_iff.1 h c.methods[j] (List.getElem_mem hj);simp at this
def a2K(L:List Cl)(i j:Nat):Bool:=(R0 L (cl L i).super ((cl L i).fields.getD j ⟨C3,0,C3⟩).name).isSome||decide (X7 (cl L i) ((cl L i).fields.getD j ⟨C3,0,C3⟩).name≠some j)
def a3k(L:List Cl)(i j:Nat):Bool:=decide (N8 (cl L i) (((cl L i).methods.map (·.name)).getD j C3)≠some j)
theorem b9e(L:List Cl)(i:Nat):mbP L i=((List.range (cl L i).fields.length).any (a2K L i)||(List.range (cl L i).methods.length).any (a3k L i)):=rfl
set_option maxRecDepth 100000 in
set_option maxHeartbeats 2000000 in
theorem b2b(w:World)(lim b:Nat)(L:List Cl)(p:Addr)(cap m1 m2 m3:Nat)(q:Nat→Qs)(h:Hid (I9 w lim b L p cap m1 m2 m3 q))(hl:lim≤w.heap.size)(hU:Hid (UpL L))(hD:Hid (t9 L))(hZf:Hid (l5 K5 L))(hZm:Hid (l5 G2 L))(hF:Hid (U0 w lim L q))(hP:Hid (O9 w lim L q))(hZ:Hid (SzL L))(i:Nat)(hi:i<L.length):
 Calls Tryz.prog 162 #[.pointer (some ⟨b,0,none⟩), .int .i64 i] w fun e w'=>e= .returned (.bool (mbP L i))∧w.grownBy w' none:=by
 have c0:=h.out.c0;have hpc:=h.out.row i hi;have f0:w.cell? (p.add (i*4))=some (.string (cl L i).name):=hpc 0 _ rfl;have f1:w.cell? ⟨(p.add (i*4)).block,(p.add (i*4)).off+1,none⟩=some (.string (cl L i).super):=by rw[B9 p (i*4) 0];exact hpc 1 _ rfl
 have f2:w.cell? ⟨(p.add (i*4)).block,(p.add (i*4)).off+2,none⟩=some (.slice (q i).fa (cl L i).fields.length (q i).fk):=by rw[B9 p (i*4) 1];exact hpc 2 _ rfl
 have f3:w.cell? ⟨(p.add (i*4)).block,(p.add (i*4)).off+3,none⟩=some (.slice (q i).ma (cl L i).methods.length (q i).mc):=by rw[B9 p (i*4) 2];exact hpc 3 _ rfl
 clear hpc;have hfl:=(hZ.out i hi).2.2.1;have hml:=(hZ.out i hi).2.2.2;have hn1:=(h.out.names i hi).1;have hn2:=(h.out.names i hi).2;have HMB:=A0 (b9e L i);obtain⟨cc,hcc⟩:∃cc,cc=cl L i:=⟨_,rfl⟩
 have HCC:=A0 hcc;rw[←hcc]at f0 f1 f2 f3 hfl hml hn1 hn2 HMB;clear hcc;go_enter Tryz.func162,Tryz.ntmps162;go_wp2_with fail
 obtain⟨W1,hW1⟩:∃W1,W1=w.alloc (.cells #[.string cc.name, .string cc.super, .slice (q i).fa cc.fields.length (q i).fk, .slice (q i).ma cc.methods.length (q i).mc] 44):=⟨_,rfl⟩
 have HG1:Hid (w.grownBy W1 none):=by rw[hW1];exact A2 _ _ _
 have HB1:Hid (A3 W1 w.heap.size #[.string cc.name, .string cc.super, .slice (q i).fa cc.fields.length (q i).fk, .slice (q i).ma cc.methods.length (q i).mc] 44):=by rw[hW1];exact A3.new w _ _
 rw[←hW1];clear hW1;go_loopw [22] (fun k wr=>∃j:Nat,j≤cc.fields.length∧k= .int .i64 j∧W1.grownBy wr none∧∀r,r<j→a2K L i r=false) (fun k _=>cc.fields.length-(intOf k).toNat)
 case atStart=>exact⟨0,Nat.zero_le _,rfl,G1 _ _,fun r hr=>by omega⟩
 case round=>
  obtain⟨j,hj,rfl,hgr,hv⟩:=hrel;have HG:=A0 hgr;have HV:=A0 hv;have HGW:=A0 (A1 HG1.out HG.out);clear hgr hv;by_cases hlt:j<cc.fields.length
  ·obtain⟨pp,hpp,hpb,hpc⟩:=(hF.out i hi).keep HGW.out j (by rw[←HCC.out];exact hlt);obtain⟨t,ht⟩:∃t,t=cc.fields[j]:=⟨_,rfl⟩
   have hpc':∀r u,(G8 t)[r]? =some u→wr.cell? (pp.add (j*3+r))=some u:=by
    intro r u hu;refine hpc r u ?_;rw[ht]at hu;simpa only[HCC.out]using hu
   have g0:wr.cell? (pp.add (j*3))=some (.string t.name):=hpc' 0 _ rfl;have g1:wr.cell? ⟨(pp.add (j*3)).block,(pp.add (j*3)).off+1,none⟩=some (.int .i64 t.ty.kind):=by rw[B9 pp (j*3) 0];exact hpc' 1 _ rfl
   have g2:wr.cell? ⟨(pp.add (j*3)).block,(pp.add (j*3)).off+2,none⟩=some (.string t.ty.name):=by rw[B9 pp (j*3) 1];exact hpc' 2 _ rfl
   have HGa:∀ob,Hid (w.grownBy (wr.alloc ob) none):=fun ob=>A1 HGW.out (A2 wr ob none)
   have HKa:∀ob,Hid (I9 (wr.alloc ob) lim b L p cap m1 m2 m3 q):=fun ob=>h.out.keep (HGa ob).out hl
   have hla:=fun ob=>Nat.le_trans hl (HGa ob).out.size
   have HFa:∀ob,Hid (U0 (wr.alloc ob) lim L q):=fun ob=>hF.out.keep (HGa ob).out
   have hmem:t∈cc.fields:=by rw[ht];exact List.getElem_mem hlt
   have hts:=((hZ.out i hi).2.1 t (by rw[←HCC.out];exact hmem)).2;obtain⟨fx,hfx⟩:=b5Z hlt;rw[←ht]at hfx;have HFX:=A0 hfx;have HBr:=A0 (HB1.out.keep HG.out (by simp));have hBa:=HBr.out.keep (A2 wr (.cells #[.string t.name, .int .i64 t.ty.kind, .string t.ty.name] 129) none) (by simp);have ca0:=hBa.cell 0 _ rfl;have ca1:=hBa.cell 1 _ rfl;obtain⟨fk,fn,hfo⟩:=b2u L cc.super t.name;obtain⟨ab,hab⟩:∃ab,ab=(R0 L cc.super t.name).isSome:=⟨_,rfl⟩
   rw[←hab]at hfo;have HFO:=A0 hfo
   have HBD:Hid (a2K L i j=(ab||decide (fx≠j))):=by
    have hgd:(cl L i).fields.getD j ⟨C3,0,C3⟩=t:=by rw[←HCC.out,ht,List.getD_eq_getElem?_getD,List.getElem?_eq_getElem hlt];rfl
    unfold Hid a2K;rw[hgd,←HCC.out,HFX.out,hab];simp
   have hr0:L2 (N6 K5 L) (M5 cc.name t.name)=some fx:=by rw[HCC.out,a4C K5 hD.out hZf.out hi t.name hts,a8K,←HCC.out];exact hfx
   rw[hpp];clear hpc hpc' ht f0 f1 f2 f3 c0 hfx hfo hab;go_wp2_with (go_at_call 248;go_loud (refine(a4z _ lim b L p cap m1 m2 m3 q (HKa _) (hla _) hU hD hZf (HFa _) cc.super t.name hn2 hts).mono ?_;rintro e w3 ⟨rfl,hg3⟩;rw[HFO.out];have hBc:=hBa.keep hg3 (by simp);have HG3:=A0 (A1 (HGa _).out hg3);have HG3':=A0 (A1 (A1 HG.out (A2 wr _ none)) hg3);have hBf:=(A3.new wr #[.string t.name, .int .i64 t.ty.kind, .string t.ty.name] 129).keep hg3 (by simp));try dsimp only)
   have HGo:Hid (w3.grownBy (w3.alloc (.cells #[.int .i64 fk, .string fn] 98)) none):=A2 _ _ none;have HG4:=A0 (A1 HG3.out HGo.out);have HG4':=A0 (A1 HG3'.out HGo.out);have HK4:=A0 (h.out.keep HG4.out hl);have d2:=HK4.out.c2;have hBd:=hBc.keep HGo.out (by simp);have hBe:=hBf.keep HGo.out (by simp);have d0:=hBd.cell 0 _ rfl;have d1:=hBe.cell 0 _ rfl;have hrun:=fun k:Nat=>a9e (w:=(w3.alloc (.cells #[.int .i64 fk, .string fn] 98)).drewN k) HK4.out.n2 cc.name t.name hn1 hts _ hr0
   simp only[Option.getD_some]at hrun;clear ca0 ca1 hBa hBc hBf hBd hBe hr0;cases ab with
   |true=>
    have HYES:Hid (mbP L i=true):=by
     have:(List.range cc.fields.length).any (a2K L i)=true:=List.any_eq_true.2 ⟨j,List.mem_range.2 hlt,by rw[HBD.out];rfl⟩;unfold Hid;rw[HMB.out,this];rfl
    go_quiet (fail)
    go_wp2
    go_ret;rw[HYES.out];exact⟨rfl,A1 HG4.out (F0 _ _ _)⟩
   |false=>
    by_cases hfj:fx=j
    ·subst hfj;have HNO:Hid (a2K L i fx=false):=by unfold Hid;rw[HBD.out];simp
     go_quiet (fail)
     go_wp2
     go_roundw
     case rel=>exact⟨fx+1,by omega,by go_num,A1 HG4'.out (F0 _ _ _),fun r hr=>by
      rcases Nat.lt_or_ge r fx with h1|h1
      ·exact HV.out r h1
      ·obtain rfl:r=fx:=by omega
       exact HNO.out⟩
     case measure=>simp[intOf];omega
    ·have HYES:Hid (mbP L i=true):=by
      have:(List.range cc.fields.length).any (a2K L i)=true:=List.any_eq_true.2 ⟨j,List.mem_range.2 hlt,by rw[HBD.out];simp[hfj]⟩;unfold Hid;rw[HMB.out,this];rfl
     have hN:((fx:Int)==(j:Int))=false:=by simp;omega
     go_quiet (fail)
     go_wp2
     go_ret;rw[HYES.out];exact⟨rfl,A1 HG4.out (F0 _ _ _)⟩
  ·have hjn:j=cc.fields.length:=by omega
   subst hjn;have HFA:Hid ((List.range cc.fields.length).any (a2K L i)=false):=List.any_eq_false.2 (fun r hr=>by rw[HV.out r (List.mem_range.1 hr)];simp);have HBr:=A0 (HB1.out.keep HG.out (by simp));have c7:=HBr.out.cell 3 _ rfl;clear HV hlt f0 f1 f2 f3 c0;go_wp2_with fail
   go_loopw [55] (fun k wx=>∃j:Nat,j≤cc.methods.length∧k= .int .i64 j∧W1.grownBy wx none∧∀r,r<j→a3k L i r=false) (fun k _=>cc.methods.length-(intOf k).toNat)
   case atStart=>exact⟨0,Nat.zero_le _,rfl,HG.out,fun r hr=>by omega⟩
   case round=>
    obtain⟨j,hj,rfl,hgr,hv⟩:=hrel;have HG5:=A0 hgr;have HV:=A0 hv;have HGW5:=A0 (A1 HG1.out HG5.out);clear hgr hv;by_cases hlt:j<cc.methods.length
    ·have hjm:j<(cl L i).methods.length:=by rw[←HCC.out];exact hlt
     obtain⟨pm,pa,ca,ha,pk,ck,hk,e1,e2,e3,e4,e5,e6⟩:=hP.out.keep HGW5.out i hi j hjm;obtain⟨md,hmd⟩:∃md,md=(cl L i).methods.getD j K8:=⟨_,rfl⟩
     rw[←hmd]at e6;have hmd2:md=cc.methods[j]:=by rw[hmd,←HCC.out,List.getD_eq_getElem?_getD,List.getElem?_eq_getElem hlt];rfl
     have f0:wr.cell? (pm.add (j*8))=some (.string md.name):=e6 0 _ rfl;have f1:wr.cell? ⟨(pm.add (j*8)).block,(pm.add (j*8)).off+1,none⟩=some (.slice pa md.params.length pk):=by rw[B9 pm (j*8) 0];exact e6 1 _ rfl
     have f2:wr.cell? ⟨(pm.add (j*8)).block,(pm.add (j*8)).off+2,none⟩=some (.int .i64 md.ret.kind):=by rw[B9 pm (j*8) 1];exact e6 2 _ rfl
     have f3:wr.cell? ⟨(pm.add (j*8)).block,(pm.add (j*8)).off+3,none⟩=some (.string md.ret.name):=by rw[B9 pm (j*8) 2];exact e6 3 _ rfl
     have f4:wr.cell? ⟨(pm.add (j*8)).block,(pm.add (j*8)).off+4,none⟩=some (.int .i64 md.stack):=by rw[B9 pm (j*8) 3];exact e6 4 _ rfl
     have f5:wr.cell? ⟨(pm.add (j*8)).block,(pm.add (j*8)).off+5,none⟩=some (.int .i64 md.locals):=by rw[B9 pm (j*8) 4];exact e6 5 _ rfl
     have f6:wr.cell? ⟨(pm.add (j*8)).block,(pm.add (j*8)).off+6,none⟩=some (.slice ca md.code.length ck):=by rw[B9 pm (j*8) 5];exact e6 6 _ rfl
     have f7:wr.cell? ⟨(pm.add (j*8)).block,(pm.add (j*8)).off+7,none⟩=some (.slice ha md.handlers.length hk):=by rw[B9 pm (j*8) 6];exact e6 7 _ rfl
     have hts:md.name.size≤maxLen:=by
      refine(hZm.out (cl L i) (by rw[U3 hi];exact List.getElem_mem hi)).2 md.name ?_;unfold G2;rw[←HCC.out];exact List.mem_map.2 ⟨md,by rw[hmd2];exact List.getElem_mem hlt,rfl⟩
     obtain⟨fx,hfx⟩:=b7h hlt;rw[←hmd2]at hfx;have HFX:=A0 hfx
     have HBD:Hid (a3k L i j=decide (fx≠j)):=by
      have hgd:((cl L i).methods.map (·.name)).getD j C3=md.name:=by rw[←HCC.out,hmd2,List.getD_eq_getElem?_getD,List.getElem?_map,List.getElem?_eq_getElem hlt];rfl
      unfold Hid a3k;rw[hgd,←HCC.out,HFX.out];simp
     have hr0:L2 (N6 G2 L) (M5 cc.name md.name)=some fx:=by rw[HCC.out,a4C G2 hD.out hZm.out hi md.name hts,a5j,←HCC.out];exact hfx
     have HGo:Hid (wr.grownBy (wr.alloc (.cells (mV md pa pk ca ck ha hk) 102)) none):=A2 _ _ none;have HG4:=A0 (A1 HGW5.out HGo.out);have HG4':=A0 (A1 HG5.out HGo.out);have HK4:=A0 (h.out.keep HG4.out hl);have d2:=HK4.out.c3;have hBd:=HB1.out.keep HG4'.out (by simp);have hBe:=A3.new wr (mV md pa pk ca ck ha hk) 102;have d0:=hBd.cell 0 _ rfl;have d1:=hBe.cell 0 _ rfl;have hrun:=fun k:Nat=>a9e (w:=(wr.alloc (.cells (mV md pa pk ca ck ha hk) 102)).drewN k) HK4.out.n3 cc.name md.name hn1 hts _ hr0
     simp only[Option.getD_some]at hrun;rw[e1];clear hBd hBe hr0 hfx hmd hmd2 e3 e4 e5 e6 c7;by_cases hfj:fx=j
     ·subst hfj;have HNO:Hid (a3k L i fx=false):=by unfold Hid;rw[HBD.out];simp
      go_wp2_with fail
      go_quiet (fail)
      go_wp2
      go_roundw
      case rel=>exact⟨fx+1,by omega,by go_num,A1 HG4'.out (F0 _ _ _),fun r hr=>by
       rcases Nat.lt_or_ge r fx with h1|h1
       ·exact HV.out r h1
       ·obtain rfl:r=fx:=by omega
        exact HNO.out⟩
      case measure=>simp[intOf];omega
     ·have HYES:Hid (mbP L i=true):=by
       have:(List.range cc.methods.length).any (a3k L i)=true:=List.any_eq_true.2 ⟨j,List.mem_range.2 hlt,by rw[HBD.out];simp[hfj]⟩;unfold Hid;rw[HMB.out,this];simp
      have hN:((fx:Int)==(j:Int))=false:=by simp;omega
      go_wp2_with fail
      go_quiet (fail)
      go_wp2
      go_ret;rw[HYES.out];exact⟨rfl,A1 HG4.out (F0 _ _ _)⟩
    ·have hjn:j=cc.methods.length:=by omega
     subst hjn;have HMA:Hid ((List.range cc.methods.length).any (a3k L i)=false):=List.any_eq_false.2 (fun r hr=>by rw[HV.out r (List.mem_range.1 hr)];simp);have HNO:Hid (mbP L i=false):=by unfold Hid;rw[HMB.out,HFA.out,HMA.out];rfl
     clear HV hlt c7;go_wp2_with fail
     go_ret;rw[HNO.out];exact⟨rfl,HGW5.out⟩
end Kx
end Go.Proofs.YtdhophglnhcjbaaGreatDoor
