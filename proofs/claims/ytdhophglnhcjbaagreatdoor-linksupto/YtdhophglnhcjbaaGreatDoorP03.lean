/- P03: a part of the proof that the last text tells. -/
import Derived.Test.YtdhophglnhcjbaaGreatDoorP02
set_option linter.all false
namespace Go.Proofs.YtdhophglnhcjbaaGreatDoor
open Go.RowKit Go.Shelf Cf
namespace Kx
def PM(w:World)(lim:Nat)(a:Option Addr)(ms:List Me):Prop:=∀j,j<ms.length→∃(p:Addr) (pa ca ha:Option Addr) (pk ck hk:Nat),a=some p∧p.block<lim∧
    C0 w lim 2 C1 pa (ms.getD j K8).params∧C0 w lim 4 L8 ca (ms.getD j K8).code∧C0 w lim 4 M6 ha (ms.getD j K8).handlers∧
    ∀r u,(mv (ms.getD j K8) pa pk ca ck ha hk)[r]? =some u→w.cell? (p.add (j*8+r))=some u
variable {w:World}
variable {i j k lim:Nat}
theorem O9.at{L:List Cl}{q:Nat→Qs}(h:O9 w lim L q)(hi:i<L.length):PM w lim (q i).ma (cl L i).methods:=h i hi
variable {a:Option Addr}
variable {ms:List Me}
theorem PM.keep{w':World}(h:PM w lim a ms)(hg:w.grownBy w' none):PM w' lim a ms:=fun j hj=>by
 obtain⟨p,pa,ca,ha,pk,ck,hk,h1,h2,h3,h4,h5,h6⟩:=h j hj;exact⟨p,pa,ca,ha,pk,ck,hk,h1,h2,h3.keep hg,h4.keep hg,h5.keep hg,fun r u hu=>hg.cell (h6 r u hu) (by simp)⟩
theorem a3J(h:PM w lim a ms)(hk:k<ms.length):∃(p:Addr) (pa ca ha:Option Addr) (pk ck hh:Nat),a=some p∧p.block<lim∧
 C0 w lim 2 C1 pa ms[k].params∧C0 w lim 4 L8 ca ms[k].code∧C0 w lim 4 M6 ha ms[k].handlers∧
 w.cell? (p.add (k*8))=some (.string ms[k].name)∧w.cell? ⟨(p.add (k*8)).block,(p.add (k*8)).off+1,none⟩=some (.slice pa ms[k].params.length pk)∧
 w.cell? ⟨(p.add (k*8)).block,(p.add (k*8)).off+2,none⟩=some (.int .i64 ms[k].ret.kind)∧w.cell? ⟨(p.add (k*8)).block,(p.add (k*8)).off+3,none⟩=some (.string ms[k].ret.name)∧
 w.cell? ⟨(p.add (k*8)).block,(p.add (k*8)).off+4,none⟩=some (.int .i64 ms[k].stack)∧w.cell? ⟨(p.add (k*8)).block,(p.add (k*8)).off+5,none⟩=some (.int .i64 ms[k].locals)∧
 w.cell? ⟨(p.add (k*8)).block,(p.add (k*8)).off+6,none⟩=some (.slice ca ms[k].code.length ck)∧w.cell? ⟨(p.add (k*8)).block,(p.add (k*8)).off+7,none⟩=some (.slice ha ms[k].handlers.length hh):=by
 obtain⟨p,pa,ca,ha,pk,ck,hh,h1,h2,h3,h4,h5,h6⟩:=h k hk;have e:ms.getD k K8=ms[k]:=by rw[List.getD_eq_getElem?_getD,List.getElem?_eq_getElem hk];rfl
 rw[e]at h3 h4 h5 h6
 exact⟨p,pa,ca,ha,pk,ck,hh,h1,h2,h3,h4,h5,h6 0 _ rfl,by rw[B9 p (k*8) 0];exact h6 1 _ rfl,by rw[B9 p (k*8) 1];exact h6 2 _ rfl,by rw[B9 p (k*8) 2];exact h6 3 _ rfl,
  by rw[B9 p (k*8) 3];exact h6 4 _ rfl,by rw[B9 p (k*8) 4];exact h6 5 _ rfl,by rw[B9 p (k*8) 5];exact h6 6 _ rfl,by rw[B9 p (k*8) 6];exact h6 7 _ rfl⟩
theorem b6E{ts:List Ty}(h:C0 w lim 2 C1 a ts)(hk:k<ts.length):∃p:Addr,a=some p∧p.block<lim∧w.cell? (p.add (k*2))=some (.int .i64 ts[k].kind)∧
 w.cell? ⟨(p.add (k*2)).block,(p.add (k*2)).off+1,none⟩=some (.string ts[k].name):=by
 obtain⟨p,h1,h2,h3⟩:=h k hk;exact⟨p,h1,h2,h3 0 _ rfl,by rw[B9 p (k*2) 0];exact h3 1 _ rfl⟩
theorem b7v{hs:List Hd}(h:C0 w lim 4 M6 a hs)(hk:k<hs.length):∃p:Addr,a=some p∧p.block<lim∧w.cell? (p.add (k*4))=some (.int .i64 hs[k].from_)∧
 w.cell? ⟨(p.add (k*4)).block,(p.add (k*4)).off+1,none⟩=some (.int .i64 hs[k].to)∧w.cell? ⟨(p.add (k*4)).block,(p.add (k*4)).off+2,none⟩=some (.int .i64 hs[k].at_)∧w.cell? ⟨(p.add (k*4)).block,(p.add (k*4)).off+3,none⟩=some (.string hs[k].cls):=by
 obtain⟨p,h1,h2,h3⟩:=h k hk;exact⟨p,h1,h2,h3 0 _ rfl,by rw[B9 p (k*4) 0];exact h3 1 _ rfl,by rw[B9 p (k*4) 1];exact h3 2 _ rfl,by rw[B9 p (k*4) 2];exact h3 3 _ rfl⟩
def Szc(c:Cl):Prop:=c.fields.length≤65536∧c.methods.length≤65536∧∀(j:Nat) (hj:j<c.methods.length),c.methods[j].params.length≤65536∧c.methods[j].handlers.length≤65536
variable {α:Type}
theorem b0H(p:α→Bool)(l:List α)(k:Nat)(hk:k<l.length):(l.take (k+1)).all p=((l.take k).all p&&p l[k]):=by
 rw[List.take_succ_eq_append_getElem hk,List.all_append];simp
set_option maxRecDepth 100000 in
set_option maxHeartbeats 1000000 in
theorem b2A(w:World)(lim wb:Nat)(L:List Cl)(p:Addr)(cap:Nat)(q:Nat→Qs)(h:Hid (Wo w lim wb L p cap q))(c:Cl)(qc:Qs)(hF:Hid (C0 w lim 3 G8 qc.fa c.fields))(hM:Hid (PM w lim qc.ma c.methods))(hz:Hid (Szc c)):
 Calls Tryz.prog 179 #[.pointer (some ⟨wb,0,none⟩), .agg (F8 c qc).toArray] w fun e w'=>e= .returned (.bool (y9 L c))∧w.grownBy w' none:=by
 have hnf:=hz.out.1;have hnm:=hz.out.2.1;obtain⟨nf,hf⟩:∃nf,nf=c.fields.length:=⟨_,rfl⟩
 obtain⟨nm,hm⟩:∃nm,nm=c.methods.length:=⟨_,rfl⟩
 have HNF:=A0 hf;have HNM:=A0 hm;unfold F8;rw[←hf,←hm];rw[←hf]at hnf;rw[←hm]at hnm;clear hf hm;go_enter Tryz.func179,Tryz.ntmps179;have hBc:=A3.new w #[.string c.name, .string c.super, .slice qc.fa nf qc.fk, .slice qc.ma nm qc.mc] 44;have HBc:=A0 hBc;have HG0:Hid (w.grownBy (w.alloc (.cells #[.string c.name, .string c.super, .slice qc.fa nf qc.fk, .slice qc.ma nm qc.mc] 44)) none):=A2 _ _ _;clear hBc;go_wp2
 go_loopw [5] (fun f wr=>∃k:Nat,k≤nf∧f= .int .i64 k∧Hid (∀(j:Nat) (hj:j<c.fields.length),j<k→(!S9 L c.fields[j].ty||decide (c.fields[j].ty.kind=0))=false)∧Hid (w.grownBy wr none)∧Hid (A3 wr w.heap.size #[.string c.name, .string c.super, .slice qc.fa nf qc.fk, .slice qc.ma nm qc.mc] 44)) (fun f _=>nf-(intOf f).toNat)
 case atStart=>exact⟨0,by omega,rfl,fun j _ hj=>by omega,HG0,HBc⟩
 case round=>
  obtain⟨k,hk,rfl,hall,hg,hb⟩:=hrel;have c2:=hb.out.cell 2 _ rfl;by_cases hlt:k<nf
  ·have hkl:k<c.fields.length:=by rw[←HNF.out];exact hlt
   obtain⟨fp,hfp,-,e0,e1,e2⟩:=a2U (hF.out.keep hg.out) hkl;rw[hfp]at c2;clear hfp;obtain⟨fx,hfx⟩:∃fx,fx=c.fields[k]:=⟨_,rfl⟩
   rw[←hfx]at e0 e1 e2;have HFX:=A0 hfx;clear hfx;obtain⟨tv,htv⟩:∃tv,tv=(decide (fx.ty.name=C3)||E2 L fx.ty.name):=⟨_,rfl⟩
   have HT:=A0 htv;have HTR:Hid (S9 L fx.ty=tv):=htv.symm;clear htv
   have hfin:Hid ((!tv||decide (fx.ty.kind=0))=true→y9 L c=true):=by
    intro e;unfold y9;rw[Bool.or_eq_true];exact .inl (a2w hkl (by rw[←HFX.out,HTR.out];exact e))
   have hgo:Hid ((!tv||decide (fx.ty.kind=0))=false→∀(j:Nat) (hj:j<c.fields.length),j<k+1→(!S9 L c.fields[j].ty||decide (c.fields[j].ty.kind=0))=false):=by
    intro e j hj' hj;rcases Nat.lt_or_ge j k with h1|h1
    ·exact hall.out j hj' h1
    ·obtain rfl:j=k:=by omega
     rw[←HFX.out,HTR.out];exact e
   have HW:=A0 (h.out.keep hg.out);obtain⟨fn,hfn⟩:∃fn,fn=fx.ty.name:=⟨_,rfl⟩
   rw[←hfn]at e2;have HFN:=A0 hfn;clear hfn;obtain⟨kd,hkd⟩:∃kd,kd=fx.ty.kind:=⟨_,rfl⟩
   rw[←hkd]at e1 hfin hgo;clear hkd;cases tv with
   |false=>
    go_wp2_with (go_at_call 259;refine(a2q _ lim wb L p cap q HW _ _).mono ?_;rintro e w4 ⟨rfl,hg4⟩;rw[HFN.out,←HT.out])
    go_ret;exact⟨i9 (hfin.out rfl).symm,A1 hg.out hg4⟩
   |true=>
    by_cases hk0:kd=0
    ·subst hk0
     go_wp2_with (go_at_call 259
                  refine(a2q _ lim wb L p cap q HW _ _).mono ?_;rintro e w4 ⟨rfl,hg4⟩;rw[HFN.out,←HT.out];have c2':w4.cell? ⟨w.heap.size,2,none⟩=_:=hg4.cell c2 (by simp);have e1':=hg4.cell e1 (by simp))
     go_ret;exact⟨i9 (hfin.out rfl).symm,A1 hg.out hg4⟩
    ·go_wp2_with (go_at_call 259
                  refine(a2q _ lim wb L p cap q HW _ _).mono ?_;rintro e w4 ⟨rfl,hg4⟩;rw[HFN.out,←HT.out];have c2':w4.cell? ⟨w.heap.size,2,none⟩=_:=hg4.cell c2 (by simp);have e1':=hg4.cell e1 (by simp))
     go_roundw
     case rel=>exact⟨k+1,by omega,by go_num,by have:=hgo.out (by simp[hk0]);exact this,A1 hg.out hg4,hb.out.keep hg4 (by simp)⟩
     case measure=>simp[intOf];omega
  ·have HFf:Hid (c.fields.any (fun f=> !S9 L f.ty||decide (f.ty.kind=0))=false):=a2u (fun j hj=>hall.out j hj (by rw[←HNF.out]at hj;omega));clear hall;go_wp2
   clear hlt hk;go_loopw [7] (fun f wr=>∃k:Nat,k≤nm∧f= .int .i64 k∧Hid (∀(j:Nat) (hj:j<c.methods.length),j<k→a2z L c.methods[j]=false)∧Hid (w.grownBy wr none)∧Hid (A3 wr w.heap.size #[.string c.name, .string c.super, .slice qc.fa nf qc.fk, .slice qc.ma nm qc.mc] 44)) (fun f _=>nm-(intOf f).toNat)
   case atStart=>exact⟨0,by omega,rfl,fun j _ hj=>by omega,hg,hb⟩
   case round=>
    clear hg hb c2;obtain⟨km,hkm,rfl,hall,hg,hb⟩:=hrel;have c3:=hb.out.cell 3 _ rfl;by_cases hltm:km<nm
    ·have hklm:km<c.methods.length:=by rw[←HNM.out];exact hltm
     obtain⟨mp,pa,ca,ha,pk,ck,hh,hmp,-,r1,-,r3,m0,m1,m2,m3,m4,m5,m6,m7⟩:=a3J (hM.out.keep hg.out) hklm;rw[hmp]at c3;clear hmp;have hsz:=hz.out.2.2 km hklm;obtain⟨mx,hmx⟩:∃mx,mx=c.methods[km]:=⟨_,rfl⟩
     rw[←hmx]at r1 r3 m0 m1 m2 m3 m4 m5 m6 m7 hsz;have HMX:=A0 hmx;have HR1:=A0 r1;have HR3:=A0 r3;obtain⟨np,hnp⟩:∃np,np=mx.params.length:=⟨_,rfl⟩
     obtain⟨nh,hnh⟩:∃nh,nh=mx.handlers.length:=⟨_,rfl⟩
     rw[←hnp]at m1 hsz;rw[←hnh]at m7 hsz;have HNP:=A0 hnp;have HNH:=A0 hnh;obtain⟨hnp6,hnh6⟩:=hsz;have HW:∀ob,Hid (Wo (wr.alloc ob) lim wb L p cap q):=fun ob=>(h.out.keep hg.out).keep (A2 _ _ _)
     have HTH:Hid (S9 L mx.ret=(decide (mx.ret.name=C3)||E2 L mx.ret.name)):=rfl;clear hmx r1 r3 hnp hnh;obtain⟨tv,htv⟩:∃tv,tv=S9 L mx.ret:=⟨_,rfl⟩
     have HTV:=A0 htv.symm;have HTV2:Hid ((decide (mx.ret.name=C3)||E2 L mx.ret.name)=tv):=htv.symm;clear htv;have HBm0:Hid (A3 (wr.alloc (.cells #[.string mx.name, .slice pa np pk, .int .i64 mx.ret.kind, .string mx.ret.name, .int .i64 mx.stack, .int .i64 mx.locals, .slice ca mx.code.length ck, .slice ha nh hh] 102)) wr.heap.size #[.string mx.name, .slice pa np pk, .int .i64 mx.ret.kind, .string mx.ret.name, .int .i64 mx.stack, .int .i64 mx.locals, .slice ca mx.code.length ck, .slice ha nh hh] 102):=A3.new wr _ _;have HGm0:Hid (w.grownBy (wr.alloc (.cells #[.string mx.name, .slice pa np pk, .int .i64 mx.ret.kind, .string mx.ret.name, .int .i64 mx.stack, .int .i64 mx.locals, .slice ca mx.code.length ck, .slice ha nh hh] 102)) none):=A1 hg.out (A2 _ _ _);have HBc0:Hid (A3 (wr.alloc (.cells #[.string mx.name, .slice pa np pk, .int .i64 mx.ret.kind, .string mx.ret.name, .int .i64 mx.stack, .int .i64 mx.locals, .slice ca mx.code.length ck, .slice ha nh hh] 102)) w.heap.size #[.string c.name, .string c.super, .slice qc.fa nf qc.fk, .slice qc.ma nm qc.mc] 44):=hb.out.keep (A2 _ _ none) (by simp);have HRa:Hid (C0 (wr.alloc (.cells #[.string mx.name, .slice pa np pk, .int .i64 mx.ret.kind, .string mx.ret.name, .int .i64 mx.stack, .int .i64 mx.locals, .slice ca mx.code.length ck, .slice ha nh hh] 102)) lim 2 C1 pa mx.params):=HR1.out.keep (A2 _ _ _);have HRb:Hid (C0 (wr.alloc (.cells #[.string mx.name, .slice pa np pk, .int .i64 mx.ret.kind, .string mx.ret.name, .int .i64 mx.stack, .int .i64 mx.locals, .slice ca mx.code.length ck, .slice ha nh hh] 102)) lim 4 M6 ha mx.handlers):=HR3.out.keep (A2 _ _ _);clear HR1 HR3
     go_wp2_with (go_at_call 259
                  refine(a2q _ lim wb L p cap q (HW _) _ _).mono ?_;rintro e w4 ⟨rfl,hg4⟩;rw[HTV2.out])
     have HBm:=A0 (HBm0.out.keep hg4 (by simp));have HGm:=A0 (A1 HGm0.out hg4);have HBc:=A0 (HBc0.out.keep hg4 (by simp));have HR1:=A0 (HRa.out.keep hg4);have HR3:=A0 (HRb.out.keep hg4);clear HBm0 HGm0 HBc0 HRa HRb hg4 m0 m1 m2 m3 m4 m5 m6 m7 c3;go_loopw [9,10] (fun o f wx=>∃k:Nat,k≤np∧f= .int .i64 k∧o= .bool (tv&&(mx.params.take k).all (fun p=>S9 L p&&decide (p.kind≠0)))∧Hid (w4.grownBy wx none)) (fun _ f _=>np-(intOf f).toNat)
     case atStart=>exact⟨0,by omega,rfl,by simp,G1 _ _⟩
     case round=>
      obtain⟨k,hk,rfl,rfl,hgx⟩:=hrel;have hbx:=HBm.out.keep hgx.out (by simp);have d1:=hbx.cell 1 _ rfl;by_cases hlt:k<np
      ·have hkl:k<mx.params.length:=by rw[←HNP.out];exact hlt
       obtain⟨tp,htp,-,e0,e1⟩:=b6E (HR1.out.keep hgx.out) hkl;rw[htp]at d1;clear htp;obtain⟨px,hpx⟩:∃px,px=mx.params[k]:=⟨_,rfl⟩
       rw[←hpx]at e0 e1;obtain⟨pv,hpv⟩:∃pv,pv=S9 L px:=⟨_,rfl⟩
       obtain⟨o,ho⟩:∃o,o=(tv&&(mx.params.take k).all (fun p=>S9 L p&&decide (p.kind≠0))):=⟨_,rfl⟩
       have HNEW:Hid ((tv&&(mx.params.take (k+1)).all (fun p=>S9 L p&&decide (p.kind≠0)))=(o&&(pv&&decide (px.kind≠0)))):=by
        unfold Hid;rw[b0H _ _ _ hkl,←hpx,hpv,ho,Bool.and_assoc]
       have HPV:Hid ((decide (px.name=C3)||E2 L px.name)=pv):=hpv.symm;have HWx:=A0 ((h.out.keep HGm.out).keep hgx.out);rw[←ho];obtain⟨kd,hkd⟩:∃kd,kd=px.kind:=⟨_,rfl⟩
       rw[←hkd]at e0 HNEW;clear ho hpv hpx hkd;cases o with
       |false=>
        go_wp2_with (go_at_call 259;refine(a2q _ lim wb L p cap q HWx _ _).mono ?_;rintro e w5 ⟨rfl,hg5⟩;rw[HPV.out];have d1':=hg5.cell d1 (by simp);have e0':=hg5.cell e0 (by simp))
        go_roundw
        case rel=>exact⟨k+1,by omega,by go_num,by rw[HNEW.out];rfl,A1 hgx.out hg5⟩
        case measure=>simp[intOf];omega
       |true=>
        cases pv with
        |false=>
         go_wp2_with (go_at_call 259;refine(a2q _ lim wb L p cap q HWx _ _).mono ?_;rintro e w5 ⟨rfl,hg5⟩;rw[HPV.out];have d1':=hg5.cell d1 (by simp);have e0':=hg5.cell e0 (by simp))
         go_roundw
         case rel=>exact⟨k+1,by omega,by go_num,by rw[HNEW.out];rfl,A1 hgx.out hg5⟩
         case measure=>simp[intOf];omega
        |true=>
         by_cases hk0:kd=0
         ·subst hk0;go_wp2_with (go_at_call 259;refine(a2q _ lim wb L p cap q HWx _ _).mono ?_;rintro e w5 ⟨rfl,hg5⟩;rw[HPV.out];have d1':=hg5.cell d1 (by simp);have e0':=hg5.cell e0 (by simp))
          go_roundw
          case rel=>exact⟨k+1,by omega,by go_num,by rw[HNEW.out];rfl,A1 hgx.out hg5⟩
          case measure=>simp[intOf];omega
         ·have hk1:(kd:Int)≠0:=by omega
          go_wp2_with (go_at_call 259;refine(a2q _ lim wb L p cap q HWx _ _).mono ?_;rintro e w5 ⟨rfl,hg5⟩;rw[HPV.out];have d1':=hg5.cell d1 (by simp);have e0':=hg5.cell e0 (by simp))
          go_roundw
          case rel=>exact⟨k+1,by omega,by go_num,by rw[HNEW.out];simp[hk0],A1 hgx.out hg5⟩
          case measure=>simp[intOf];omega
      ·have hkn:k=np:=by omega
       subst hkn;obtain⟨o,ho⟩:∃o,o=(tv&&(mx.params.take k).all (fun p=>S9 L p&&decide (p.kind≠0))):=⟨_,rfl⟩
       have HO:Hid (o=(tv&&mx.params.all (fun p=>S9 L p&&decide (p.kind≠0)))):=by unfold Hid;rw[ho,HNP.out,List.take_length]
       rw[←ho];clear ho;go_wp2
       go_loopw [9,12] (fun o2 f wy=>∃k2:Nat,k2≤nh∧f= .int .i64 k2∧o2= .bool (o&&(mx.handlers.take k2).all (fun h=>E2 L h.cls))∧Hid (w4.grownBy wy none)) (fun _ f _=>nh-(intOf f).toNat)
       case atStart=>exact⟨0,by omega,rfl,by simp,hgx⟩
       case round=>
        obtain⟨k2,hk2,rfl,rfl,hgy⟩:=hrel;have hby:=HBm.out.keep hgy.out (by simp);have d7:=hby.cell 7 _ rfl;by_cases hlt2:k2<nh
        ·have hkl2:k2<mx.handlers.length:=by rw[←HNH.out];exact hlt2
         obtain⟨tp,htp,-,-,-,-,e3⟩:=b7v (HR3.out.keep hgy.out) hkl2;rw[htp]at d7;clear htp d1;obtain⟨pv,hpv⟩:∃pv,pv=l4 L mx.handlers[k2].cls:=⟨_,rfl⟩
         obtain⟨hn,hhn⟩:∃hn,hn=mx.handlers[k2].cls:=⟨_,rfl⟩
         rw[←hhn]at e3 hpv;obtain⟨o2,ho2⟩:∃o2,o2=(o&&(mx.handlers.take k2).all (fun h=>E2 L h.cls)):=⟨_,rfl⟩
         have HNEW:Hid ((o&&(mx.handlers.take (k2+1)).all (fun h=>E2 L h.cls))=(o2&&decide (0≤pv))):=by
          unfold Hid;rw[b0H _ _ _ hkl2,←hhn,hpv,a4E,ho2,Bool.and_assoc]
         have HFV:=A0 hpv;have HWx:=A0 ((h.out.keep HGm.out).keep hgy.out);rw[←ho2];clear ho2 hpv hhn;cases o2 with
         |false=>
          go_wp2_with (go_at_call 121;refine(a1M _ lim wb L p cap q HWx _).mono ?_;rintro e w5 ⟨rfl,rfl⟩;rw[←HFV.out])
          go_roundw
          case rel=>exact⟨k2+1,by omega,by go_num,by rw[HNEW.out];rfl,hgy⟩
          case measure=>simp[intOf];omega
         |true=>
          by_cases hp0:0≤pv
          ·have hp1:pv≥0:=hp0;go_wp2_with (go_at_call 121;refine(a1M _ lim wb L p cap q HWx _).mono ?_;rintro e w5 ⟨rfl,rfl⟩;rw[←HFV.out])
           go_roundw
           case rel=>exact⟨k2+1,by omega,by go_num,by rw[HNEW.out];simp[hp0],hgy⟩
           case measure=>simp[intOf];omega
          ·have hp1:¬pv≥0:=hp0;go_wp2_with (go_at_call 121;refine(a1M _ lim wb L p cap q HWx _).mono ?_;rintro e w5 ⟨rfl,rfl⟩;rw[←HFV.out])
           go_roundw
           case rel=>exact⟨k2+1,by omega,by go_num,by rw[HNEW.out];simp[hp0],hgy⟩
           case measure=>simp[intOf];omega
        ·have hkn:k2=nh:=by omega
         subst hkn;obtain⟨o2,ho2⟩:∃o2,o2=(o&&(mx.handlers.take k2).all (fun h=>E2 L h.cls)):=⟨_,rfl⟩
         have HB:Hid (a2z L mx= !o2):=by
          unfold Hid a2z;rw[ho2,HO.out,HTV.out,HNH.out,List.take_length]
         rw[←ho2];clear ho2 hlt2 hk2;cases o2 with
         |false=>
          go_wp2
          go_ret
          exact⟨i9 (by
           unfold y9;rw[a2w (p:=a2z L) hklm (by rw[←HMX.out,HB.out];rfl),Bool.or_true]),A1 HGm.out hgy.out⟩
         |true=>
          go_wp2
          refine⟨⟨km+1,by omega,by go_num,?_,A1 HGm.out hgy.out,HBc.out.keep hgy.out (by simp)⟩,by simp[intOf];omega⟩;intro j hj' hj;rcases Nat.lt_or_ge j km with h1|h1
          ·exact hall.out j hj' h1
          ·obtain rfl:j=km:=by omega
           rw[←HMX.out,HB.out];rfl
    ·have HMf:=A0 (a2u (fun j hj=>hall.out j hj (by rw[←HNM.out]at hj;omega)));go_wp2
     go_ret;exact⟨i9 (by unfold y9;rw[HFf.out,HMf.out];rfl),hg.out⟩
theorem a5E(f:α→ByteArray)(d:α)(l:List α)(h:j<l.length):f (l.getD j d)=f l[j]:=by
 rw[List.getD_eq_getElem?_getD,List.getElem?_eq_getElem h];rfl
def Dif(f:α→ByteArray)(l:List α)(k:Nat):Prop:=∀i j (hi:i<l.length) (hj:j<l.length),i<j→j<k→f l[i]≠f l[j]
theorem a9S(f:α→ByteArray)(d:α){l:List α}(h:Dif f l l.length):Y4 f l=false:=by
 cases ht:Y4 f l with
 |false=>rfl
 |true=>
  obtain⟨i,j,h1,h2,h3⟩:=(a4v f d l).1 ht;rw[a5E f d l (by omega),a5E f d l h2]at h3;exact absurd h3 (h i j (by omega) h2 h1 h2)
theorem a9t(f:α→ByteArray)(d:α){l:List α}(hi:i<l.length)(hj:j<l.length)(hij:i<j)(e:f l[i]=f l[j]):Y4 f l=true:=
 (a4v f d l).2 ⟨i,j,hij,hj,by rw[a5E f d l hi,a5E f d l hj];exact e⟩
theorem Dif.step{f:α→ByteArray}{l:List α}(h:Dif f l k)(hk:k<l.length)(hn:∀i (hi:i<l.length),i<k→f l[i]≠f l[k]):Dif f l (k+1):=fun i j hi hj hij hj'=>by
 rcases Nat.lt_or_ge j k with h1|h1
 ·exact h i j hi hj hij h1
 ·obtain rfl:j=k:=by omega
  exact hn i hi hij
set_option maxRecDepth 100000 in
set_option maxHeartbeats 1000000 in
theorem b2C(w:World)(lim wb:Nat)(L:List Cl)(p:Addr)(cap:Nat)(q:Nat→Qs)(h:Hid (Wo w lim wb L p cap q))(hPF:Hid (U0 w lim L q))(hfew:Hid (Few L))(c:Cl)(qc:Qs)(hF:Hid (C0 w lim 3 G8 qc.fa c.fields))(hM:Hid (PM w lim qc.ma c.methods))(hz:Hid (Szc c)):
 Calls Tryz.prog 180 #[.pointer (some ⟨wb,0,none⟩), .agg (F8 c qc).toArray] w fun e w'=>e= .returned (.bool (mbR L c))∧w.grownBy w' none:=by
 have hnf:=hz.out.1;have hnm:=hz.out.2.1;obtain⟨nf,hf⟩:∃nf,nf=c.fields.length:=⟨_,rfl⟩
 obtain⟨nm,hm⟩:∃nm,nm=c.methods.length:=⟨_,rfl⟩
 have HNF:=A0 hf;have HNM:=A0 hm;unfold F8;rw[←hf,←hm];rw[←hf]at hnf;rw[←hm]at hnm;clear hf hm;go_enter Tryz.func180,Tryz.ntmps180;have HBc:Hid (A3 (w.alloc (.cells #[.string c.name, .string c.super, .slice qc.fa nf qc.fk, .slice qc.ma nm qc.mc] 44)) w.heap.size #[.string c.name, .string c.super, .slice qc.fa nf qc.fk, .slice qc.ma nm qc.mc] 44):=A3.new w _ _;have HG0:Hid (w.grownBy (w.alloc (.cells #[.string c.name, .string c.super, .slice qc.fa nf qc.fk, .slice qc.ma nm qc.mc] 44)) none):=A2 _ _ _;go_wp2
 go_loopw [5] (fun f wr=>∃k:Nat,k≤nm∧f= .int .i64 k∧Hid (Dif (fun m:Me=>m.name) c.methods k)∧Hid (w.grownBy wr none)∧Hid (A3 wr w.heap.size #[.string c.name, .string c.super, .slice qc.fa nf qc.fk, .slice qc.ma nm qc.mc] 44)) (fun f _=>nm-(intOf f).toNat)
 case atStart=>exact⟨0,by omega,rfl,fun i j _ _ _ hj=>by omega,HG0,HBc⟩
 case round=>
  obtain⟨i,hi,rfl,hall,hg,hb⟩:=hrel;have c3:=hb.out.cell 3 _ rfl;by_cases hlt:i<nm
  ·have hil:i<c.methods.length:=by rw[←HNM.out];exact hlt
   go_wp2
   clear c3;go_loopw [6] (fun f wx=>∃k:Nat,k≤i∧f= .int .i64 k∧Hid (∀j (hj:j<c.methods.length),j<k→c.methods[j].name≠c.methods[i].name)∧Hid (w.grownBy wx none)∧Hid (A3 wx w.heap.size #[.string c.name, .string c.super, .slice qc.fa nf qc.fk, .slice qc.ma nm qc.mc] 44)) (fun f _=>i-(intOf f).toNat)
   case atStart=>exact⟨0,by omega,rfl,fun j _ hj=>by omega,hg,hb⟩
   case round=>
    clear hg hb;obtain⟨k,hk,rfl,hall2,hg,hb⟩:=hrel;have c3:=hb.out.cell 3 _ rfl;by_cases hlt2:k<i
    ·have hkl:k<c.methods.length:=by omega
     obtain⟨mp,-,-,-,-,-,-,hmp,-,-,-,-,m0,-⟩:=a3J (hM.out.keep hg.out) hil;obtain⟨mp',-,-,-,-,-,-,hmp',-,-,-,-,m0',-⟩:=a3J (hM.out.keep hg.out) hkl;rw[hmp]at hmp' c3;cases hmp';clear hmp;obtain⟨xa,hxa⟩:∃xa,xa=c.methods[i].name:=⟨_,rfl⟩
     obtain⟨xb,hxb⟩:∃xb,xb=c.methods[k].name:=⟨_,rfl⟩
     rw[←hxa]at m0;rw[←hxb]at m0';have HXA:=A0 hxa;have HXB:=A0 hxb;clear hxa hxb;have hin:=hlt;have hkn:k<nm:=by omega
     by_cases hx:xa=xb
     ·subst hx;go_wp2
      go_quiet (fail)
      go_wp2
      go_ret;exact⟨i9 (by unfold mbR;rw[a9t (fun m:Me=>m.name) K8 hkl hil hlt2 (HXB.out.symm.trans HXA.out)];rfl),A1 hg.out (F0 _ _ _)⟩
     ·have hb1:=j4 hx;go_wp2
      go_quiet (fail)
      go_wp2
      go_roundw
      case rel=>exact⟨k+1,by omega,by go_num,by
       intro j hj hjk;rcases Nat.lt_or_ge j k with h1|h1
       ·exact hall2.out j hj h1
       ·obtain rfl:j=k:=by omega
        rw[←HXA.out,←HXB.out];exact fun e=>hx e.symm,A1 hg.out (F0 _ _ _),hb.out.keep (F0 _ _ none) (by simp)⟩
      case measure=>simp[intOf];omega
    ·have hki:k=i:=by omega
     subst hki;go_wp2
     exact⟨⟨k+1,by omega,by go_num,hall.out.step hil (fun j hj hjk=>hall2.out j hj hjk),hg,hb⟩,by simp[intOf];omega⟩
  ·have HTM:=A0 (a9S _ K8 (by rw[←HNM.out,show nm=i from by omega];exact hall.out));have c1:=hb.out.cell 1 _ rfl;have HW:=A0 (h.out.keep hg.out);have HPFr:Hid (U0 wr lim L q):=fun i hi=>(hPF.out i hi).keep hg.out
   have hfrl:(a0w L c.super).length≤64*255:=by
    have h1:=a9I hfew.out (l:=up L c.super) (a1W _ _);have h2:=a5T (L:=L) c.super;have h3:=hfew.out.1;have h4:(up L c.super).length*255≤64*255:=Nat.mul_le_mul_right _ (by omega);have h5:a0w L c.super=a0y L (up L c.super):=rfl;rw[h5];omega
   obtain⟨fr,hfr⟩:∃fr,fr=a0w L c.super:=⟨_,rfl⟩
   rw[←hfr]at hfrl;have HFR:=A0 hfr.symm;obtain⟨na,hna⟩:∃na,na=fr.length:=⟨_,rfl⟩
   have HNA:=A0 hna.symm;rw[←hna]at hfrl;clear hfr hna;go_wp2_with (go_at_call 260;refine(b3n _ lim wb L p cap q HW HPFr hfew _).mono ?_;rintro e w4 ⟨aa,ak,rfl,hra,hg4⟩;rw[HFR.out]at hra⊢;rw[HNA.out])
   have HRA:=A0 hra;have HG4:=A0 (A1 hg.out hg4);have HB4:=A0 (hb.out.keep hg4 (by simp));clear hra hg4 c1 c3 hg hb hall hlt hi;go_loopw [8] (fun f wx=>∃k:Nat,k≤nf∧f= .int .i64 k∧Hid (Dif (fun m:R9=>m.name) c.fields k)∧Hid (∀j (hj:j<c.fields.length),j<k→∀m (hm:m<fr.length),c.fields[j].name≠fr[m].name)∧Hid (w4.grownBy wx none)) (fun f _=>nf-(intOf f).toNat)
   case atStart=>exact⟨0,by omega,rfl,fun i j _ _ _ hj=>by omega,fun j _ hj=>by omega,G1 _ _⟩
   case round=>
    obtain⟨i,hi,rfl,hall,hab,hg⟩:=hrel;have hb:=HB4.out.keep hg.out (by simp);have c2:=hb.cell 2 _ rfl;by_cases hlt:i<nf
    ·have hil:i<c.fields.length:=by rw[←HNF.out];exact hlt
     clear hb;go_wp2
     clear c2;go_loopw [9] (fun f wx=>∃k:Nat,k≤i∧f= .int .i64 k∧Hid (∀j (hj:j<c.fields.length),j<k→c.fields[j].name≠c.fields[i].name)∧Hid (w4.grownBy wx none)) (fun f _=>i-(intOf f).toNat)
     case atStart=>exact⟨0,by omega,rfl,fun j _ hj=>by omega,hg⟩
     case round=>
      clear hg;obtain⟨k,hk,rfl,hall2,hg⟩:=hrel;have c2:=(HB4.out.keep hg.out (by simp)).cell 2 _ rfl;by_cases hlt2:k<i
      ·have hkl:k<c.fields.length:=by omega
       have hFx:=(hF.out.keep HG4.out).keep hg.out;obtain⟨mp,hmp,-,m0,-⟩:=a2U hFx hil;obtain⟨mp',hmp',-,m0',-⟩:=a2U hFx hkl;rw[hmp]at hmp' c2;cases hmp';clear hmp hFx;obtain⟨xa,hxa⟩:∃xa,xa=c.fields[i].name:=⟨_,rfl⟩
       obtain⟨xb,hxb⟩:∃xb,xb=c.fields[k].name:=⟨_,rfl⟩
       rw[←hxa]at m0;rw[←hxb]at m0';have HXA:=A0 hxa;have HXB:=A0 hxb;clear hxa hxb;have hin:=hlt;have hkn:k<nf:=by omega
       by_cases hx:xa=xb
       ·subst hx;go_wp2
        go_quiet (fail)
        go_wp2
        go_ret;exact⟨i9 (by unfold mbR;rw[a9t (fun m:R9=>m.name) l7 hkl hil hlt2 (HXB.out.symm.trans HXA.out)];simp),A1 (A1 HG4.out hg.out) (F0 _ _ _)⟩
       ·have hb1:=j4 hx;go_wp2
        go_quiet (fail)
        go_wp2
        go_roundw
        case rel=>exact⟨k+1,by omega,by go_num,by
         intro j hj hjk;rcases Nat.lt_or_ge j k with h1|h1
         ·exact hall2.out j hj h1
         ·obtain rfl:j=k:=by omega
          rw[←HXA.out,←HXB.out];exact fun e=>hx e.symm,A1 hg.out (F0 _ _ _)⟩
        case measure=>simp[intOf];omega
      ·have hki:k=i:=by omega
       subst hki;go_wp2
       clear c2;go_loopw [10] (fun f wx=>∃m:Nat,m≤na∧f= .int .i64 m∧Hid (∀j (hj:j<fr.length),j<m→c.fields[k].name≠fr[j].name)∧Hid (w4.grownBy wx none)) (fun f _=>na-(intOf f).toNat)
       case atStart=>exact⟨0,by omega,rfl,fun j _ hj=>by omega,hg⟩
       case round=>
        clear hg;obtain⟨m,hm,rfl,hall3,hg⟩:=hrel;have c2:=(HB4.out.keep hg.out (by simp)).cell 2 _ rfl;by_cases hlt3:m<na
        ·have hml:m<fr.length:=by rw[HNA.out];exact hlt3
         obtain⟨mp,hmp,-,m0,-⟩:=a2U ((hF.out.keep HG4.out).keep hg.out) hil;obtain⟨mp',hmp',-,m0',-⟩:=a2U (HRA.out.keep hg.out) hml;rw[hmp]at c2;clear hmp;subst hmp';obtain⟨xa,hxa⟩:∃xa,xa=c.fields[k].name:=⟨_,rfl⟩
         obtain⟨xb,hxb⟩:∃xb,xb=fr[m].name:=⟨_,rfl⟩
         rw[←hxa]at m0;rw[←hxb]at m0';have HXA:=A0 hxa;have HXB:=A0 hxb;clear hxa hxb;by_cases hx:xa=xb
         ·subst hx;go_wp2
          go_quiet (fail)
          go_wp2
          go_ret
          exact⟨i9 (by
           unfold mbR;rw[HFR.out,a2w (p:=fun f:R9=>fr.any fun g=>decide (f.name=g.name)) hil (a2w (p:=fun g:R9=>decide (c.fields[k].name=g.name)) hml (by rw[decide_eq_true_eq,←HXA.out,←HXB.out]))];simp),A1 (A1 HG4.out hg.out) (F0 _ _ _)⟩
         ·have hb1:=j4 hx;go_wp2
          go_quiet (fail)
          go_wp2
          go_roundw
          case rel=>exact⟨m+1,by omega,by go_num,by
           intro j hj hjk;rcases Nat.lt_or_ge j m with h1|h1
           ·exact hall3.out j hj h1
           ·obtain rfl:j=m:=by omega
            rw[←HXA.out,←HXB.out];exact hx,A1 hg.out (F0 _ _ _)⟩
          case measure=>simp[intOf];omega
        ·go_wp2
         exact⟨⟨k+1,by omega,by go_num,hall.out.step hil (fun j hj hjk=>hall2.out j hj hjk),by
          intro j hj hjk m' hm';rcases Nat.lt_or_ge j k with h1|h1
          ·exact hab.out j hj h1 m' hm'
          ·obtain rfl:j=k:=by omega
           exact hall3.out m' hm' (by rw[HNA.out]at hm';omega),hg⟩,by simp[intOf];omega⟩
    ·have HTF:=A0 (a9S _ l7 (by rw[←HNF.out,show nf=i from by omega];exact hall.out));go_wp2
     go_ret
     exact⟨i9 (by
      unfold mbR;rw[HTM.out,HTF.out,HFR.out,a2u (p:=fun f:R9=>fr.any fun g=>decide (f.name=g.name)) (fun j hj=>a2u (fun m hm=>by simpa using hab.out j hj (by rw[←HNF.out]at hj;omega) m hm))];rfl),A1 HG4.out hg.out⟩
open Go.RowKit Cf
set_option maxRecDepth 100000 in
set_option maxHeartbeats 1000000 in
theorem a4n(w:World)(lim b:Nat)(L:List Cl)(p:Addr)(cap m1 m2 m3:Nat)(q:Nat→Qs)(h:Hid (I9 w lim b L p cap m1 m2 m3 q))(hl:lim≤w.heap.size)(k:Nat)(s:ByteArray)(hs:Hid (s.size≤maxLen)):
 Calls Tryz.prog 245 #[.pointer (some ⟨b,0,none⟩), .agg #[.int .i64 k, .string s]] w fun e w'=>e= .returned (.bool (R7 L ⟨k,s⟩))∧w.grownBy w' none:=by
 have HK1:∀ob,Hid (I9 (w.alloc ob) lim b L p cap m1 m2 m3 q):=fun ob=>h.out.keep (A2 w ob none) hl
 by_cases h2:k=2
 ·subst h2;obtain⟨v,hv⟩:∃v,v=E2 L s:=⟨_,rfl⟩
  have HV:=A0 hv;have HR:Hid (R7 L ⟨2,s⟩=v):=by unfold Hid R7;rw[if_pos (.inl rfl),hv]
  clear hv;rw[HR.out];go_enter Tryz.func245,Tryz.ntmps245;go_wp2_with (go_at_call 244;go_loud (refine(a3S _ lim b L p cap m1 m2 m3 q (HK1 _) s hs).mono ?_;rintro e w1 ⟨rfl,rfl⟩;rw[←HV.out]))
  go_ret;exact⟨rfl,A2 _ _ _⟩
 ·by_cases h4:k=4
  ·subst h4;obtain⟨v,hv⟩:∃v,v=E2 L s:=⟨_,rfl⟩
   have HV:=A0 hv;have HR:Hid (R7 L ⟨4,s⟩=v):=by unfold Hid R7;rw[if_pos (.inr rfl),hv]
   clear hv;rw[HR.out];go_enter Tryz.func245,Tryz.ntmps245;go_wp2_with (go_at_call 244;go_loud (refine(a3S _ lim b L p cap m1 m2 m3 q (HK1 _) s hs).mono ?_;rintro e w1 ⟨rfl,rfl⟩;rw[←HV.out]))
   go_ret;exact⟨rfl,A2 _ _ _⟩
  ·have HR:Hid (R7 L ⟨k,s⟩=decide (k≠0)):=by unfold Hid R7;rw[if_neg (by rintro(e|e);exact h2 e;exact h4 e)]
   rw[HR.out];clear HR HK1;by_cases h0:k=0
   ·subst h0;go_enter Tryz.func245,Tryz.ntmps245;go_wp2
    go_ret;exact⟨rfl,A2 _ _ _⟩
   ·have hA:((k:Int)==2)=false:=by simp;omega
    have hB:((k:Int)==4)=false:=by simp;omega
    go_enter Tryz.func245,Tryz.ntmps245;go_wp2
    go_ret;exact⟨by simp[h0],A2 _ _ _⟩
set_option maxRecDepth 100000 in
set_option maxHeartbeats 1000000 in
theorem b2a(w:World)(lim b:Nat)(L:List Cl)(p:Addr)(cap m1 m2 m3:Nat)(q:Nat→Qs)(h:Hid (I9 w lim b L p cap m1 m2 m3 q))(i:Nat)(hi:i<L.length):
 Calls Tryz.prog 159 #[.pointer (some ⟨b,0,none⟩), .int .i64 i] w fun e w'=>e= .returned (.bool (nsP L i))∧w.grownBy w' none:=by
 have c0:=h.out.c0;have f1:w.cell? ⟨(p.add (i*4)).block,(p.add (i*4)).off+1,none⟩=some (.string (cl L i).super):=by rw[B9 p (i*4) 0];exact h.out.row i hi 1 _ rfl
 have hs:=A0 ((h.out.names i hi).2);obtain⟨s,hsd⟩:∃s,s=(cl L i).super:=⟨_,rfl⟩
 obtain⟨v,hv⟩:∃v,v=E2 L s:=⟨_,rfl⟩
 have HV:=A0 hv;have HR:Hid (nsP L i= !v):=by unfold Hid nsP;rw[hv,hsd]
 rw[←hsd]at f1 hs;clear hv hsd;rw[HR.out];go_enter Tryz.func159,Tryz.ntmps159;go_wp2_with (go_at_call 244;go_loud (refine(a3S _ lim b L p cap m1 m2 m3 q h s hs).mono ?_;rintro e w1 ⟨rfl,rfl⟩;rw[←HV.out]))
 go_ret;exact⟨rfl,G1 _ _⟩
set_option maxRecDepth 100000 in
set_option maxHeartbeats 1000000 in
theorem b3E(w:World)(lim b:Nat)(L:List Cl)(p:Addr)(cap m1 m2 m3:Nat)(q:Nat→Qs)(h:Hid (I9 w lim b L p cap m1 m2 m3 q))(i:Nat)(hi:i<L.length):
 Calls Tryz.prog 158 #[.pointer (some ⟨b,0,none⟩), .int .i64 i] w fun e w'=>e= .returned (.bool (twP L i))∧w.grownBy w' none:=by
 have c0:=h.out.c0;have c1:=h.out.c1;have f0:w.cell? (p.add (i*4))=some (.string (cl L i).name):=h.out.row i hi 0 _ rfl;have hs:=(h.out.names i hi).1;have hrun:=fun k:Nat=>a6W (w:=w.drewN k) h.out.n1 (cl L i).name hs
 obtain⟨s,hsd⟩:∃s,s=(cl L i).name:=⟨_,rfl⟩
 obtain⟨k,hk⟩:∃k,C5 L (cl L i).name=some k:=by
  cases hf:C5 L (cl L i).name with
  |none=>exact absurd rfl (a5p hf i hi)
  |some k=>exact⟨k,rfl⟩
 rw[hk]at hrun;simp only[Option.getD_some]at hrun;have HR:Hid (twP L i=decide (k≠i)):=by unfold Hid twP;rw[hk];simp
 rw[←hsd]at f0 hrun;clear hsd hk hs;rw[HR.out];by_cases hki:k=i
 ·subst hki;go_enter Tryz.func158,Tryz.ntmps158;go_wp2
  go_quiet (fail)
  go_wp2
  go_ret;exact⟨by simp,F0 _ _ _⟩
 ·go_enter Tryz.func158,Tryz.ntmps158;go_wp2
  go_quiet (fail)
  go_wp2
  go_ret;exact⟨by simp[hki];omega,F0 _ _ _⟩
def a4Y(m:Me):Prop:=(∀t∈m.params,t.name.size≤maxLen)∧(∀h∈m.handlers,h.cls.size≤maxLen)∧m.ret.name.size≤maxLen∧m.params.length≤65536∧m.handlers.length≤65536
set_option maxRecDepth 100000 in
set_option maxHeartbeats 2000000 in
theorem a8j(w:World)(lim b:Nat)(L:List Cl)(p:Addr)(cap m1 m2 m3:Nat)(q:Nat→Qs)(h:Hid (I9 w lim b L p cap m1 m2 m3 q))(hl:lim≤w.heap.size)(m:Me)(pa ca ha:Option Addr)(pk ck hk:Nat)
 (hz:Hid (a4Y m)) (r1:Hid (C0 w lim 2 C1 pa m.params)) (r3:Hid (C0 w lim 4 M6 ha m.handlers)):
 Calls Tryz.prog 247 #[.pointer (some ⟨b,0,none⟩), .agg #[.string m.name, .slice pa m.params.length pk, .int .i64 m.ret.kind, .string m.ret.name, .int .i64 m.stack, .int .i64 m.locals, .slice ca m.code.length ck, .slice ha m.handlers.length hk]] w fun e w'=>e= .returned (.bool (g8 L m))∧w.grownBy w' none:=by
 have hpl:=hz.out.2.2.2.1;have hhl:=hz.out.2.2.2.2;go_enter Tryz.func247,Tryz.ntmps247;go_wp2_with fail
 obtain⟨W1,hW1⟩:∃W1,W1=w.alloc (.cells #[.string m.name, .slice pa m.params.length pk, .int .i64 m.ret.kind, .string m.ret.name, .int .i64 m.stack, .int .i64 m.locals, .slice ca m.code.length ck, .slice ha m.handlers.length hk] 102):=⟨_,rfl⟩
 have hg1:w.grownBy W1 none:=by rw[hW1];exact A2 _ _ _
 have HB1:Hid (A3 W1 w.heap.size #[.string m.name, .slice pa m.params.length pk, .int .i64 m.ret.kind, .string m.ret.name, .int .i64 m.stack, .int .i64 m.locals, .slice ca m.code.length ck, .slice ha m.handlers.length hk] 102):=by rw[hW1];exact A3.new w _ _
 have HG1:=A0 hg1;rw[←hW1];clear hW1 hg1;go_loopw [12] (fun i wr=>∃j:Nat,j≤m.params.length∧i= .int .i64 j∧W1.grownBy wr none∧∀r,r<j→R7 L (m.params.getD r ⟨0,⟨#[]⟩⟩)=true) (fun i _=>m.params.length-(intOf i).toNat)
 case atStart=>exact⟨0,Nat.zero_le _,rfl,G1 _ _,fun r hr=>by omega⟩
 case round=>
  obtain⟨j,hj,rfl,hgr,hv⟩:=hrel;have HG:=A0 hgr;have HV:=A0 hv;have HGW:=A0 (A1 HG1.out HG.out);clear hgr hv;by_cases hlt:j<m.params.length
  ·obtain⟨pp,hpp,hpb,hpc⟩:=r1.out.keep HGW.out j hlt;obtain⟨t,ht⟩:∃t,t=m.params[j]:=⟨_,rfl⟩
   rw[←ht]at hpc;have f0:wr.cell? (pp.add (j*2))=some (.int .i64 t.kind):=hpc 0 _ rfl;have f1:wr.cell? ⟨(pp.add (j*2)).block,(pp.add (j*2)).off+1,none⟩=some (.string t.name):=by rw[B9 pp (j*2) 0];exact hpc 1 _ rfl
   have HKa:∀ob,Hid (I9 (wr.alloc ob) lim b L p cap m1 m2 m3 q):=fun ob=>(h.out.keep HGW.out hl).keep (A2 wr ob none) (Nat.le_trans hl HGW.out.size)
   have hla:∀ob,lim≤(wr.alloc ob).heap.size:=fun ob=>by have:=HGW.out.size;simp;omega
   have HS:=A0 (hz.out.1 t (by rw[ht];exact List.getElem_mem hlt));have HT:=A0 ht;have HTD:Hid (m.params.getD j ⟨0,⟨#[]⟩⟩=t):=by unfold Hid;rw[ht,List.getD_eq_getElem?_getD,List.getElem?_eq_getElem hlt];rfl
   obtain⟨v,hvv⟩:∃v,v=R7 L ⟨t.kind,t.name⟩:=⟨_,rfl⟩
   have HVV:=A0 hvv;subst hpp;clear hpc ht hvv;cases v with
   |true=>
    go_wp2_with (go_at_call 245;go_loud (refine(a4n _ lim b L p cap m1 m2 m3 q (HKa _) (hla _) t.kind t.name HS).mono ?_;rintro e w2 ⟨rfl,hg2⟩;rw[←HVV.out];have HG2:=A1 (A1 HG.out (A2 wr _ none)) hg2))
    go_roundw
    case rel=>exact⟨j+1,by omega,by go_num,HG2,fun r hr=>by
     rcases Nat.lt_or_ge r j with h1|h1
     ·exact HV.out r h1
     ·obtain rfl:r=j:=by omega
      rw[HTD.out,←HVV.out]⟩
    case measure=>simp[intOf];omega
   |false=>
    go_wp2_with (go_at_call 245;go_loud (refine(a4n _ lim b L p cap m1 m2 m3 q (HKa _) (hla _) t.kind t.name HS).mono ?_;rintro e w2 ⟨rfl,hg2⟩;rw[←HVV.out];have HG2:=A1 (A1 HGW.out (A2 wr _ none)) hg2))
    go_ret
    have hno:g8 L m=true:=by
     have:(m.params.any fun p=> !R7 L p)=true:=List.any_eq_true.2 ⟨t,by rw[HT.out];exact List.getElem_mem hlt,by show(!R7 L ⟨t.kind,t.name⟩)=true;rw[←HVV.out];rfl⟩;unfold g8;rw[this];rfl
    rw[hno];exact⟨rfl,HG2⟩
  ·have hjn:j=m.params.length:=by omega
   subst hjn
   have HPA:Hid ((m.params.any fun p=> !R7 L p)=false):=by
    refine List.any_eq_false.2 (fun t ht=> ?_);obtain⟨r,hr,rfl⟩:=List.getElem_of_mem ht;have:=HV.out r hr;rw[List.getD_eq_getElem?_getD,List.getElem?_eq_getElem hr]at this;simpa using this
   have HBr:=A0 (HB1.out.keep HG.out (by simp));have c7:=HBr.out.cell 7 _ rfl;clear HV hlt;go_wp2_with fail
   go_loopw [24] (fun i wx=>∃j:Nat,j≤m.handlers.length∧i= .int .i64 j∧W1.grownBy wx none∧∀r,r<j→E2 L (m.handlers.getD r ⟨0,0,0,⟨#[]⟩⟩).cls=true) (fun i _=>m.handlers.length-(intOf i).toNat)
   case atStart=>exact⟨0,Nat.zero_le _,rfl,HG.out,fun r hr=>by omega⟩
   case round=>
    obtain⟨j,hj,rfl,hgr,hv⟩:=hrel;have HG3:=A0 hgr;have HV:=A0 hv;have HGW3:=A0 (A1 HG1.out HG3.out);clear hgr hv;by_cases hlt:j<m.handlers.length
    ·obtain⟨pp,hpp,hpb,hpc⟩:=r3.out.keep HGW3.out j hlt;obtain⟨t,ht⟩:∃t,t=m.handlers[j]:=⟨_,rfl⟩
     rw[←ht]at hpc;have f0:wr.cell? (pp.add (j*4))=some (.int .i64 t.from_):=hpc 0 _ rfl;have f1:wr.cell? ⟨(pp.add (j*4)).block,(pp.add (j*4)).off+1,none⟩=some (.int .i64 t.to):=by rw[B9 pp (j*4) 0];exact hpc 1 _ rfl
     have f2:wr.cell? ⟨(pp.add (j*4)).block,(pp.add (j*4)).off+2,none⟩=some (.int .i64 t.at_):=by rw[B9 pp (j*4) 1];exact hpc 2 _ rfl
     have f3:wr.cell? ⟨(pp.add (j*4)).block,(pp.add (j*4)).off+3,none⟩=some (.string t.cls):=by rw[B9 pp (j*4) 2];exact hpc 3 _ rfl
     have HKa:∀ob,Hid (I9 (wr.alloc ob) lim b L p cap m1 m2 m3 q):=fun ob=>(h.out.keep HGW3.out hl).keep (A2 wr ob none) (Nat.le_trans hl HGW3.out.size)
     have HS:=A0 (hz.out.2.1 t (by rw[ht];exact List.getElem_mem hlt));have HT:=A0 ht;have HTD:Hid (m.handlers.getD j ⟨0,0,0,⟨#[]⟩⟩=t):=by unfold Hid;rw[ht,List.getD_eq_getElem?_getD,List.getElem?_eq_getElem hlt];rfl
     obtain⟨v,hvv⟩:∃v,v=E2 L t.cls:=⟨_,rfl⟩
     have HVV:=A0 hvv;subst hpp;clear hpc ht hvv c7;cases v with
     |true=>
      go_wp2_with (go_at_call 244;go_loud (refine(a3S _ lim b L p cap m1 m2 m3 q (HKa _) t.cls HS).mono ?_;rintro e w2 ⟨rfl,rfl⟩;rw[←HVV.out]))
      go_roundw
      case rel=>exact⟨j+1,by omega,by go_num,A1 HG3.out (A2 wr _ none),fun r hr=>by
       rcases Nat.lt_or_ge r j with h1|h1
       ·exact HV.out r h1
       ·obtain rfl:r=j:=by omega
        rw[HTD.out,←HVV.out]⟩
      case measure=>simp[intOf];omega
     |false=>
      go_wp2_with (go_at_call 244;go_loud (refine(a3S _ lim b L p cap m1 m2 m3 q (HKa _) t.cls HS).mono ?_;rintro e w2 ⟨rfl,rfl⟩;rw[←HVV.out]))
      go_ret
      have hno:g8 L m=true:=by
       have:(m.handlers.any fun h=> !E2 L h.cls)=true:=List.any_eq_true.2 ⟨t,by rw[HT.out];exact List.getElem_mem hlt,by rw[←HVV.out];rfl⟩;unfold g8;rw[this];simp
      rw[hno];exact⟨rfl,A1 HGW3.out (A2 wr _ none)⟩
    ·have hjn:j=m.handlers.length:=by omega
     subst hjn
     have HHA:Hid ((m.handlers.any fun h=> !E2 L h.cls)=false):=by
      refine List.any_eq_false.2 (fun t ht=> ?_);obtain⟨r,hr,rfl⟩:=List.getElem_of_mem ht;have:=HV.out r hr;rw[List.getD_eq_getElem?_getD,List.getElem?_eq_getElem hr]at this;simpa using this
     have HBx:=A0 (HB1.out.keep HG3.out (by simp));have c2:=HBx.out.cell 2 _ rfl;have c3:=HBx.out.cell 3 _ rfl;have HNO:Hid (g8 L m=(decide (m.ret.kind≠0)&& !R7 L m.ret)):=by unfold Hid g8;rw[HPA.out,HHA.out];rfl
     have HKx:=A0 (h.out.keep HGW3.out hl);have hlx:=Nat.le_trans hl HGW3.out.size;have HSR:=A0 hz.out.2.2.1;clear HV hlt c7;obtain⟨kd,hkd⟩:∃kd,kd=m.ret.kind:=⟨_,rfl⟩
     obtain⟨rn,hrn⟩:∃rn,rn=m.ret.name:=⟨_,rfl⟩
     have hret:m.ret=⟨kd,rn⟩:=by rw[hkd,hrn]
     rw[hret]at HSR HNO;rw[←hkd]at c2;rw[←hrn]at c3;clear hkd hrn hret;by_cases hk0:kd=0
     ·subst hk0;go_wp2_with fail
      go_ret;rw[HNO.out];exact⟨rfl,HGW3.out⟩
     ·have hA:((kd:Int)==0)=false:=by simp;omega
      obtain⟨v,hvv⟩:∃v,v=R7 L ⟨kd,rn⟩:=⟨_,rfl⟩
      have HVV:=A0 hvv;rw[←hvv]at HNO;clear hvv;go_wp2_with (go_at_call 245;go_loud (refine(a4n _ lim b L p cap m1 m2 m3 q HKx hlx kd rn HSR).mono ?_;rintro e w2 ⟨rfl,hg2⟩;rw[←HVV.out]))
      go_ret;rw[HNO.out];exact⟨by simp[hk0],A1 HGW3.out hg2⟩
def SzL(L:List Cl):Prop:=∀i,i<L.length→(∀j,j<(cl L i).methods.length→a4Y ((cl L i).methods.getD j K8))∧(∀f∈(cl L i).fields,f.ty.name.size≤maxLen∧f.name.size≤maxLen)∧(cl L i).fields.length≤65536∧(cl L i).methods.length≤65536
set_option maxRecDepth 100000 in
set_option maxHeartbeats 2000000 in
theorem b2t(w:World)(lim b:Nat)(L:List Cl)(p:Addr)(cap m1 m2 m3:Nat)(q:Nat→Qs)(h:Hid (I9 w lim b L p cap m1 m2 m3 q))(hl:lim≤w.heap.size)(hP:Hid (O9 w lim L q))(hZ:Hid (SzL L))(i:Nat)(hi:i<L.length):
 Calls Tryz.prog 314 #[.slice (q i).ma (cl L i).methods.length (q i).mc, .func (.func 247) #[.pointer (some ⟨b,0,none⟩)] #[]] w fun e w'=>
  ∃v:Int,e= .returned (.int .i64 v)∧Hid ((!decide (v<0))=(cl L i).methods.any (g8 L))∧w.grownBy w' none:=by
 have hml:=(hZ.out i hi).2.2.2;obtain⟨n,hn⟩:∃n,n=(cl L i).methods.length:=⟨_,rfl⟩
 have HN:=A0 hn;rw[←hn]at hml⊢;clear hn;go_enter Tryz.func314,Tryz.ntmps314;go_wp2_with fail
 go_loopw [5,8] (fun _ k wr=>∃j:Nat,j≤n∧k= .int .i64 j∧w.grownBy wr none∧∀r,r<j→g8 L ((cl L i).methods.getD r K8)=false) (fun _ k _=>n-(intOf k).toNat)
 case atStart=>exact⟨0,Nat.zero_le _,rfl,G1 _ _,fun r hr=>by omega⟩
 case round=>
  obtain⟨j,hj,rfl,hgr,hv⟩:=hrel;have HG:=A0 hgr;have HV:=A0 hv;clear hgr hv;by_cases hlt:j<n
  ·have hjm:j<(cl L i).methods.length:=by rw[←HN.out];exact hlt
   obtain⟨pm,pa,ca,ha,pk,ck,hk,e1,e2,e3,e4,e5,e6⟩:=hP.out.keep HG.out i hi j hjm;obtain⟨md,hmd⟩:∃md,md=(cl L i).methods.getD j K8:=⟨_,rfl⟩
   rw[←hmd]at e3 e5 e6;have HM:=A0 hmd;have HS:Hid (a4Y md):=by rw[hmd];exact(hZ.out i hi).1 j hjm
   have f0:wr.cell? (pm.add (j*8))=some (.string md.name):=e6 0 _ rfl;have f1:wr.cell? ⟨(pm.add (j*8)).block,(pm.add (j*8)).off+1,none⟩=some (.slice pa md.params.length pk):=by rw[B9 pm (j*8) 0];exact e6 1 _ rfl
   have f2:wr.cell? ⟨(pm.add (j*8)).block,(pm.add (j*8)).off+2,none⟩=some (.int .i64 md.ret.kind):=by rw[B9 pm (j*8) 1];exact e6 2 _ rfl
   have f3:wr.cell? ⟨(pm.add (j*8)).block,(pm.add (j*8)).off+3,none⟩=some (.string md.ret.name):=by rw[B9 pm (j*8) 2];exact e6 3 _ rfl
   have f4:wr.cell? ⟨(pm.add (j*8)).block,(pm.add (j*8)).off+4,none⟩=some (.int .i64 md.stack):=by rw[B9 pm (j*8) 3];exact e6 4 _ rfl
   have f5:wr.cell? ⟨(pm.add (j*8)).block,(pm.add (j*8)).off+5,none⟩=some (.int .i64 md.locals):=by rw[B9 pm (j*8) 4];exact e6 5 _ rfl
   have f6:wr.cell? ⟨(pm.add (j*8)).block,(pm.add (j*8)).off+6,none⟩=some (.slice ca md.code.length ck):=by rw[B9 pm (j*8) 5];exact e6 6 _ rfl
   have f7:wr.cell? ⟨(pm.add (j*8)).block,(pm.add (j*8)).off+7,none⟩=some (.slice ha md.handlers.length hk):=by rw[B9 pm (j*8) 6];exact e6 7 _ rfl
   have HKr:=A0 (h.out.keep HG.out hl);have hlr:=Nat.le_trans hl HG.out.size;have R3:=A0 e3;have R5:=A0 e5;obtain⟨v,hvv⟩:∃v,v=g8 L md:=⟨_,rfl⟩
   have HVV:=A0 hvv;clear hvv hmd e3 e4 e5 e6;rw[e1];cases v with
   |true=>
    go_wp2_with (go_at_call 247;go_loud (refine(a8j _ lim b L p cap m1 m2 m3 q HKr hlr md pa ca ha pk ck hk HS R3 R5).mono ?_;rintro e w2 ⟨rfl,hg2⟩;rw[←HVV.out]))
    go_ret;refine⟨_,rfl,?_,A1 HG.out hg2⟩;have:=List.any_eq_true.2 ⟨md,by rw[HM.out,List.getD_eq_getElem?_getD,List.getElem?_eq_getElem hjm];exact List.getElem_mem hjm,HVV.out.symm⟩;rw[this];unfold Hid;simp
   |false=>
    go_wp2_with (go_at_call 247;go_loud (refine(a8j _ lim b L p cap m1 m2 m3 q HKr hlr md pa ca ha pk ck hk HS R3 R5).mono ?_;rintro e w2 ⟨rfl,hg2⟩;rw[←HVV.out]))
    go_roundw
    case rel=>exact⟨j+1,by omega,by go_num,A1 HG.out hg2,fun r hr=>by
     rcases Nat.lt_or_ge r j with h1|h1
     ·exact HV.out r h1
     ·obtain rfl:r=j:=by omega
      rw[←HM.out,←HVV.out]⟩
    case measure=>simp[intOf];omega
  ·have hjn:j=n:=by omega
   subst hjn;go_wp2_with fail
   go_ret;refine⟨_,rfl,?_,HG.out⟩
   have:(cl L i).methods.any (g8 L)=false:=List.any_eq_false.2 (fun t ht=>by
    obtain⟨r,hr,rfl⟩:=List.getElem_of_mem ht;have:=HV.out r (by rw[HN.out];exact hr);rw[List.getD_eq_getElem?_getD,List.getElem?_eq_getElem hr]at this;simpa using this)
   rw[this];rfl
set_option maxRecDepth 100000 in
set_option maxHeartbeats 2000000 in
theorem b2f(w:World)(lim b:Nat)(L:List Cl)(p:Addr)(cap m1 m2 m3:Nat)(q:Nat→Qs)(h:Hid (I9 w lim b L p cap m1 m2 m3 q))(hl:lim≤w.heap.size)(hP:Hid (O9 w lim L q))(hZ:Hid (SzL L))(i:Nat)(hi:i<L.length):
 Calls Tryz.prog 246 #[.slice (q i).ma (cl L i).methods.length (q i).mc, .func (.func 247) #[.pointer (some ⟨b,0,none⟩)] #[]] w fun e w'=>
  e= .returned (.bool ((cl L i).methods.any (g8 L)))∧w.grownBy w' none:=by
 obtain⟨r,hr⟩:∃r,r=(cl L i).methods.any (g8 L):=⟨_,rfl⟩
 have HR:=A0 hr;rw[←hr];clear hr;go_enter Tryz.func246,Tryz.ntmps246;go_wp2_with (go_at_call 314;go_loud (refine(b2t _ lim b L p cap m1 m2 m3 q h hl hP hZ i hi).mono ?_;rintro e w2 ⟨v,rfl,HV,hg2⟩))
 go_ret;refine⟨?_,hg2⟩;have:=HV.out;rw[←HR.out]at this
 have e:decide (0≤v)= !decide (v<0):=by
  by_cases hv:v<0
  ·simp only[hv,decide_true,Bool.not_true,decide_eq_false_iff_not];omega
  ·simp only[hv,decide_false,Bool.not_false,decide_eq_true_eq];omega
 rw[←this,←e];rfl
set_option maxRecDepth 100000 in
set_option maxHeartbeats 2000000 in
theorem b2e(w:World)(lim b:Nat)(L:List Cl)(p:Addr)(cap m1 m2 m3:Nat)(q:Nat→Qs)(h:Hid (I9 w lim b L p cap m1 m2 m3 q))(hl:lim≤w.heap.size)(hF:Hid (U0 w lim L q))(hP:Hid (O9 w lim L q))(hZ:Hid (SzL L))(i:Nat)(hi:i<L.length):
 Calls Tryz.prog 161 #[.pointer (some ⟨b,0,none⟩), .int .i64 i] w fun e w'=>e= .returned (.bool (tyP L i))∧w.grownBy w' none:=by
 have c0:=h.out.c0;have hpc:=h.out.row i hi;have f0:w.cell? (p.add (i*4))=some (.string (cl L i).name):=hpc 0 _ rfl;have f1:w.cell? ⟨(p.add (i*4)).block,(p.add (i*4)).off+1,none⟩=some (.string (cl L i).super):=by rw[B9 p (i*4) 0];exact hpc 1 _ rfl
 have f2:w.cell? ⟨(p.add (i*4)).block,(p.add (i*4)).off+2,none⟩=some (.slice (q i).fa (cl L i).fields.length (q i).fk):=by rw[B9 p (i*4) 1];exact hpc 2 _ rfl
 have f3:w.cell? ⟨(p.add (i*4)).block,(p.add (i*4)).off+3,none⟩=some (.slice (q i).ma (cl L i).methods.length (q i).mc):=by rw[B9 p (i*4) 2];exact hpc 3 _ rfl
 clear hpc;have hfl:=(hZ.out i hi).2.2.1;obtain⟨cc,hcc⟩:∃cc,cc=cl L i:=⟨_,rfl⟩
 have HCC:=A0 hcc;rw[←hcc]at f0 f1 f2 f3 hfl;clear hcc;go_enter Tryz.func161,Tryz.ntmps161;go_wp2_with fail
 obtain⟨W1,hW1⟩:∃W1,W1=w.alloc (.cells #[.string cc.name, .string cc.super, .slice (q i).fa cc.fields.length (q i).fk, .slice (q i).ma cc.methods.length (q i).mc] 44):=⟨_,rfl⟩
 have HG1:Hid (w.grownBy W1 none):=by rw[hW1];exact A2 _ _ _
 have HB1:Hid (A3 W1 w.heap.size #[.string cc.name, .string cc.super, .slice (q i).fa cc.fields.length (q i).fk, .slice (q i).ma cc.methods.length (q i).mc] 44):=by rw[hW1];exact A3.new w _ _
 rw[←hW1];clear hW1;go_loopw [18] (fun k wr=>∃j:Nat,j≤cc.fields.length∧k= .int .i64 j∧W1.grownBy wr none∧∀r,r<j→R7 L (cc.fields.getD r l7).ty=true) (fun k _=>cc.fields.length-(intOf k).toNat)
 case atStart=>exact⟨0,Nat.zero_le _,rfl,G1 _ _,fun r hr=>by omega⟩
 case round=>
  obtain⟨j,hj,rfl,hgr,hv⟩:=hrel;have HG:=A0 hgr;have HV:=A0 hv;have HGW:=A0 (A1 HG1.out HG.out);clear hgr hv;by_cases hlt:j<cc.fields.length
  ·obtain⟨pp,hpp,hpb,hpc⟩:=(hF.out i hi).keep HGW.out j (by rw[←HCC.out];exact hlt);obtain⟨t,ht⟩:∃t,t=cc.fields[j]:=⟨_,rfl⟩
   have hpc':∀r u,(G8 t)[r]? =some u→wr.cell? (pp.add (j*3+r))=some u:=by
    intro r u hu;refine hpc r u ?_;rw[ht]at hu;simpa only[HCC.out]using hu
   have g0:wr.cell? (pp.add (j*3))=some (.string t.name):=hpc' 0 _ rfl;have g1:wr.cell? ⟨(pp.add (j*3)).block,(pp.add (j*3)).off+1,none⟩=some (.int .i64 t.ty.kind):=by rw[B9 pp (j*3) 0];exact hpc' 1 _ rfl
   have g2:wr.cell? ⟨(pp.add (j*3)).block,(pp.add (j*3)).off+2,none⟩=some (.string t.ty.name):=by rw[B9 pp (j*3) 1];exact hpc' 2 _ rfl
   have HKa:∀ob,Hid (I9 (wr.alloc ob) lim b L p cap m1 m2 m3 q):=fun ob=>(h.out.keep HGW.out hl).keep (A2 wr ob none) (Nat.le_trans hl HGW.out.size)
   have hla:∀ob,lim≤(wr.alloc ob).heap.size:=fun ob=>by have:=HGW.out.size;simp;omega
   have hmem:t∈cc.fields:=by rw[ht];exact List.getElem_mem hlt
   have HS:=A0 (((hZ.out i hi).2.1 t (by rw[←HCC.out];exact hmem)).1);have HTD:Hid (cc.fields.getD j l7=t):=by unfold Hid;rw[ht,List.getD_eq_getElem?_getD,List.getElem?_eq_getElem hlt];rfl
   obtain⟨v,hvv⟩:∃v,v=R7 L ⟨t.ty.kind,t.ty.name⟩:=⟨_,rfl⟩
   have HVV:=A0 hvv;rw[hpp];clear hpc hpc' ht hvv f0 f1 f2 f3 c0;cases v with
   |true=>
    go_wp2_with (go_at_call 245;go_loud (refine(a4n _ lim b L p cap m1 m2 m3 q (HKa _) (hla _) t.ty.kind t.ty.name HS).mono ?_;rintro e w2 ⟨rfl,hg2⟩;rw[←HVV.out];have HG2:=A1 (A1 HG.out (A2 wr _ none)) hg2))
    go_roundw
    case rel=>exact⟨j+1,by omega,by go_num,HG2,fun r hr=>by
     rcases Nat.lt_or_ge r j with h1|h1
     ·exact HV.out r h1
     ·obtain rfl:r=j:=by omega
      rw[HTD.out,←HVV.out]⟩
    case measure=>simp[intOf];omega
   |false=>
    go_wp2_with (go_at_call 245;go_loud (refine(a4n _ lim b L p cap m1 m2 m3 q (HKa _) (hla _) t.ty.kind t.ty.name HS).mono ?_;rintro e w2 ⟨rfl,hg2⟩;rw[←HVV.out];have HG2:=A1 (A1 HGW.out (A2 wr _ none)) hg2))
    go_ret
    have hno:tyP L i=true:=by
     have:((cl L i).fields.any fun f=> !R7 L f.ty)=true:=List.any_eq_true.2 ⟨t,by rw[←HCC.out];exact hmem,by show(!R7 L ⟨t.ty.kind,t.ty.name⟩)=true;rw[←HVV.out];rfl⟩;unfold tyP;rw[this];rfl
    rw[hno];exact⟨rfl,HG2⟩
  ·have hjn:j=cc.fields.length:=by omega
   subst hjn
   have HFA:Hid (((cl L i).fields.any fun f=> !R7 L f.ty)=false):=by
    rw[←HCC.out];refine List.any_eq_false.2 (fun t ht=> ?_);obtain⟨r,hr,rfl⟩:=List.getElem_of_mem ht;have:=HV.out r hr;rw[List.getD_eq_getElem?_getD,List.getElem?_eq_getElem hr]at this;simpa using this
   have HBr:=A0 (HB1.out.keep HG.out (by simp));have c7:=HBr.out.cell 3 _ rfl;have hmf:∀(fn:Fn) (first cap:Array Value) (w:World),(Instr.makeFunc fn first cap).run Tryz.prog w= .ok (.func fn first cap) w:=fun _ _ _ _=>rfl
   have HKr:=A0 (h.out.keep HGW.out hl);have hlr:=Nat.le_trans hl HGW.out.size;rw[HCC.out]at c7;have HPr:=A0 (hP.out.keep HGW.out);obtain⟨v,hvv⟩:∃v,v=(cl L i).methods.any (g8 L):=⟨_,rfl⟩
   have HVV:=A0 hvv;clear HV hlt f0 f1 f2 f3 c0 hvv;go_wp2_with (go_at_call 246;go_loud (refine(b2f _ lim b L p cap m1 m2 m3 q HKr hlr HPr hZ i hi).mono ?_;rintro e w2 ⟨rfl,hg2⟩;rw[←HVV.out]))
   go_ret;have hno:tyP L i=v:=by unfold tyP;rw[HFA.out,←HVV.out];rfl
   rw[hno];exact⟨rfl,A1 HGW.out hg2⟩
theorem a5l:∀(xs ys:List Ty) (j:Nat) (h1:j<xs.length) (h2:j<ys.length),I4 xs[j] ys[j]=false→Y3 xs ys=false:=fun xs ys j h1 h2 h=>by
 cases hb:Y3 xs ys with
 |false=>rfl
 |true=>
  have:=(a5r xs ys).1 hb;subst this;rw[a4u]at h;cases h
variable {xs ys:List Ty}
theorem a8U(hl:xs.length=ys.length)(h:∀j (h1:j<xs.length) (h2:j<ys.length),I4 xs[j] ys[j]=true):Y3 xs ys=true:=
 (a5r xs ys).2 (List.ext_getElem hl (fun j h1 h2=>(a1m _ _).1 (h j h1 h2)))
theorem a9s(h:xs.length≠ys.length):Y3 xs ys=false:=by
 cases hb:Y3 xs ys with
 |false=>rfl
 |true=>exact absurd (congrArg List.length ((a5r xs ys).1 hb)) h
set_option maxRecDepth 100000 in
set_option maxHeartbeats 2000000 in
theorem b3N(w:World)(l1 l2:Nat)(xs ys:List Ty)(a1 a2:Option Addr)(k1 k2:Nat)(h1:Hid (C0 w l1 2 C1 a1 xs))(h2:Hid (C0 w l2 2 C1 a2 ys))(hx:xs.length≤65536)(hy:ys.length≤65536):
 Calls Tryz.prog 315 #[.slice a1 xs.length k1, .slice a2 ys.length k2] w fun e w'=>e= .returned (.bool (Y3 xs ys))∧w.grownBy w' none:=by
 by_cases hl:xs.length=ys.length
 ·obtain⟨n,hn⟩:∃n,n=xs.length:=⟨_,rfl⟩
  have HX:=A0 hn;have HY:=A0 (hn.trans hl);rw[←hl,←hn];have hnn:n≤65536:=by omega
  clear hn hl hx hy;go_enter Tryz.func315,Tryz.ntmps315;go_wp2_with fail
  go_loopw [5,13] (fun _ k wr=>∃j:Nat,j≤n∧k= .int .i64 j∧w.grownBy wr none∧∀r,r<j→∀(g1:r<xs.length) (g2:r<ys.length),I4 xs[r] ys[r]=true) (fun _ k _=>n-(intOf k).toNat)
  case atStart=>exact⟨0,Nat.zero_le _,rfl,G1 _ _,fun r hr=>by omega⟩
  case round=>
   obtain⟨j,hj,rfl,hgr,hv⟩:=hrel;have HG:=A0 hgr;have HV:=A0 hv;clear hgr hv;by_cases hlt:j<n
   ·have hjx:j<xs.length:=by rw[←HX.out];exact hlt
    have hjy:j<ys.length:=by rw[←HY.out];exact hlt
    obtain⟨p1,e1,-,pc1⟩:=h1.out.keep HG.out j hjx;obtain⟨p2,e2,-,pc2⟩:=h2.out.keep HG.out j hjy;obtain⟨x,hxx⟩:∃x,x=xs[j]:=⟨_,rfl⟩
    obtain⟨y,hyy⟩:∃y,y=ys[j]:=⟨_,rfl⟩
    rw[←hxx]at pc1;rw[←hyy]at pc2;have HXX:=A0 hxx;have HYY:=A0 hyy;have f0:wr.cell? (p1.add (j*2))=some (.int .i64 x.kind):=pc1 0 _ rfl;have f1:wr.cell? ⟨(p1.add (j*2)).block,(p1.add (j*2)).off+1,none⟩=some (.string x.name):=by rw[B9 p1 (j*2) 0];exact pc1 1 _ rfl
    have g0:wr.cell? (p2.add (j*2))=some (.int .i64 y.kind):=pc2 0 _ rfl;have g1:wr.cell? ⟨(p2.add (j*2)).block,(p2.add (j*2)).off+1,none⟩=some (.string y.name):=by rw[B9 p2 (j*2) 0];exact pc2 1 _ rfl
    rw[e1,e2];clear pc1 pc2 hxx hyy;obtain⟨xk,xn⟩:=x;obtain⟨yk,yn⟩:=y;dsimp only at f0 f1 g0 g1;by_cases hk:xk=yk
    ·subst hk;by_cases hnm:xn=yn
     ·subst hnm;have HE:=A0 (HXX.out.symm.trans HYY.out);clear HXX HYY;go_wp2
      go_quiet (fail)
      go_wp2
      go_roundw
      case rel=>exact⟨j+1,by omega,by go_num,A1 HG.out (F0 _ _ _),fun r hr g1 g2=>by
       rcases Nat.lt_or_ge r j with h1|h1
       ·exact HV.out r h1 g1 g2
       ·obtain rfl:r=j:=by omega
        exact(a1m _ _).2 HE.out⟩
      case measure=>simp[intOf];omega
     ·have hN:¬xn.toList=yn.toList:=fun e=>hnm (t8 e)
      have HE:=A0 (a5l xs ys j hjx hjy (by rw[←HXX.out,←HYY.out];simp[I4,hnm]));clear HXX HYY;go_wp2
      go_quiet (fail)
      go_wp2
      go_ret;rw[HE.out];exact⟨rfl,A1 HG.out (F0 _ _ _)⟩
    ·have hK:¬((xk:Int)=(yk:Int)):=by omega
     have HE:=A0 (a5l xs ys j hjx hjy (by rw[←HXX.out,←HYY.out];simp[I4,hk]));clear HXX HYY;go_wp2
     go_quiet (fail)
     go_wp2
     go_ret;rw[HE.out];exact⟨rfl,A1 HG.out (F0 _ _ _)⟩
   ·have hjn:j=n:=by omega
    subst hjn;go_wp2_with fail
    go_ret;have:=a8U (HX.out.symm.trans HY.out) (fun r h1 h2=>HV.out r (by rw[HX.out];exact h1) h1 h2);rw[this];exact⟨rfl,HG.out⟩
 ·rw[a9s hl];have hA:((xs.length:Int)==(ys.length:Int))=false:=by simp;omega
  go_enter Tryz.func315,Tryz.ntmps315;go_wp2
  go_ret;exact⟨rfl,G1 _ _⟩
set_option maxRecDepth 100000 in
set_option maxHeartbeats 2000000 in
theorem a9O(w:World)(l1 l2:Nat)(m o:Me)(pa1 ca1 ha1 pa2 ca2 ha2:Option Addr)(pk1 ck1 hk1 pk2 ck2 hk2:Nat)(h1:Hid (C0 w l1 2 C1 pa1 m.params))(h2:Hid (C0 w l2 2 C1 pa2 o.params))(hx:m.params.length≤65536)(hy:o.params.length≤65536):
 Calls Tryz.prog 249 #[.agg #[.string m.name, .slice pa1 m.params.length pk1, .int .i64 m.ret.kind, .string m.ret.name, .int .i64 m.stack, .int .i64 m.locals, .slice ca1 m.code.length ck1, .slice ha1 m.handlers.length hk1], .agg #[.string o.name, .slice pa2 o.params.length pk2, .int .i64 o.ret.kind, .string o.ret.name, .int .i64 o.stack, .int .i64 o.locals, .slice ca2 o.code.length ck2, .slice ha2 o.handlers.length hk2]] w fun e w'=>e= .returned (.bool (a0B m o))∧w.grownBy w' none:=by
 obtain⟨r,hr⟩:∃r,r=a0B m o:=⟨_,rfl⟩
 have HR:=A0 hr;rw[←hr];clear hr;obtain⟨xr,hxr⟩:∃x,x=m.ret:=⟨_,rfl⟩
 obtain⟨yr,hyr⟩:∃y,y=o.ret:=⟨_,rfl⟩
 have HAL:Hid (a0B m o=(I4 xr yr&&Y3 m.params o.params)):=by unfold Hid a0B;rw[hxr,hyr]
 rw[←hxr,←hyr];clear hxr hyr;obtain⟨xk,xn⟩:=xr;obtain⟨yk,yn⟩:=yr;dsimp only;obtain⟨W1,hW1⟩:∃W1,W1=(w.alloc (.cells #[.string m.name, .slice pa1 m.params.length pk1, .int .i64 xk, .string xn, .int .i64 m.stack, .int .i64 m.locals, .slice ca1 m.code.length ck1, .slice ha1 m.handlers.length hk1] 102)).alloc (.cells #[.string o.name, .slice pa2 o.params.length pk2, .int .i64 yk, .string yn, .int .i64 o.stack, .int .i64 o.locals, .slice ca2 o.code.length ck2, .slice ha2 o.handlers.length hk2] 102):=⟨_,rfl⟩
 have HG1:Hid (w.grownBy W1 none):=by rw[hW1];exact A1 (A2 _ _ none) (A2 _ _ none)
 have R1:=A0 (h1.out.keep HG1.out);have R2:=A0 (h2.out.keep HG1.out);rw[hW1]at R1 R2 HG1;clear hW1;by_cases hk:xk=yk
 ·subst hk;by_cases hnm:xn=yn
  ·subst hnm;obtain⟨v,hv⟩:∃v,v=Y3 m.params o.params:=⟨_,rfl⟩
   have HV:=A0 hv;have HRV:Hid (r=v):=by unfold Hid;rw[HR.out,HAL.out,a4u,hv];rfl
   clear hv;go_enter Tryz.func249,Tryz.ntmps249;go_wp2_with (go_at_call 315;go_loud (refine(b3N _ l1 l2 m.params o.params pa1 pa2 pk1 pk2 R1 R2 hx hy).mono ?_;rintro e w2 ⟨rfl,hg2⟩;rw[←HV.out]))
   go_ret;rw[HRV.out];exact⟨rfl,A1 HG1.out hg2⟩
  ·have hN:¬xn.toList=yn.toList:=fun e=>hnm (t8 e)
   have HRV:Hid (r=false):=by unfold Hid;rw[HR.out,HAL.out];simp[I4,hnm]
   go_enter Tryz.func249,Tryz.ntmps249;go_wp2
   go_ret;rw[HRV.out];exact⟨rfl,HG1.out⟩
 ·have hK:¬((xk:Int)=(yk:Int)):=by omega
  have HRV:Hid (r=false):=by unfold Hid;rw[HR.out,HAL.out];simp[I4,hk]
  go_enter Tryz.func249,Tryz.ntmps249;go_wp2
  go_ret;rw[HRV.out];exact⟨rfl,HG1.out⟩
end Kx
end Go.Proofs.YtdhophglnhcjbaaGreatDoor
