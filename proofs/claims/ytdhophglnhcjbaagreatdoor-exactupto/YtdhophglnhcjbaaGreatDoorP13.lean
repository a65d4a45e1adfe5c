/- P13: a part of the proof that the last text tells. -/
import Derived.Test.YtdhophglnhcjbaaGreatDoorP12
import Derived.Test.YtdhophglnhcjbaaGreatDoorRows
import Derived.ProofKit
import Derived.LaidMore
import Derived.OpenShut
import Derived.Deep.Onto
import Derived.Stop.Joined
import Derived.SevenTiedAt
import Derived.ChangeMaps5
import Derived.Deep.Slices
import Derived.Deep.Strs
import Derived.Lib.SmallJoins
import Derived.Deep.DeepHandedRow
import Derived.Lib.LaidTab
set_option linter.all false
set_option maxRecDepth 100000
set_option maxHeartbeats 40000000
open Go.Proofs.Tryz
namespace Go.Proofs.YtdhophglnhcjbaaGreatDoor
section
theorem a1e{P:Prop}(h:P:=by
 go_upto_region 9 with(go_at_call 18;go_loud (refine(HDF.out _ HG5.out).mono ?_;rintro e w6 ⟨hg6,xn,xs,f3,xf,k3,m3,xm,j3,rfl,hex⟩;have HG7:=C7 (A1 (A1 HG5.out hg6) (A2 w6 (.cells #[.string xn, .string xs, .slice f3 xf k3, .slice m3 xm j3] 44) none));have HEX7:=C7 (hex _ (A2 w6 (.cells #[.string xn, .string xs, .slice f3 xf k3, .slice m3 xm j3] 44) none));have HB7:=C7 (A3.new w6 #[.string xn, .string xs, .slice f3 xf k3, .slice m3 xm j3] 44);clear hg6 hex))
 generalize w6.alloc (.cells #[.string xn, .string xs, .slice f3 xf k3, .slice m3 xm j3] 44)=w7 at HG7 HEX7 HB7⊢;obtain⟨b0,b1,b2,b3⟩:=HB7.out.q4;go_wp2_with (go_at_call 17;go_loud (refine HEX7.out.mono ?_;rintro e w8 ⟨rfl,hg8⟩;have HG8:=C7 (A1 HG7.out hg8);clear hg8))
 go_ret;exact⟨rfl,HG8.out⟩):P:=h
theorem a2r{P:Prop}(h:P:=by
 have:=HDE.out W F hW hF;rw[hdec]at this;refine this.mono ?_;rintro e w' h;obtain⟨hg,q,rfl,hlc⟩:=a6N h;refine⟨hg,x.name,x.super,q.fa,x.fields.length,q.fk,q.ma,x.methods.length,q.mc,rfl,fun W' hW'=> ?_⟩;obtain⟨g1,g2⟩:=a9R (hlc.keep hW')
 have hx:S3 x:=by
  refine a5M (files:=[F]) (fs:=[x]) rfl (fun i hi=> ?_) x (by simp);have:i=0:=by simpa using hi
  subst this;exact hdec
 have:=HEX.out W' x q.fa q.ma q.fk q.mc hx (A1 hW (A1 hg hW')) g1 g2;rw[b2R hdec]at this;exact this):P:=h
theorem a2t{P:Prop}(h:P:=by
 go_upto_region 9 with(go_at_call 18;go_loud (refine(HDF.out _ HG5.out).mono ?_;rintro e w6 ⟨hg6,rfl⟩;have HG7:=C7 (A1 (A1 HG5.out hg6) (A2 w6 (.cells #[.string ⟨#[]⟩, .string ⟨#[]⟩, .slice none 0 0, .slice none 0 0] 44) none));clear hg6))
 generalize w6.alloc (.cells #[.string ⟨#[]⟩, .string ⟨#[]⟩, .slice none 0 0, .slice none 0 0] 44)=w7 at HG7⊢;go_wp2_with fail
 go_ret;exact⟨rfl,HG7.out⟩):P:=h
theorem c5i{P:Prop}(h:P:=by
 simp only[Rows.uptoBulk,Rows.uptoBulkAll]at hb⊢;omega):P:=h
theorem c6z{P:Prop}(h:P:=by
 have h1:=congrArg (fun m=>m[0]?) h;simpa[List.getElem?_take,List.getElem?_drop,ho]using h1):P:=h
end
section
open Go.RowKit Cf
theorem b7I(w:World)(l1 l2:Nat)(c:Y9)(f1a f2a m1a m2a:Option Addr)(f1k f2k m1k m2k:Nat)(hf1:Hid (B8 w l1 3 a0a f1a c.fields))(hf2:Hid (B8 w l2 3 a0a f2a c.fields))(hm1:Hid (l8 w l1 m1a c.methods))(hm2:Hid (l8 w l2 m2a c.methods))(hc:a0U c≤2^40):
 Calls prog 19 #[.agg #[.string c.name, .string c.super, .slice f1a c.fields.length f1k, .slice m1a c.methods.length m1k], .agg #[.string c.name, .string c.super, .slice f2a c.fields.length f2k, .slice m2a c.methods.length m2k]] w fun e w'=>e= .returned (.bool true)∧w.grownBy w' none:=by
 have hcl:10+5*c.fields.length+o9 c.methods≤1099511627776:=by unfold a0U at hc;omega
 have hlf:c.fields.length≤1099511627776:=by omega
 have hlm:c.methods.length≤1099511627776:=by have:=b0E c.methods;omega
 have hcj:Hid (∀j (hj:j<c.methods.length),c.methods[j].params.length≤1099511627776∧c.methods[j].code.length≤1099511627776∧c.methods[j].handlers.length≤1099511627776):=fun j hj=>by
  have:=a7Z c.methods j hj;unfold a1o at this;omega
 clear hc hcl;have hgA:Hid (w.grownBy ((w.alloc (.cells #[.string c.name, .string c.super, .slice f1a c.fields.length f1k, .slice m1a c.methods.length m1k] 44)).alloc (.cells #[.string c.name, .string c.super, .slice f2a c.fields.length f2k, .slice m2a c.methods.length m2k] 44)) none):=A1 (A2 _ _ _) (A2 _ _ _);have hA1:Hid (A3 ((w.alloc (.cells #[.string c.name, .string c.super, .slice f1a c.fields.length f1k, .slice m1a c.methods.length m1k] 44)).alloc (.cells #[.string c.name, .string c.super, .slice f2a c.fields.length f2k, .slice m2a c.methods.length m2k] 44)) w.heap.size #[.string c.name, .string c.super, .slice f1a c.fields.length f1k, .slice m1a c.methods.length m1k] 44):=(A3.new w _ _).keep (A2 _ _ none) (by simp)
 have hA2:Hid (A3 ((w.alloc (.cells #[.string c.name, .string c.super, .slice f1a c.fields.length f1k, .slice m1a c.methods.length m1k] 44)).alloc (.cells #[.string c.name, .string c.super, .slice f2a c.fields.length f2k, .slice m2a c.methods.length m2k] 44)) (w.heap.size+1) #[.string c.name, .string c.super, .slice f2a c.fields.length f2k, .slice m2a c.methods.length m2k] 44):=by
  have:=A3.new (w.alloc (.cells #[.string c.name, .string c.super, .slice f1a c.fields.length f1k, .slice m1a c.methods.length m1k] 44)) #[.string c.name, .string c.super, .slice f2a c.fields.length f2k, .slice m2a c.methods.length m2k] 44;unfold Hid;simpa using this
 go_enter func19,ntmps19;go_wp2_with fail
 go_loopw [5] (fun i wr=>∃j:Nat,j≤c.fields.length∧i= .int .i64 j∧Hid (w.grownBy wr none)∧Hid (A3 wr w.heap.size #[.string c.name, .string c.super, .slice f1a c.fields.length f1k, .slice m1a c.methods.length m1k] 44)∧Hid (A3 wr (w.heap.size+1) #[.string c.name, .string c.super, .slice f2a c.fields.length f2k, .slice m2a c.methods.length m2k] 44)) (fun i _=>c.fields.length-(intOf i).toNat)
 case atStart=>exact⟨0,Nat.zero_le _,rfl,hgA,hA1,hA2⟩
 case round=>
  clear hgA hA1 hA2;obtain⟨j,hj,rfl,HG,HB1,HB2⟩:=hrel;have e1:=HB1.out.c2;have e3:=HB1.out.c3;have e2:=HB2.out.c2;by_cases hlt:j<c.fields.length
  ·obtain⟨p1,rfl,-,hc1⟩:=hf1.out.keep HG.out j hlt;obtain⟨p2,rfl,-,hc2⟩:=hf2.out.keep HG.out j hlt;have f0:wr.cell? (p1.add (j*3))=some (.string c.fields[j].name):=hc1 0 _ rfl;have f1:wr.cell? ⟨(p1.add (j*3)).block,(p1.add (j*3)).off+1,none⟩=some (.int .i64 c.fields[j].ty.kind):=by rw[G1 p1 (j*3) 0];exact hc1 1 _ rfl
   have f2:wr.cell? ⟨(p1.add (j*3)).block,(p1.add (j*3)).off+2,none⟩=some (.string c.fields[j].ty.name):=by rw[G1 p1 (j*3) 1];exact hc1 2 _ rfl
   have k0:wr.cell? (p2.add (j*3))=some (.string c.fields[j].name):=hc2 0 _ rfl;have k1:wr.cell? ⟨(p2.add (j*3)).block,(p2.add (j*3)).off+1,none⟩=some (.int .i64 c.fields[j].ty.kind):=by rw[G1 p2 (j*3) 0];exact hc2 1 _ rfl
   have k2:wr.cell? ⟨(p2.add (j*3)).block,(p2.add (j*3)).off+2,none⟩=some (.string c.fields[j].ty.name):=by rw[G1 p2 (j*3) 1];exact hc2 2 _ rfl
   clear hc1 hc2;go_wp2_with fail
   go_quiet (fail)
   go_wp2_with fail
   go_roundw
   case rel=>exact⟨j+1,hlt,by go_num,K7 HG.out (K3 _ _ _),HB1.out.keep (K3 _ _ none) (by simp),HB2.out.keep (K3 _ _ none) (by simp)⟩
   case measure=>simp[intOf];omega
  ·go_wp2_with fail
   go_loopw [6] (fun i wr=>∃j:Nat,j≤c.methods.length∧i= .int .i64 j∧Hid (w.grownBy wr none)∧Hid (A3 wr w.heap.size #[.string c.name, .string c.super, .slice f1a c.fields.length f1k, .slice m1a c.methods.length m1k] 44)∧Hid (A3 wr (w.heap.size+1) #[.string c.name, .string c.super, .slice f2a c.fields.length f2k, .slice m2a c.methods.length m2k] 44)) (fun i _=>c.methods.length-(intOf i).toNat)
   case atStart=>exact⟨0,Nat.zero_le _,rfl,HG,HB1,HB2⟩
   case round=>
    clear HG HB1 HB2 e1 e2 e3;obtain⟨j,hj,rfl,HG,HB1,HB2⟩:=hrel;have e1:=HB1.out.c3;have e2:=HB2.out.c3;by_cases hlt:j<c.methods.length
    ·obtain⟨g1,x1,x2,x3,y1,y2,y3,rfl,-,ha1,ha2,ha3,hc1⟩:=hm1.out.keep HG.out j hlt;obtain⟨g2,u1,u2,u3,v1,v2,v3,rfl,-,hb1,hb2,hb3,hc2⟩:=hm2.out.keep HG.out j hlt;obtain⟨m,hm⟩:∃m,m=c.methods[j]:=⟨_,rfl⟩
     have hsm:=hcj.out j hlt;rw[←hm]at ha1 ha2 ha3 hb1 hb2 hb3 hc1 hc2 hsm;have HL1:=A0 hsm.1;have HL2:=A0 hsm.2.1;have HL3:=A0 hsm.2.2;have HA1:=A0 (ha1.keep (B6 _ none));have HA2:=A0 (ha2.keep (B6 _ none));have HA3:=A0 (ha3.keep (B6 _ none));have HE1:=A0 (hb1.keep (B6 _ none));have HE2:=A0 (hb2.keep (B6 _ none));have HE3:=A0 (hb3.keep (B6 _ none));have f0:wr.cell? (g1.add (j*8))=some (.string m.name):=hc1 0 _ rfl;have f1:wr.cell? ⟨(g1.add (j*8)).block,(g1.add (j*8)).off+1,none⟩=some (.slice x1 m.params.length y1):=by rw[G1 g1 (j*8) 0];exact hc1 1 _ rfl
     have f2:wr.cell? ⟨(g1.add (j*8)).block,(g1.add (j*8)).off+2,none⟩=some (.int .i64 m.ret.kind):=by rw[G1 g1 (j*8) 1];exact hc1 2 _ rfl
     have f3:wr.cell? ⟨(g1.add (j*8)).block,(g1.add (j*8)).off+3,none⟩=some (.string m.ret.name):=by rw[G1 g1 (j*8) 2];exact hc1 3 _ rfl
     have f4:wr.cell? ⟨(g1.add (j*8)).block,(g1.add (j*8)).off+4,none⟩=some (.int .i64 m.stack):=by rw[G1 g1 (j*8) 3];exact hc1 4 _ rfl
     have f5:wr.cell? ⟨(g1.add (j*8)).block,(g1.add (j*8)).off+5,none⟩=some (.int .i64 m.locals):=by rw[G1 g1 (j*8) 4];exact hc1 5 _ rfl
     have f6:wr.cell? ⟨(g1.add (j*8)).block,(g1.add (j*8)).off+6,none⟩=some (.slice x2 m.code.length y2):=by rw[G1 g1 (j*8) 5];exact hc1 6 _ rfl
     have f7:wr.cell? ⟨(g1.add (j*8)).block,(g1.add (j*8)).off+7,none⟩=some (.slice x3 m.handlers.length y3):=by rw[G1 g1 (j*8) 6];exact hc1 7 _ rfl
     have k0:wr.cell? (g2.add (j*8))=some (.string m.name):=hc2 0 _ rfl;have k1:wr.cell? ⟨(g2.add (j*8)).block,(g2.add (j*8)).off+1,none⟩=some (.slice u1 m.params.length v1):=by rw[G1 g2 (j*8) 0];exact hc2 1 _ rfl
     have k2:wr.cell? ⟨(g2.add (j*8)).block,(g2.add (j*8)).off+2,none⟩=some (.int .i64 m.ret.kind):=by rw[G1 g2 (j*8) 1];exact hc2 2 _ rfl
     have k3:wr.cell? ⟨(g2.add (j*8)).block,(g2.add (j*8)).off+3,none⟩=some (.string m.ret.name):=by rw[G1 g2 (j*8) 2];exact hc2 3 _ rfl
     have k4:wr.cell? ⟨(g2.add (j*8)).block,(g2.add (j*8)).off+4,none⟩=some (.int .i64 m.stack):=by rw[G1 g2 (j*8) 3];exact hc2 4 _ rfl
     have k5:wr.cell? ⟨(g2.add (j*8)).block,(g2.add (j*8)).off+5,none⟩=some (.int .i64 m.locals):=by rw[G1 g2 (j*8) 4];exact hc2 5 _ rfl
     have k6:wr.cell? ⟨(g2.add (j*8)).block,(g2.add (j*8)).off+6,none⟩=some (.slice u2 m.code.length v2):=by rw[G1 g2 (j*8) 5];exact hc2 6 _ rfl
     have k7:wr.cell? ⟨(g2.add (j*8)).block,(g2.add (j*8)).off+7,none⟩=some (.slice u3 m.handlers.length v3):=by rw[G1 g2 (j*8) 6];exact hc2 7 _ rfl
     clear hc1 hc2 ha1 ha2 ha3 hb1 hb2 hb3 hm hsm;go_wp2_with fail
     go_region_held2 (fun w'=>w'.cell? ⟨w.heap.size,3,none⟩=some (.slice (some g1) c.methods.length m1k)∧w'.cell? ⟨w.heap.size+1,3,none⟩=some (.slice (some g2) c.methods.length m2k)∧w'.cell? (g1.add (j*8))=some (.string m.name)∧w'.cell? (g2.add (j*8))=some (.string m.name)∧w'.cell? ⟨(g1.add (j*8)).block,(g1.add (j*8)).off+1,none⟩=some (.slice x1 m.params.length y1)∧w'.cell? ⟨(g2.add (j*8)).block,(g2.add (j*8)).off+1,none⟩=some (.slice u1 m.params.length v1)∧w'.cell? ⟨(g1.add (j*8)).block,(g1.add (j*8)).off+2,none⟩=some (.int .i64 m.ret.kind)∧w'.cell? ⟨(g2.add (j*8)).block,(g2.add (j*8)).off+2,none⟩=some (.int .i64 m.ret.kind)∧w'.cell? ⟨(g1.add (j*8)).block,(g1.add (j*8)).off+3,none⟩=some (.string m.ret.name)∧w'.cell? ⟨(g2.add (j*8)).block,(g2.add (j*8)).off+3,none⟩=some (.string m.ret.name)∧w'.cell? ⟨(g1.add (j*8)).block,(g1.add (j*8)).off+4,none⟩=some (.int .i64 m.stack)∧w'.cell? ⟨(g2.add (j*8)).block,(g2.add (j*8)).off+4,none⟩=some (.int .i64 m.stack)∧w'.cell? ⟨(g1.add (j*8)).block,(g1.add (j*8)).off+5,none⟩=some (.int .i64 m.locals)∧w'.cell? ⟨(g2.add (j*8)).block,(g2.add (j*8)).off+5,none⟩=some (.int .i64 m.locals)∧w'.cell? ⟨(g1.add (j*8)).block,(g1.add (j*8)).off+6,none⟩=some (.slice x2 m.code.length y2)∧w'.cell? ⟨(g2.add (j*8)).block,(g2.add (j*8)).off+6,none⟩=some (.slice u2 m.code.length v2)∧w'.cell? ⟨(g1.add (j*8)).block,(g1.add (j*8)).off+7,none⟩=some (.slice x3 m.handlers.length y3)∧w'.cell? ⟨(g2.add (j*8)).block,(g2.add (j*8)).off+7,none⟩=some (.slice u3 m.handlers.length v3)) (go_keep)
      (first|(go_at_call 52
              refine(b4g _ l1 l2 m x1 u1 x2 u2 x3 u3 y1 v1 y2 v2 y3 v3 HA1 HE1 HA2 HE2 HA3 HE3 HL1.out HL2.out HL3.out).mono ?_;rintro e w2 ⟨rfl,hg2⟩;have HG2:=A0 (A1 (A1 HG.out (B6 _ none)) hg2);have HC1:Hid (A3 w2 w.heap.size _ _):=(HB1.out.keep (B6 _ none) (by simp)).keep hg2 (by simp);have HC2:Hid (A3 w2 (w.heap.size+1) _ _):=(HB2.out.keep (B6 _ none) (by simp)).keep hg2 (by simp);have hgd:=A1 (B6 wr none) hg2;have n0:=hgd.cell f0 (by simp);have l0':=hgd.cell k0 (by simp);have n1:=hgd.cell f1 (by simp);have l1':=hgd.cell k1 (by simp);have n2:=hgd.cell f2 (by simp);have l2':=hgd.cell k2 (by simp);have n3:=hgd.cell f3 (by simp);have l3':=hgd.cell k3 (by simp);have n4:=hgd.cell f4 (by simp);have l4':=hgd.cell k4 (by simp);have n5:=hgd.cell f5 (by simp);have l5':=hgd.cell k5 (by simp);have n6:=hgd.cell f6 (by simp);have l6':=hgd.cell k6 (by simp);have n7:=hgd.cell f7 (by simp);have l7':=hgd.cell k7 (by simp);have z1:=hgd.cell e1 (by simp);have z2:=hgd.cell e2 (by simp)))
     go_wp2_with fail
     go_roundw
     case rel=>exact⟨j+1,hlt,by go_num,HG2,HC1,HC2⟩
     case measure=>simp[intOf];omega
    ·go_wp2_with fail
     go_ret;exact⟨rfl,HG.out⟩
namespace Cf
def a0Z(t:n9):Ty:=⟨t.kind.toNat,t.name⟩
def a5d(f:a1v):T7:=⟨f.name,a0Z f.ty⟩
def a5j(i:XIn):In:=⟨i.op.toNat,i.a,i.cls,i.mem⟩
def a2k(h:XHd):Hd:=⟨h.from_.toNat,h.to.toNat,h.at_.toNat,h.cls⟩
def a6m(m:S5):Me:=⟨m.name,m.params.map a0Z,a0Z m.ret,m.stack.toNat,m.locals.toNat,m.code.map a5j,m.handlers.map a2k⟩
def a3A(c:Y9):Cl:=⟨c.name,c.super,c.fields.map a5d,c.methods.map a6m⟩
variable {s s':WS}
theorem a3k{a b:List I7}(h:A8 (a++b) (some s)=some s'):∃s1,A8 a (some s)=some s1∧A8 b (some s1)=some s':=by
 rw[o6]at h;cases ha:A8 a (some s)with
 |none=>rw[ha,a5z]at h;cases h
 |some s1=>exact⟨s1,rfl,by rw[ha]at h;exact h⟩
variable {t:I7}
variable {l:List I7}
theorem T9(h:A8 (t::l) (some s)=some s'):∃s1,I5 t s=some s1∧A8 l (some s1)=some s':=by
 have h:A8 l (I5 t s)=some s':=h;cases ht:I5 t s with
 |none=>rw[ht,a5z]at h;cases h
 |some s1=>exact⟨s1,rfl,by rw[ht]at h;exact h⟩
theorem a1U(h:A8 [] (some s)=some s'):s'=s:=(Option.some.inj h).symm
theorem a1z(h:A8 (I7.bad::l) (some s)=some s'):False:=by
 obtain⟨s1,h1,_⟩:=T9 h;cases h1
theorem a5I(l:List ByteArray)(s:ByteArray):F5 l s≤l.length:=List.findIdx_le_length
theorem a8V{l:List ByteArray}{s:ByteArray}(h:F5 l s<l.length):l[F5 l s]=s:=by
 have:=List.findIdx_getElem (xs:=l) (p:=fun x=>decide (x=s)) (w:=h);exact of_decide_eq_true this
theorem b5q(l:List ByteArray)(s d:ByteArray):(T0 l s).getD (F5 l s) d=s:=by
 unfold T0;by_cases h:F5 l s<l.length
 ·rw[if_pos h,List.getD_eq_getElem?_getD,List.getElem?_eq_getElem h,a8V h];rfl
 ·rw[if_neg h];have e:=Nat.le_antisymm (a5I l s) (Nat.le_of_not_lt h);rw[e];simp
theorem b0l(l:List ByteArray)(s:ByteArray):(T0 l s).length=max l.length (F5 l s+1):=by
 unfold T0;have:=a5I l s;by_cases h:F5 l s<l.length
 ·rw[if_pos h];omega
 ·rw[if_neg h,List.length_append,List.length_singleton];omega
theorem b5p(l:List ByteArray)(s:ByteArray):F5 l s<(T0 l s).length:=by rw[b0l];omega
theorem b4M(l:List ByteArray)(s:ByteArray):l<+:T0 l s:=by
 unfold T0;split
 ·exact List.prefix_refl _
 ·exact List.prefix_append _ _
theorem a3f(h:I5 t s=some s'):s.names<+:s'.names∧s.out<+:s'.out:=by
 cases t with
 |none=>cases h
 |some t=>
  cases t with
  |inl p=>
   simp only[I5]at h;split at h
   ·cases h;exact⟨List.prefix_refl _,List.prefix_append _ _⟩
   ·cases h
  |inr x=>
   simp only[I5]at h;split at h
   ·cases h;exact⟨b4M _ _,List.prefix_append _ _⟩
   ·cases h
theorem a0J:∀{s s':WS},A8 l (some s)=some s'→s.names<+:s'.names∧s.out<+:s'.out:=by
 induction l with
 |nil=>intro s s' h;rw[a1U h];exact⟨List.prefix_refl _,List.prefix_refl _⟩
 |cons t l ih=>
  intro s s' h;obtain⟨s1,h1,h2⟩:=T9 h;exact⟨(a3f h1).1.trans (ih h2).1,(a3f h1).2.trans (ih h2).2⟩
theorem c2R(w n:Nat):∀a:Nat,(N8 w n).foldl (fun n c=>n*256+c.toNat) a=a*256^w+n % 256^w:=by
 induction w with
 |zero=>intro a;simp[N8,Nat.mod_one]
 |succ w ih=>
  intro a;have e:(UInt8.ofNat (n/256^w)).toNat=n/256^w % 256:=by simp
  rw[N8,List.foldl_cons,ih,e,Nat.pow_succ,Nat.mod_mul,Nat.add_mul,Nat.mul_assoc,Nat.mul_comm 256 (256^w),Nat.mul_comm (n/256^w % 256)];omega
theorem c1M{w n:Nat}(h:n<256^w):Y3 (N8 w n)=n:=by
 have:=c2R w n 0;rw[Nat.zero_mul,Nat.zero_add,Nat.mod_eq_of_lt h]at this;exact this
def M2(base:Nat)(NS:List ByteArray)(s:WS):St:=⟨base+s.out.length,s.names.length,NS⟩
structure a0r(F:ByteArray)(base:Nat)(NS:List ByteArray)(OUT:List UInt8):Prop where
 drop:F.data.toList.drop base=OUT
 le:base≤F.size
theorem o7(F:ByteArray):F.data.toList.length=F.size:=by rw[Array.length_toList];rfl
section
variable{F:ByteArray}{base:Nat}{NS:List ByteArray}{OUT:List UInt8}
theorem a0r.len(h:a0r F base NS OUT):base+OUT.length=F.size:=by
 have:=h.le;rw[←h.drop,List.length_drop,o7];omega
variable {w:Nat}
variable {s s':WS}
theorem a1C(hL:a0r F base NS OUT){n:Int}(h:I5 (.num n w) s=some s')(hp:s'.out<+:OUT):C1 F w (M2 base NS s)= .ok (n.toNat,M2 base NS s')∧0≤n∧n.toNat<256^w∧s'.names=s.names:=by
 simp only[I5]at h;split at h
 case isFalse=>cases h
 case isTrue hn=>
  cases h;obtain⟨r,hr⟩:=hp;dsimp only at hr;have hlen:=hL.len;have hl2:s.out.length+w≤OUT.length:=by rw[←hr,List.length_append,List.length_append,a5X];omega
  have hlt:n.toNat<256^w:=by
   have h1:=Int.toNat_of_nonneg hn.1;have h2:((n.toNat:Nat):Int)<((256^w:Nat):Int):=by rw[h1,Int.natCast_pow];exact hn.2
   exact Int.ofNat_lt.1 h2
  refine⟨?_,hn.1,hlt,rfl⟩;unfold C1 M2;dsimp only;rw[if_pos (by omega)]
  have e:(F.data.toList.drop (base+s.out.length)).take w=N8 w n.toNat:=by
   rw[←List.drop_drop,hL.drop,←hr,List.append_assoc,List.drop_left,List.take_left' (a5X w n.toNat)]
  rw[e,c1M hlt];simp only[List.length_append,a5X,Nat.add_assoc]
variable {x:ByteArray}
theorem a5f(hL:a0r F base NS OUT)(h:I5 (.nm x) s=some s')(hn:s'.names<+:NS)(hp:s'.out<+:OUT):name F (M2 base NS s)= .ok (x,M2 base NS s'):=by
 simp only[I5]at h;split at h
 case isFalse=>cases h
 case isTrue hx=>
  cases h
  have hb:N8 1 (F5 s.names x)=[UInt8.ofNat (F5 s.names x)]:=by
   show [UInt8.ofNat (_/256^0)]=_;rw[Nat.pow_zero,Nat.div_one]
  have h1:I5 (.num (F5 s.names x:Nat) 1) s=some ⟨s.names,s.out++N8 1 (F5 s.names x)⟩:=by
   simp only[I5,Int.toNat_natCast];rw[if_pos ⟨Int.natCast_nonneg _,by have:=hx.2;omega⟩]
  have e1:=(a1C hL h1 (by rw[hb];exact hp)).1;unfold name;rw[e1];dsimp only[Int.toNat_natCast];obtain⟨r,hr⟩:=hn;have hlt:=b5p s.names x;have hNS:F5 s.names x<NS.length:=by rw[←hr,List.length_append];exact Nat.lt_of_lt_of_le hlt (Nat.le_add_right _ _)
  have hget:NS.getD (F5 s.names x) ByteArray.empty=x:=by
   rw[←hr,List.getD_eq_getElem?_getD,List.getElem?_append_left hlt,←List.getD_eq_getElem?_getD];exact b5q _ _ _
  unfold M2;simp only[Int.toNat_natCast];rw[if_pos ⟨a5I _ _,hNS⟩,hget];simp only[List.length_append,hb,b0l,List.length_singleton]
theorem c0p(h:x.size=0):x=ByteArray.empty:=by
 cases x with
 |mk d=>
  have:d= #[]:=by simpa[ByteArray.size]using h
  rw[this];rfl
theorem a8D(hL:a0r F base NS OUT)(b:Bool)(h:A8 (o8 b x) (some s)=some s')(hn:s'.names<+:NS)(hp:s'.out<+:OUT):P5 F b (M2 base NS s)= .ok (x,M2 base NS s'):=by
 unfold P5;cases b with
 |true=>
  obtain⟨s1,h1,h2⟩:=T9 (show A8 [.nm x] (some s)=some s' from h);obtain rfl:=a1U h2;exact a5f hL h1 hn hp
 |false=>
  simp only[o8,Bool.false_eq_true,if_false]at h⊢;split at h
  ·rename_i hz;obtain rfl:=a1U h;rw[c0p hz]
  ·exact(a1z h).elim
theorem a9u(hL:a0r F base NS OUT){t:n9}(h:A8 (M0 t) (some s)=some s')(hn:s'.names<+:NS)(hp:s'.out<+:OUT):kind F (M2 base NS s)= .ok (a0Z t,M2 base NS s')∧((a0Z t).kind:Int)=t.kind:=by
 unfold M0 at h;split at h
 ·rename_i hk;obtain⟨s1,h1,h2⟩:=T9 h;have hm:=a0J h2;have e1:=(a1C hL h1 (hm.2.trans hp)).1;have e2:=a8D hL _ h2 hn hp;refine⟨?_,Int.toNat_of_nonneg hk.1⟩;unfold kind;rw[e1];dsimp only;rw[if_neg (by omega),e2];rfl
 ·exact(a1z h).elim
theorem c2I(hL:a0r F base NS OUT){t:a1v}(h:A8 (p9 t) (some s)=some s')(hn:s'.names<+:NS)(hp:s'.out<+:OUT):Z7 F (M2 base NS s)= .ok (a5d t,M2 base NS s')∧((a5d t).ty.kind:Int)=t.ty.kind:=by
 obtain⟨s1,h1,h2⟩:=T9 h;have hm:=a0J h2;have e1:=a5f hL h1 (hm.1.trans hn) (hm.2.trans hp);have e2:=a9u hL h2 hn hp;refine⟨?_,e2.2⟩;unfold Z7;rw[e1];dsimp only;rw[e2.1];rfl
theorem c3r(hL:a0r F base NS OUT){t:XHd}(h:A8 (a0o t) (some s)=some s')(hn:s'.names<+:NS)(hp:s'.out<+:OUT):X2 F (M2 base NS s)= .ok (a2k t,M2 base NS s')∧((a2k t).from_:Int)=t.from_∧((a2k t).to:Int)=t.to∧((a2k t).at_:Int)=t.at_:=by
 obtain⟨s1,h1,h2⟩:=T9 h;obtain⟨s2,h2,h3⟩:=T9 h2;obtain⟨s3,h3,h4⟩:=T9 h3;obtain⟨s4,h4,h5⟩:=T9 h4;obtain rfl:=a1U h5;have m4:=(a3f h4).2.trans hp;have m3:=(a3f h3).2.trans m4;have m2:=(a3f h2).2.trans m3;have e1:=a1C hL h1 m2;have e2:=a1C hL h2 m3;have e3:=a1C hL h3 m4;have e4:=a5f hL h4 hn hp;refine⟨?_,Int.toNat_of_nonneg e1.2.1,Int.toNat_of_nonneg e2.2.1,Int.toNat_of_nonneg e3.2.1⟩;unfold X2;rw[e1.1];dsimp only;rw[e2.1];dsimp only;rw[e3.1];dsimp only;rw[e4];rfl
theorem c4f(hL:a0r F base NS OUT)(hp:s.out<+:OUT):C1 F 0 (M2 base NS s)= .ok (0,M2 base NS s):=by
 have h1:=hL.len;have h2:=hp.length_le;unfold C1 M2;dsimp only;rw[if_pos (by omega)];rfl
theorem b1y(op:Nat):F3 op=0∨F3 op=1∨F3 op=2∨F3 op=4:=by
 unfold F3;split
 ·simp
 ·split
  ·simp
  ·split<;>simp
theorem c4J(hL:a0r F base NS OUT){op:Nat}{a:Int}(h:A8 (F7 (F3 op) a) (some s)=some s')(hp:s'.out<+:OUT):∃n,C1 F (F3 op) (M2 base NS s)= .ok (n,M2 base NS s')∧P4 (F3 op) n=a:=by
 have hw:=b1y op;generalize F3 op=w at*
 unfold F7 at h;by_cases h4:w=4
 ·subst h4;rw[if_pos rfl]at h;split at h
  ·rename_i ha;obtain⟨s1,h1,h2⟩:=T9 h;obtain rfl:=a1U h2;refine⟨_,(a1C hL h1 hp).1,?_⟩;unfold P4;by_cases hneg:a<0
   ·rw[if_pos hneg,if_pos ⟨rfl,by omega⟩];omega
   ·rw[if_neg hneg,if_neg (by omega)];omega
  ·exact(a1z h).elim
 ·rw[if_neg h4]at h;by_cases h0:w=0
  ·subst h0;rw[if_pos rfl]at h;split at h
   ·rename_i ha;obtain rfl:=a1U h;exact⟨0,c4f hL hp,by rw[ha];rfl⟩
   ·exact(a1z h).elim
  ·rw[if_neg h0]at h;obtain⟨s1,h1,h2⟩:=T9 h;obtain rfl:=a1U h2;have e:=a1C hL h1 hp;refine⟨_,e.1,?_⟩;unfold P4;rw[if_neg (fun h=>h4 h.1)];exact Int.toNat_of_nonneg e.2.1
theorem c2x(hL:a0r F base NS OUT){t:XIn}(h:A8 (X5 t) (some s)=some s')(hn:s'.names<+:NS)(hp:s'.out<+:OUT):S4 F (M2 base NS s)= .ok (a5j t,M2 base NS s')∧((a5j t).op:Int)=t.op:=by
 unfold X5 at h;split at h
 ·rename_i ho;obtain⟨s1,h1,h2⟩:=T9 h;obtain⟨s3,h3,h4⟩:=a3k h2;obtain⟨s2,h2,h3⟩:=a3k h3;have m4:=a0J h4;have m3:=a0J h3;have m2:=a0J h2;have p3:=m4.2.trans hp;have p2:=m3.2.trans p3;have e1:=a1C hL h1 (m2.2.trans p2);obtain⟨n,e2,e2'⟩:=c4J hL h2 p2;have e3:=a8D hL _ h3 (m4.1.trans hn) p3;have e4:=a8D hL _ h4 hn hp;refine⟨?_,Int.toNat_of_nonneg ho.1⟩;unfold S4;rw[e1.1];dsimp only;rw[if_neg (by omega),e2];dsimp only;rw[e3];dsimp only;rw[e4,e2'];rfl
 ·exact(a1z h).elim
theorem a5R{α β:Type}(hL:a0r F base NS OUT){tok:α→List I7}{p:St→R β}{cv:α→β}{K:α→Prop}
 (hE:∀(x:α) (s s':WS),A8 (tok x) (some s)=some s'→s'.names<+:NS→s'.out<+:OUT→p (M2 base NS s)= .ok (cv x,M2 base NS s')∧K x)
 {l:List α} {s s':WS} (h:A8 (K9 w tok l) (some s)=some s') (hn:s'.names<+:NS) (hp:s'.out<+:OUT):E5 F w p (M2 base NS s)= .ok (l.map cv,M2 base NS s')∧(∀x∈l,K x)∧l.length<256^w:=by
 have key:∀(l:List α) (s s':WS),A8 (l.flatMap tok) (some s)=some s'→s'.names<+:NS→s'.out<+:OUT→C8 p l.length (M2 base NS s)= .ok (l.map cv,M2 base NS s')∧∀x∈l,K x:=by
  intro l;induction l with
  |nil=>intro s s' h _ _;rw[a1U h];exact⟨rfl,nofun⟩
  |cons x l ih=>
   intro s s' h hn hp;rw[List.flatMap_cons]at h;obtain⟨s1,h1,h2⟩:=a3k h;have m:=a0J h2;have e1:=hE x s s1 h1 (m.1.trans hn) (m.2.trans hp);have e2:=ih s1 s' h2 hn hp;refine⟨?_,fun y hy=> ?_⟩
   ·rw[List.length_cons,C8,e1.1];dsimp only;rw[e2.1];rfl
   ·rcases List.mem_cons.1 hy with rfl|hy
    ·exact e1.2
    ·exact e2.2 y hy
 obtain⟨s1,h1,h2⟩:=T9 h;have m:=a0J h2;have e1:=a1C hL h1 (m.2.trans hp);have e2:=key l s1 s' h2 hn hp;refine⟨?_,e2.2,by have:=e1.2.2.1;rwa[Int.toNat_natCast]at this⟩;unfold E5;rw[e1.1,Int.toNat_natCast];exact e2.1
structure MeK(m:S5):Prop where
 params:∀t∈m.params,((a0Z t).kind:Int)=t.kind
 ret:((a0Z m.ret).kind:Int)=m.ret.kind
 stack:(m.stack.toNat:Int)=m.stack
 locals:(m.locals.toNat:Int)=m.locals
 code:∀t∈m.code,((a5j t).op:Int)=t.op
 handlers:∀t∈m.handlers,((a2k t).from_:Int)=t.from_∧((a2k t).to:Int)=t.to∧((a2k t).at_:Int)=t.at_
theorem c3g(hL:a0r F base NS OUT){t:S5}(h:A8 (a0m t) (some s)=some s')(hn:s'.names<+:NS)(hp:s'.out<+:OUT):meth F (M2 base NS s)= .ok (a6m t,M2 base NS s')∧MeK t:=by
 obtain⟨s1,h1,h2⟩:=T9 h;obtain⟨s6,h2,h7⟩:=a3k h2;obtain⟨s5,h2,h6⟩:=a3k h2;obtain⟨s4,h2,h4⟩:=a3k h2;obtain⟨s2,h2,h3⟩:=a3k h2;obtain⟨s45,h4,h5⟩:=T9 h4;obtain⟨s5',h5,h5'⟩:=T9 h5;obtain rfl:=a1U h5';have m7:=a0J h7;have m6:=a0J h6;have m5:=a3f h5;have m4:=a3f h4;have m3:=a0J h3;have m2:=a0J h2;have p6:=m7.2.trans hp;have n6:=m7.1.trans hn;have p5:=m6.2.trans p6;have n5:=m6.1.trans n6;have p45:=m5.2.trans p5;have n45:=m5.1.trans n5;have p4:=m4.2.trans p45;have n4:=m4.1.trans n45;have p2:=m3.2.trans p4;have n2:=m3.1.trans n4;have e1:=a5f hL h1 (m2.1.trans n2) (m2.2.trans p2);have e2:=a5R hL (fun x s s' h a b=>a9u hL h a b) h2 n2 p2;have e3:=a9u hL h3 n4 p4;have e4:=a1C hL h4 p45;have e5:=a1C hL h5 p5;have e6:=a5R hL (fun x s s' h a b=>c2x hL h a b) h6 n6 p6;have e7:=a5R hL (fun x s s' h a b=>c3r hL h a b) h7 hn hp;refine⟨?_,⟨e2.2.1,e3.2,Int.toNat_of_nonneg e4.2.1,Int.toNat_of_nonneg e5.2.1,e6.2.1,e7.2.1⟩⟩;unfold meth;rw[e1];dsimp only;rw[e2.1];dsimp only;rw[e3.1];dsimp only;rw[e4.1];dsimp only;rw[e5.1];dsimp only;rw[e6.1];dsimp only;rw[e7.1];rfl
def ClK(c:Y9):Prop:=(∀f∈c.fields,((a5d f).ty.kind:Int)=f.ty.kind)∧∀m∈c.methods,MeK m
theorem c3U(hL:a0r F base NS OUT){t:Y9}(h:A8 (a2h t) (some s)=some s')(hn:s'.names<+:NS)(hp:s'.out<+:OUT):cls F (M2 base NS s)= .ok (a3A t,M2 base NS s')∧ClK t:=by
 obtain⟨s1,h1,h2⟩:=T9 h;obtain⟨s2,h2,h3⟩:=T9 h2;obtain⟨s3,h3,h4⟩:=a3k h3;have m4:=a0J h4;have m3:=a0J h3;have m2:=a3f h2;have p3:=m4.2.trans hp;have n3:=m4.1.trans hn;have p2:=m3.2.trans p3;have n2:=m3.1.trans n3;have e1:=a5f hL h1 (m2.1.trans n2) (m2.2.trans p2);have e2:=a5f hL h2 n2 p2;have e3:=a5R hL (fun x s s' h a b=>c2I hL h a b) h3 n3 p3;have e4:=a5R hL (fun x s s' h a b=>c3g hL h a b) h4 hn hp;refine⟨?_,e3.2.1,e4.2.1⟩;unfold cls;rw[e1];dsimp only;rw[e2];dsimp only;rw[e3.1];dsimp only;rw[e4.1];rfl
end
end Cf
namespace Cf
structure U7(l:List ByteArray):Prop where
 all:∀x∈l,E3 x=true
 nodup:l.Nodup
theorem U7.nil:U7 []:=⟨nofun,List.nodup_nil⟩
variable {l:List ByteArray}
variable {F s:ByteArray}
theorem b4h(h:¬F5 l s<l.length):s∉l:=fun hm=>h (by
 unfold F5;exact List.findIdx_lt_length_of_exists ⟨s,hm,by simp⟩)
theorem U7.with(h:U7 l)(hs:E3 s=true):U7 (T0 l s):=by
 unfold T0;split
 ·exact h
 ·rename_i hp;refine⟨fun x hx=> ?_,?_⟩
  ·rcases List.mem_append.1 hx with hx|hx
   ·exact h.all x hx
   ·rw[List.mem_singleton.1 hx];exact hs
  ·rw[List.nodup_append];refine⟨h.nodup,by simp,fun a ha b hb e=> ?_⟩;rw[List.mem_singleton.1 hb]at e;exact b4h hp (e▸ha)
theorem b7q{l:List I7}:∀{s s':WS},A8 l (some s)=some s'→U7 s.names→U7 s'.names:=by
 induction l with
 |nil=>intro s s' h ho;rw[a1U h];exact ho
 |cons t l ih=>
  intro s s' h ho;obtain⟨s1,h1,h2⟩:=T9 h;refine ih h2 ?_;cases t with
  |none=>cases h1
  |some t=>
   cases t with
   |inl p=>
    simp only[I5]at h1;split at h1
    ·cases h1;exact ho
    ·cases h1
   |inr x=>
    simp only[I5]at h1;split at h1
    ·rename_i hx;cases h1;exact ho.with hx.1
    ·cases h1
variable {st:St}
variable {r:List UInt8}
theorem a7I{b:UInt8}(h:F.data.toList.drop st.at_=b::r):C1 F 1 st= .ok (b.toNat,{st with at_:=st.at_+1}):=by
 have hl:=congrArg List.length h;rw[List.length_drop,o7,List.length_cons]at hl;unfold C1;rw[if_pos (by omega),h];simp[Y3]
theorem b5R(h:E3 s=true):s.size≤12:=by
 unfold E3 at h;simp only[Bool.and_eq_true,decide_eq_true_eq]at h;exact h.1.2
variable {a:Nat}
theorem c2K(h:F.data.toList.drop a=s.data.toList++r):F.extract a (a+s.size)=s:=by
 apply ByteArray.ext;rw[ByteArray.data_extract];apply Array.toList_inj.1;rw[Array.toList_extract,List.extract_eq_take_drop,h,Nat.add_sub_cancel_left,←o7,List.take_left]
theorem b2i{x:List UInt8}(h:F.data.toList.drop a=x++r):F.data.toList.drop (a+x.length)=r:=by
 rw[←List.drop_drop,h,List.drop_left]
theorem c0W(h:F.data.toList.drop st.at_=UInt8.ofNat s.size::(s.data.toList++r))(hs:E3 s=true)(hn:s∉st.pool):
 O5 F st= .ok ((),⟨st.at_+(s.size+1),st.used,st.pool++ [s]⟩):=by
 have h12:=b5R hs;have hk:(UInt8.ofNat s.size).toNat=s.size:=by simp;omega
 have e1:=a7I h;rw[hk]at e1
 have h2:F.data.toList.drop (st.at_+1)=s.data.toList++r:=by
  rw[←List.drop_drop,h];rfl
 have hl:=congrArg List.length h2;rw[List.length_drop,o7,List.length_append,o7]at hl
 have hle:st.at_+1≤F.size:=by
  have:=congrArg List.length h;rw[List.length_drop,o7,List.length_cons]at this;omega
 unfold O5 Z2;rw[e1];dsimp only;rw[if_pos (by omega),c2K h2]
 have hc:st.pool.contains s=false:=by
  haveI:=a6F
  rw[←Bool.not_eq_true,List.contains_iff_mem];exact hn
 rw[hs,hc];simp only[Bool.not_false,Bool.and_self,if_true];congr 3
 omega
theorem c0Z:∀(l:List ByteArray) (st:St),F.data.toList.drop st.at_=E7 l++r→U7 (st.pool++l)→∃u,C8 (O5 F) l.length st= .ok (u,⟨st.at_+(E7 l).length,st.used,st.pool++l⟩):=by
 intro l;induction l with
 |nil=>intro st _ _;exact⟨[],by simp[C8,E7]⟩
 |cons s l ih=>
  intro st h ho;have hb:E7 (s::l)=UInt8.ofNat s.size::(s.data.toList++E7 l):=rfl;have hs:=ho.all s (by simp)
  have hn:s∉st.pool:=fun hm=>by
   have:=ho.nodup;rw[List.nodup_append]at this;exact this.2.2 s hm s (by simp) rfl
  rw[hb,List.cons_append,List.append_assoc]at h;have e1:=c0W h hs hn
  have h2:F.data.toList.drop (st.at_+(s.size+1))=E7 l++r:=by
   have h3:F.data.toList.drop st.at_=(UInt8.ofNat s.size::s.data.toList)++(E7 l++r):=by rw[h];rfl
   have:=b2i h3;rwa[List.length_cons,o7]at this
  obtain⟨u,hu⟩:=ih ⟨st.at_+(s.size+1),st.used,st.pool++ [s]⟩ h2 (by dsimp only;rw[List.append_assoc];exact ho);refine⟨()::u,?_⟩;rw[List.length_cons,C8,e1];dsimp only;rw[hu];dsimp only;rw[hb,List.length_cons,List.length_append,o7,List.append_assoc];congr 3
  omega
theorem c1G{c:Y9}{l:List UInt8}(h:enc c= .ok l):G7 ⟨l.toArray⟩= .ok (a3A c)∧ClK c∧l.length≤2048:=by
 unfold enc at h;cases hw:A8 (a2h c) (some ⟨[],[]⟩)with
 |none=>rw[hw]at h;cases h
 |some s=>
  rw[hw]at h;dsimp only at h;split at h
  ·cases h
  split at h
  ·cases h
  rename_i hn hlen;have h:=Except.ok.inj h;rw[h]at hlen;obtain⟨F,hF⟩:∃F:ByteArray,F=⟨l.toArray⟩:=⟨_,rfl⟩
  have hFl:F.data.toList=l:=by rw[hF]
  have hsz:F.size=l.length:=by rw[←o7,hFl]
  rw[←hF];have ho:=b7q hw U7.nil;have hd0:F.data.toList.drop 0=87::49::UInt8.ofNat s.names.length::(E7 s.names++s.out):=by rw[hFl,←h];simp
  have hd1:F.data.toList.drop 1=49::UInt8.ofNat s.names.length::(E7 s.names++s.out):=by rw[hFl,←h];simp
  have hd2:F.data.toList.drop 2=UInt8.ofNat s.names.length::(E7 s.names++s.out):=by rw[hFl,←h];simp
  have hd3:F.data.toList.drop 3=E7 s.names++s.out:=by rw[hFl,←h];simp
  have hL:a0r F (3+(E7 s.names).length) s.names s.out:=by
   refine⟨b2i hd3,?_⟩;rw[hsz,←h];simp;omega
  obtain⟨hc,hK⟩:=c3U hL hw (List.prefix_refl _) (List.prefix_refl _);refine⟨?_,hK,by omega⟩;obtain⟨u,hu⟩:=c0Z s.names ⟨3,0,[]⟩ hd3 (by simpa using ho);have e0:C1 F 1 ⟨0,0,[]⟩= .ok (87,⟨1,0,[]⟩):=a7I (b:=87) hd0;have e1:C1 F 1 ⟨1,0,[]⟩= .ok (49,⟨2,0,[]⟩):=a7I (b:=49) hd1
  have e2:C1 F 1 ⟨2,0,[]⟩= .ok (s.names.length,⟨3,0,[]⟩):=by
   rw[a7I hd2];congr 2
   simp;omega
  unfold G7;rw[if_neg (by omega)];have m0:N2 F 87 0 ⟨0,0,[]⟩= .ok ((),⟨1,0,[]⟩):=by unfold N2;rw[e0];rfl
  have m1:N2 F 49 1 ⟨1,0,[]⟩= .ok ((),⟨2,0,[]⟩):=by unfold N2;rw[e1];rfl
  rw[m0];dsimp only;rw[m1];dsimp only
  have hlist:E5 F 1 (O5 F) ⟨2,0,[]⟩= .ok (u,⟨3+(E7 s.names).length,0,s.names⟩):=by
   unfold E5;rw[e2];dsimp only;rw[hu];rfl
  rw[hlist];dsimp only;have hst:(⟨3+(E7 s.names).length,0,s.names⟩:St)=M2 (3+(E7 s.names).length) s.names ⟨[],[]⟩:=rfl;rw[hst,hc];dsimp only[M2];rw[if_neg (by omega),if_neg (by have:=hL.len;omega)]
end Cf
namespace Cf
def X8(t:Ty):n9:=⟨t.kind,t.name⟩
def a0a(f:T7):a1v:=⟨f.name,X8 f.ty⟩
def xIn(i:In):XIn:=⟨i.op,i.a,i.cls,i.mem⟩
def xHd(h:Hd):XHd:=⟨h.from_,h.to,h.at_,h.cls⟩
def xMe(m:Me):S5:=⟨m.name,m.params.map X8,X8 m.ret,m.stack,m.locals,m.code.map xIn,m.handlers.map xHd⟩
def P8(c:Cl):Y9:=⟨c.name,c.super,c.fields.map a0a,c.methods.map xMe⟩
theorem b2m(b:UInt8)(l:List UInt8):Y3 (b::l)=b.toNat*256^l.length+Y3 l:=by
 have key:∀(l:List UInt8) (a:Nat),l.foldl (fun n c=>n*256+c.toNat) a=a*256^l.length+l.foldl (fun n c=>n*256+c.toNat) 0:=by
  intro l;induction l with
  |nil=>intro a;simp
  |cons c l ih=>
   intro a;rw[List.foldl_cons,List.foldl_cons,ih,ih (0*256+c.toNat),List.length_cons,Nat.pow_succ,Nat.zero_mul,Nat.zero_add,Nat.add_mul,Nat.mul_assoc,Nat.mul_comm 256 (256^l.length)];omega
 unfold Y3;rw[List.foldl_cons,key l (0*256+b.toNat),Nat.zero_mul,Nat.zero_add]
theorem a4e:∀l:List UInt8,Y3 l<256^l.length
 | []=>by simp[Y3]
 |b::l=>by
  rw[b2m,List.length_cons,Nat.pow_succ];have h1:=a4e l;have h2:b.toNat+1≤256:=UInt8.toNat_lt b;have h3:=Nat.mul_le_mul_right (256^l.length) h2;rw[Nat.add_mul,Nat.one_mul,Nat.mul_comm 256]at h3;omega
theorem b2l:∀(w a r:Nat),N8 w (a*256^w+r)=N8 w r
 |0,_,_=>rfl
 |w+1,a,r=>by
  have e:a*256^(w+1)+r=a*256*256^w+r:=by rw[Nat.pow_succ,Nat.mul_assoc,Nat.mul_comm (256^w)]
  have hp:0<256^w:=Nat.pow_pos (by omega);rw[N8,N8,e,b2l w (a*256) r];congr 1
  rw[Nat.mul_comm (a*256),Nat.add_comm,Nat.add_mul_div_left _ _ hp];apply UInt8.toNat_inj.1;simp
theorem b2T:∀l:List UInt8,N8 l.length (Y3 l)=l
 | []=>rfl
 |b::l=>by
  have hp:0<256^l.length:=Nat.pow_pos (by omega);rw[List.length_cons,b2m,N8,b2l,b2T l];congr 1
  rw[Nat.mul_comm,Nat.add_comm,Nat.add_mul_div_left _ _ hp,Nat.div_eq_of_lt (a4e l),Nat.zero_add];simp
variable {s s1 s2:WS}
theorem a3l{a b:List I7}(h1:A8 a (some s)=some s1)(h2:A8 b (some s1)=some s2):A8 (a++b) (some s)=some s2:=by rw[o6,h1,h2]
theorem k8{t:I7}{l:List I7}(h1:I5 t s=some s1)(h2:A8 l (some s1)=some s2):A8 (t::l) (some s)=some s2:=by
 show A8 l (I5 t s)=some s2;rw[h1,h2]
structure Wq(F:ByteArray)(base:Nat)(NS:List ByteArray)(s:WS)(st:St):Prop where
 pool:st.pool=NS
 at_:st.at_=base+s.out.length
 le:st.at_≤F.size
 names:s.names=NS.take st.used
 used:st.used≤NS.length
 out:s.out<+:F.data.toList.drop base
section
variable{F:ByteArray}{base:Nat}{NS:List ByteArray}{s:WS}{st st':St}
variable {n w:Nat}
theorem a1W(h:Wq F base NS s st)(hn:C1 F w st= .ok (n,st')):∃s',I5 (.num n w) s=some s'∧Wq F base NS s' st'∧n<256^w∧s'.names=s.names∧s'.out=s.out++N8 w n∧st'.used=st.used:=by
 unfold C1 at hn;split at hn
 case isFalse=>cases hn
 case isTrue hle=>
  have hn:=Except.ok.inj hn;obtain⟨rfl,rfl⟩:=Prod.mk.inj hn;obtain⟨bs,hbs⟩:∃bs,bs=(F.data.toList.drop st.at_).take w:=⟨_,rfl⟩
  have hlen:bs.length=w:=by rw[hbs,List.length_take,List.length_drop,o7];omega
  rw[←hbs];have hlt:Y3 bs<256^w:=by rw[←hlen];exact a4e bs
  have hw:N8 w (Y3 bs)=bs:=by rw[←hlen];exact b2T bs
  have h5:=Int.ofNat_lt.2 hlt;rw[Int.natCast_pow]at h5;refine⟨⟨s.names,s.out++N8 w (Y3 bs)⟩,?_,⟨h.pool,?_,hle,h.names,h.used,?_⟩,hlt,rfl,rfl,rfl⟩
  ·simp only[I5,Int.toNat_natCast];rw[if_pos ⟨Int.natCast_nonneg _,h5⟩]
  ·dsimp only;rw[h.at_,List.length_append,a5X,Nat.add_assoc]
  ·dsimp only;rw[hw];obtain⟨r,hr⟩:=h.out;have e:F.data.toList.drop st.at_=r:=by rw[h.at_,←List.drop_drop,←hr,List.drop_left]
   rw[←hr];rw[List.prefix_append_right_inj,hbs,e];exact List.take_prefix _ _
theorem b1k{l:List ByteArray}(h:l.Nodup){i j:Nat}(hi:i<l.length)(hj:j<l.length)(e:l[i]=l[j]):i=j:=by
 rcases Nat.lt_trichotomy i j with h1|h1|h1
 ·exact absurd e (List.pairwise_iff_getElem.1 h i j hi hj h1)
 ·exact h1
 ·exact absurd e.symm (List.pairwise_iff_getElem.1 h j i hj hi h1)
theorem b6E(ho:U7 NS){u:Nat}(hn:n<NS.length)(hu:n≤u)(hl:u≤NS.length):F5 (NS.take u) NS[n]=n:=by
 unfold F5;rcases Nat.lt_or_ge n u with h|h
 ·rw[List.findIdx_eq (by rw[List.length_take];omega)];refine⟨by simp,fun j hj=> ?_⟩;have hj2:j<NS.length:=by omega
  simp only[List.getElem_take,decide_eq_false_iff_not];exact fun e=>Nat.ne_of_lt hj (b1k ho.nodup hj2 hn e)
 ·have e:n=u:=by omega
  subst e
  have:(NS.take n).findIdx (fun x=>decide (x=NS[n]))=(NS.take n).length:=by
   rw[List.findIdx_eq_length];intro x hx;simp only[decide_eq_false_iff_not];rintro rfl;obtain⟨j,hj,hje⟩:=List.getElem_of_mem hx;rw[List.length_take]at hj;rw[List.getElem_take]at hje;have hj2:j<NS.length:=by omega
   exact absurd (b1k ho.nodup hj2 hn hje) (by omega)
  rw[this,List.length_take];omega
variable {x:ByteArray}
theorem a4U(h:Wq F base NS s st)(ho:U7 NS)(hn:name F st= .ok (x,st')):∃s',I5 (.nm x) s=some s'∧Wq F base NS s' st':=by
 unfold name at hn;cases e1:C1 F 1 st with
 |error e=>rw[e1]at hn;cases hn
 |ok p=>
  obtain⟨n,st1⟩:=p;rw[e1]at hn;dsimp only at hn;obtain⟨s1,hs1,hq1,hlt,hnm,hout,hus⟩:=a1W h e1;split at hn
  case isFalse=>cases hn
  case isTrue hc=>
   have hn:=Except.ok.inj hn;obtain⟨rfl,rfl⟩:=Prod.mk.inj hn;have hnl:n<NS.length:=by rw[←h.pool];exact hc.2
   have hget:st.pool.getD n ByteArray.empty=NS[n]:=by
    rw[h.pool,List.getD_eq_getElem?_getD,List.getElem?_eq_getElem hnl];rfl
   rw[hget];have hpos:F5 s.names NS[n]=n:=by rw[h.names];exact b6E ho hnl hc.1 h.used
   have hb:N8 1 n=[UInt8.ofNat n]:=by
    show [UInt8.ofNat (_/256^0)]=_;rw[Nat.pow_zero,Nat.div_one]
   have hmax:max st.used (n+1)≤NS.length:=by have:=h.used;omega
   refine⟨⟨T0 s.names NS[n],s.out++ [UInt8.ofNat n]⟩,?_,⟨hq1.pool,?_,hq1.le,?_,hmax,?_⟩⟩
   ·simp only[I5];rw[if_pos ⟨ho.all _ (List.getElem_mem hnl),by rw[hpos];omega⟩,hpos]
   ·dsimp only;rw[hq1.at_,hout,hb]
   ·dsimp only;unfold T0;rw[hpos,h.names,List.length_take,Nat.min_eq_left h.used];split
    ·rw[Nat.max_eq_left (by omega)]
    ·have e:n=st.used:=by omega
     subst e;rw[Nat.max_eq_right (Nat.le_succ _),List.take_succ_eq_append_getElem hnl]
   ·dsimp only;rw[←hb,←hout];exact hq1.out
theorem a8e(h:Wq F base NS s st)(ho:U7 NS)(b:Bool)(hn:P5 F b st= .ok (x,st')):∃s',A8 (o8 b x) (some s)=some s'∧Wq F base NS s' st':=by
 unfold P5 at hn;cases b with
 |true=>
  obtain⟨s',h1,h2⟩:=a4U h ho (show name F st= .ok (x,st')from hn);exact⟨s',k8 h1 rfl,h2⟩
 |false=>
  have hn:=Except.ok.inj (show(Except.ok (ByteArray.empty,st):R ByteArray)= .ok (x,st')from hn);obtain⟨rfl,rfl⟩:=Prod.mk.inj hn;exact⟨s,rfl,h⟩
theorem a8F(h:Wq F base NS s st)(ho:U7 NS){t:Ty}(hn:kind F st= .ok (t,st')):∃s',A8 (M0 (X8 t)) (some s)=some s'∧Wq F base NS s' st':=by
 unfold kind at hn;cases e1:C1 F 1 st with
 |error e=>rw[e1]at hn;cases hn
 |ok p=>
  obtain⟨k,st1⟩:=p;rw[e1]at hn;dsimp only at hn;split at hn
  case isTrue=>cases hn
  case isFalse hk=>
   cases e2:P5 F (a0N k) st1 with
   |error e=>rw[e2]at hn;cases hn
   |ok p=>
    obtain⟨x,st2⟩:=p;rw[e2]at hn;have hn:=Except.ok.inj hn;obtain⟨rfl,rfl⟩:=Prod.mk.inj hn;obtain⟨s1,a1,b1,_⟩:=a1W h e1;obtain⟨s2,a2,b2⟩:=a8e b1 ho _ e2;refine⟨s2,?_,b2⟩;unfold M0 X8;dsimp only;rw[if_pos ⟨Int.natCast_nonneg _,by omega⟩,Int.toNat_natCast];exact k8 a1 a2
theorem c0h(h:Wq F base NS s st)(ho:U7 NS){t:T7}(hn:Z7 F st= .ok (t,st')):∃s',A8 (p9 (a0a t)) (some s)=some s'∧Wq F base NS s' st':=by
 unfold Z7 at hn;cases e1:name F st with
 |error e=>rw[e1]at hn;cases hn
 |ok p=>
  obtain⟨x,st1⟩:=p;rw[e1]at hn;dsimp only at hn;cases e2:kind F st1 with
  |error e=>rw[e2]at hn;cases hn
  |ok p=>
   obtain⟨t2,st2⟩:=p;rw[e2]at hn;have hn:=Except.ok.inj hn;obtain⟨rfl,rfl⟩:=Prod.mk.inj hn;obtain⟨s1,a1,b1⟩:=a4U h ho e1;obtain⟨s2,a2,b2⟩:=a8F b1 ho e2;exact⟨s2,k8 a1 a2,b2⟩
theorem c1t(h:Wq F base NS s st)(ho:U7 NS){t:Hd}(hn:X2 F st= .ok (t,st')):∃s',A8 (a0o (xHd t)) (some s)=some s'∧Wq F base NS s' st':=by
 unfold X2 at hn;cases e1:C1 F 2 st with
 |error e=>rw[e1]at hn;cases hn
 |ok p=>
 obtain⟨x1,st1⟩:=p;rw[e1]at hn;dsimp only at hn;cases e2:C1 F 2 st1 with
 |error e=>rw[e2]at hn;cases hn
 |ok p=>
 obtain⟨x2,st2⟩:=p;rw[e2]at hn;dsimp only at hn;cases e3:C1 F 2 st2 with
 |error e=>rw[e3]at hn;cases hn
 |ok p=>
 obtain⟨x3,st3⟩:=p;rw[e3]at hn;dsimp only at hn;cases e4:name F st3 with
 |error e=>rw[e4]at hn;cases hn
 |ok p=>
 obtain⟨x4,st4⟩:=p;rw[e4]at hn;have hn:=Except.ok.inj hn;obtain⟨rfl,rfl⟩:=Prod.mk.inj hn;obtain⟨s1,a1,b1,_⟩:=a1W h e1;obtain⟨s2,a2,b2,_⟩:=a1W b1 e2;obtain⟨s3,a3,b3,_⟩:=a1W b2 e3;obtain⟨s4,a4,b4⟩:=a4U b3 ho e4;exact⟨s4,k8 a1 (k8 a2 (k8 a3 (k8 a4 rfl))),b4⟩
theorem c2U(h:Wq F base NS s st){op:Nat}(hn:C1 F (F3 op) st= .ok (n,st')):∃s',A8 (F7 (F3 op) (P4 (F3 op) n)) (some s)=some s'∧Wq F base NS s' st':=by
 have hw:=b1y op;generalize F3 op=w at*
 obtain⟨s1,a1,b1,hlt,hnm,hout,hus⟩:=a1W h hn;unfold F7;by_cases h4:w=4
 ·subst h4;rw[if_pos rfl];by_cases hb:2147483648≤n
  ·have hs:P4 4 n=(n:Int)-4294967296:=by unfold P4;rw[if_pos ⟨rfl,hb⟩]
   rw[hs,if_pos (by omega),if_pos (by omega)];have e:(n:Int)-4294967296+4294967296=n:=by omega
   rw[e];exact⟨s1,k8 a1 rfl,b1⟩
  ·have hs:P4 4 n=(n:Int):=by unfold P4;rw[if_neg (fun h=>hb h.2)]
   rw[hs,if_pos (by omega),if_neg (by omega)];exact⟨s1,k8 a1 rfl,b1⟩
 ·rw[if_neg h4];have hs:P4 w n=n:=by unfold P4;rw[if_neg (fun h=>h4 h.1)]
  rw[hs];by_cases h0:w=0
  ·subst h0;have hz:n=0:=by omega
   subst hz;rw[if_pos rfl]
   have e:s1=s:=by
    cases s;cases s1;simp only[N8,List.append_nil]at hnm hout;rw[hnm,hout]
   rw[e]at b1;exact⟨s,by rw[if_pos (by rfl)];rfl,b1⟩
  ·rw[if_neg h0];exact⟨s1,k8 a1 rfl,b1⟩
theorem b9Q(h:Wq F base NS s st)(ho:U7 NS){t:In}(hn:S4 F st= .ok (t,st')):∃s',A8 (X5 (xIn t)) (some s)=some s'∧Wq F base NS s' st':=by
 unfold S4 at hn;cases e1:C1 F 1 st with
 |error e=>rw[e1]at hn;cases hn
 |ok p=>
 obtain⟨op,st1⟩:=p;rw[e1]at hn;dsimp only at hn;split at hn
 case isTrue=>cases hn
 case isFalse hop=>
 cases e2:C1 F (F3 op) st1 with
 |error e=>rw[e2]at hn;cases hn
 |ok p=>
 obtain⟨n,st2⟩:=p;rw[e2]at hn;dsimp only at hn;cases e3:P5 F (Y5 op) st2 with
 |error e=>rw[e3]at hn;cases hn
 |ok p=>
 obtain⟨x3,st3⟩:=p;rw[e3]at hn;dsimp only at hn;cases e4:P5 F (Z4 op) st3 with
 |error e=>rw[e4]at hn;cases hn
 |ok p=>
 obtain⟨x4,st4⟩:=p;rw[e4]at hn;have hn:=Except.ok.inj hn;obtain⟨rfl,rfl⟩:=Prod.mk.inj hn;obtain⟨s1,a1,b1,_⟩:=a1W h e1;obtain⟨s2,a2,b2⟩:=c2U b1 e2;obtain⟨s3,a3,b3⟩:=a8e b2 ho _ e3;obtain⟨s4,a4,b4⟩:=a8e b3 ho _ e4;refine⟨s4,?_,b4⟩;unfold X5 xIn;dsimp only;rw[if_pos ⟨Int.natCast_nonneg _,by omega⟩,Int.toNat_natCast];exact k8 a1 (a3l (a3l a2 a3) a4)
theorem a5D{α β:Type}(ho:U7 NS){tok:α→List I7}{p:St→R β}{cv:β→α}
 (hE:∀(x:β) (s:WS) (st st':St),Wq F base NS s st→p st= .ok (x,st')→∃s',A8 (tok (cv x)) (some s)=some s'∧Wq F base NS s' st')
 {l:List β} (h:Wq F base NS s st) (hn:E5 F w p st= .ok (l,st')):∃s',A8 (K9 w tok (l.map cv)) (some s)=some s'∧Wq F base NS s' st':=by
 have key:∀(n:Nat) (l:List β) (s:WS) (st st':St),Wq F base NS s st→C8 p n st= .ok (l,st')→∃s',A8 ((l.map cv).flatMap tok) (some s)=some s'∧Wq F base NS s' st'∧l.length=n:=by
  intro n;induction n with
  |zero=>
   intro l s st st' h hn;obtain⟨rfl,rfl⟩:=Prod.mk.inj (Except.ok.inj hn);exact⟨s,rfl,h,rfl⟩
  |succ n ih=>
   intro l s st st' h hn;rw[C8]at hn;cases e1:p st with
   |error e=>rw[e1]at hn;cases hn
   |ok q=>
    obtain⟨x,st1⟩:=q;rw[e1]at hn;dsimp only at hn;cases e2:C8 p n st1 with
    |error e=>rw[e2]at hn;cases hn
    |ok q=>
     obtain⟨l2,st2⟩:=q;rw[e2]at hn;obtain⟨rfl,rfl⟩:=Prod.mk.inj (Except.ok.inj hn);obtain⟨s1,a1,b1⟩:=hE x s st st1 h e1;obtain⟨s2,a2,b2,hl⟩:=ih l2 s1 st1 st2 b1 e2;exact⟨s2,by rw[List.map_cons,List.flatMap_cons];exact a3l a1 a2,b2,by rw[List.length_cons,hl]⟩
 unfold E5 at hn;cases e1:C1 F w st with
 |error e=>rw[e1]at hn;cases hn
 |ok q=>
  obtain⟨n,st1⟩:=q;rw[e1]at hn;dsimp only at hn;obtain⟨s1,a1,b1,_⟩:=a1W h e1;obtain⟨s2,a2,b2,hl⟩:=key n l s1 st1 st' b1 hn;refine⟨s2,?_,b2⟩;unfold K9;rw[List.length_map,hl];exact k8 a1 a2
theorem c1j(h:Wq F base NS s st)(ho:U7 NS){t:Me}(hn:meth F st= .ok (t,st')):∃s',A8 (a0m (xMe t)) (some s)=some s'∧Wq F base NS s' st':=by
 unfold meth at hn;cases e1:name F st with
 |error e=>rw[e1]at hn;cases hn
 |ok p=>
 obtain⟨x1,st1⟩:=p;rw[e1]at hn;dsimp only at hn;cases e2:E5 F 1 (kind F) st1 with
 |error e=>rw[e2]at hn;cases hn
 |ok p=>
 obtain⟨x2,st2⟩:=p;rw[e2]at hn;dsimp only at hn;cases e3:kind F st2 with
 |error e=>rw[e3]at hn;cases hn
 |ok p=>
 obtain⟨x3,st3⟩:=p;rw[e3]at hn;dsimp only at hn;cases e4:C1 F 1 st3 with
 |error e=>rw[e4]at hn;cases hn
 |ok p=>
 obtain⟨x4,st4⟩:=p;rw[e4]at hn;dsimp only at hn;cases e5:C1 F 1 st4 with
 |error e=>rw[e5]at hn;cases hn
 |ok p=>
 obtain⟨x5,st5⟩:=p;rw[e5]at hn;dsimp only at hn;cases e6:E5 F 2 (S4 F) st5 with
 |error e=>rw[e6]at hn;cases hn
 |ok p=>
 obtain⟨x6,st6⟩:=p;rw[e6]at hn;dsimp only at hn;cases e7:E5 F 1 (X2 F) st6 with
 |error e=>rw[e7]at hn;cases hn
 |ok p=>
 obtain⟨x7,st7⟩:=p;rw[e7]at hn;obtain⟨rfl,rfl⟩:=Prod.mk.inj (Except.ok.inj hn);obtain⟨s1,a1,b1⟩:=a4U h ho e1;obtain⟨s2,a2,b2⟩:=a5D ho (fun x s st st' h a=>a8F h ho a) b1 e2;obtain⟨s3,a3,b3⟩:=a8F b2 ho e3;obtain⟨s4,a4,b4,_⟩:=a1W b3 e4;obtain⟨s5,a5,b5,_⟩:=a1W b4 e5;obtain⟨s6,a6,b6⟩:=a5D ho (fun x s st st' h a=>b9Q h ho a) b5 e6;obtain⟨s7,a7,b7⟩:=a5D ho (fun x s st st' h a=>c1t h ho a) b6 e7;exact⟨s7,k8 a1 (a3l (a3l (a3l (a3l a2 a3) (k8 a4 (k8 a5 rfl))) a6) a7),b7⟩
theorem c1I(h:Wq F base NS s st)(ho:U7 NS){t:Cl}(hn:cls F st= .ok (t,st')):∃s',A8 (a2h (P8 t)) (some s)=some s'∧Wq F base NS s' st':=by
 unfold cls at hn;cases e1:name F st with
 |error e=>rw[e1]at hn;cases hn
 |ok p=>
 obtain⟨x1,st1⟩:=p;rw[e1]at hn;dsimp only at hn;cases e2:name F st1 with
 |error e=>rw[e2]at hn;cases hn
 |ok p=>
 obtain⟨x2,st2⟩:=p;rw[e2]at hn;dsimp only at hn;cases e3:E5 F 1 (Z7 F) st2 with
 |error e=>rw[e3]at hn;cases hn
 |ok p=>
 obtain⟨x3,st3⟩:=p;rw[e3]at hn;dsimp only at hn;cases e4:E5 F 1 (meth F) st3 with
 |error e=>rw[e4]at hn;cases hn
 |ok p=>
 obtain⟨x4,st4⟩:=p;rw[e4]at hn;obtain⟨rfl,rfl⟩:=Prod.mk.inj (Except.ok.inj hn);obtain⟨s1,a1,b1⟩:=a4U h ho e1;obtain⟨s2,a2,b2⟩:=a4U b1 ho e2;obtain⟨s3,a3,b3⟩:=a5D ho (fun x s st st' h a=>c0h h ho a) b2 e3;obtain⟨s4,a4,b4⟩:=a5D ho (fun x s st st' h a=>c1j h ho a) b3 e4;exact⟨s4,k8 a1 (k8 a2 (a3l a3 a4)),b4⟩
end
end Cf
namespace Cf
variable {F:ByteArray}
variable {st st1:St}
theorem a6S{k:Nat}(h:C1 F 1 st= .ok (k,st1)):∃b:UInt8,F.data.toList.drop st.at_=b::F.data.toList.drop (st.at_+1)∧k=b.toNat∧st1={st with at_:=st.at_+1}∧st.at_+1≤F.size:=by
 unfold C1 at h;split at h
 case isFalse=>cases h
 case isTrue hle=>
  obtain⟨rfl,rfl⟩:=Prod.mk.inj (Except.ok.inj h);have hl:st.at_<F.data.toList.length:=by rw[o7];omega
  refine⟨F.data.toList[st.at_],(List.drop_eq_getElem_cons hl),?_,rfl,hle⟩;rw[List.drop_eq_getElem_cons hl];simp[Y3]
variable {u:Unit}
theorem b7Q(h:O5 F st= .ok (u,st1)):∃s:ByteArray,st1=⟨st.at_+(s.size+1),st.used,st.pool++ [s]⟩∧E3 s=true∧s∉st.pool∧F.data.toList.drop st.at_=UInt8.ofNat s.size::(s.data.toList++F.data.toList.drop (st.at_+(s.size+1)))∧st.at_+(s.size+1)≤F.size:=by
 unfold O5 Z2 at h;cases e1:C1 F 1 st with
 |error e=>rw[e1]at h;cases h
 |ok p=>
  obtain⟨k,st2⟩:=p;rw[e1]at h;dsimp only at h;obtain⟨b,hd,hk,rfl,hle⟩:=a6S e1;dsimp only at h;by_cases hle2:st.at_+1+k≤F.size
  ·rw[if_pos hle2]at h;by_cases hc:(E3 (F.extract (st.at_+1) (st.at_+1+k))&& !st.pool.contains (F.extract (st.at_+1) (st.at_+1+k)))=true
   ·rw[if_pos hc]at h;obtain⟨-,rfl⟩:=Prod.mk.inj (Except.ok.inj h);obtain⟨s,hs⟩:∃s,s=F.extract (st.at_+1) (st.at_+1+k):=⟨_,rfl⟩
    rw[←hs]at hc⊢
    have hsl:s.data.toList=(F.data.toList.drop (st.at_+1)).take k:=by
     rw[hs,ByteArray.data_extract,Array.toList_extract,List.extract_eq_take_drop,Nat.add_sub_cancel_left]
    have hsz:s.size=k:=by
     rw[←o7,hsl,List.length_take,List.length_drop,o7];omega
    have hmem:s∉st.pool:=by
     haveI:=a6F
     have:=(Bool.and_eq_true _ _▸hc).2;rw[Bool.not_eq_true',←Bool.not_eq_true,List.contains_iff_mem]at this;exact this
    refine⟨s,?_,(Bool.and_eq_true _ _▸hc).1,hmem,?_,by omega⟩
    ·rw[hsz];dsimp only;congr 1;omega
    ·rw[hd,hsl,hsz];have hb:UInt8.ofNat k=b:=by rw[hk];simp
     rw[hb];congr 1
     have e:st.at_+(k+1)=st.at_+1+k:=by omega
     have e2:F.data.toList.drop (st.at_+1+k)=(F.data.toList.drop (st.at_+1)).drop k:=by rw[List.drop_drop]
     rw[e,e2,List.take_append_drop]
   ·rw[if_neg hc]at h;cases h
  ·rw[if_neg hle2]at h;cases h
theorem b7T:∀(n:Nat) (st st':St) (u:List Unit),C8 (O5 F) n st= .ok (u,st')→U7 st.pool→st.at_≤F.size→∃l:List ByteArray,st'=⟨st.at_+(E7 l).length,st.used,st.pool++l⟩∧l.length=n∧F.data.toList.drop st.at_=E7 l++F.data.toList.drop st'.at_∧U7 (st.pool++l)∧st'.at_≤F.size:=by
 intro n;induction n with
 |zero=>
  intro st st' u h ho hle;obtain⟨rfl,rfl⟩:=Prod.mk.inj (Except.ok.inj h);exact⟨[],by simp[E7],rfl,by simp[E7],by simpa using ho,hle⟩
 |succ n ih=>
  intro st st' u h ho hle;rw[C8]at h;cases e1:O5 F st with
  |error e=>rw[e1]at h;cases h
  |ok p=>
   obtain⟨x,st1⟩:=p;rw[e1]at h;dsimp only at h;cases e2:C8 (O5 F) n st1 with
   |error e=>rw[e2]at h;cases h
   |ok p=>
    obtain⟨u2,st2⟩:=p;rw[e2]at h;obtain⟨rfl,rfl⟩:=Prod.mk.inj (Except.ok.inj h);obtain⟨s,rfl,hs,hm,hd,hle1⟩:=b7Q e1
    have ho1:U7 (st.pool++ [s]):=by
     refine⟨fun x hx=> ?_,?_⟩
     ·rcases List.mem_append.1 hx with hx|hx
      ·exact ho.all x hx
      ·rw[List.mem_singleton.1 hx];exact hs
     ·rw[List.nodup_append];refine⟨ho.nodup,by simp,fun a ha b hb e=> ?_⟩;rw[List.mem_singleton.1 hb]at e;exact hm (e▸ha)
    obtain⟨l,rfl,hl,hd2,ho2,hle2⟩:=ih _ _ _ e2 ho1 hle1;dsimp only at hd2 ho2 hle2⊢;have hb:E7 (s::l)=UInt8.ofNat s.size::(s.data.toList++E7 l):=rfl
    have hbl:(E7 (s::l)).length=s.size+1+(E7 l).length:=by
     rw[hb,List.length_cons,List.length_append,o7];omega
    refine⟨s::l,?_,by rw[List.length_cons,hl],?_,by rw[List.append_assoc]at ho2;exact ho2,by rw[Nat.add_assoc]at hle2;omega⟩
    ·rw[hbl,List.append_assoc];congr 1;omega
    ·rw[hd,hd2,hb];simp
theorem b0N{c i:Nat}(h:N2 F c i st= .ok (u,st1)):C1 F 1 st= .ok (c,st1):=by
 unfold N2 at h;cases e1:C1 F 1 st with
 |error e=>rw[e1]at h;cases h
 |ok p=>
  obtain⟨k,st2⟩:=p;rw[e1]at h;dsimp only at h;split at h
  ·rename_i hk;obtain⟨-,rfl⟩:=Prod.mk.inj (Except.ok.inj h);rw[hk]
  ·cases h
theorem b2R{c:Cl}(h:G7 F= .ok c):enc (P8 c)= .ok F.data.toList:=by
 unfold G7 at h;split at h
 ·cases h
 rename_i hsz;cases e0:N2 F 87 0 ⟨0,0,[]⟩with
 |error e=>rw[e0]at h;cases h
 |ok p=>
 obtain⟨u0,st1⟩:=p;rw[e0]at h;dsimp only at h;cases e1:N2 F 49 1 st1 with
 |error e=>rw[e1]at h;cases h
 |ok p=>
 obtain⟨u1,st2⟩:=p;rw[e1]at h;dsimp only at h;cases e2:E5 F 1 (O5 F) st2 with
 |error e=>rw[e2]at h;cases h
 |ok p=>
 obtain⟨u2,st3⟩:=p;rw[e2]at h;dsimp only at h;cases e3:cls F st3 with
 |error e=>rw[e3]at h;cases h
 |ok p=>
 obtain⟨c3,st4⟩:=p;rw[e3]at h;dsimp only at h;split at h
 ·cases h
 rename_i hused;split at h
 ·cases h
 rename_i hat;obtain rfl:=Except.ok.inj h;obtain⟨b0,d0,k0,rfl,l0⟩:=a6S (b0N e0);obtain⟨b1,d1,k1,rfl,l1⟩:=a6S (b0N e1);unfold E5 at e2;cases e4:C1 F 1 (⟨0+1+1,0,[]⟩:St)with
 |error e=>rw[e4]at e2;cases e2
 |ok p=>
 obtain⟨n,st5⟩:=p;rw[e4]at e2;dsimp only at e2;obtain⟨b2,d2,k2,rfl,l2⟩:=a6S e4;obtain⟨NS,rfl,hn,hd,ho,hle⟩:=b7T n _ _ _ e2 U7.nil l2;dsimp only[List.nil_append]at hd ho hle e3 d1 d2 l1 l2;have hb0:b0=87:=by apply UInt8.toNat_inj.1;rw[←k0];rfl
 have hb1:b1=49:=by apply UInt8.toNat_inj.1;rw[←k1];rfl
 have hn255:NS.length≤255:=by have:=UInt8.toNat_lt b2;omega
 have hb2:b2=UInt8.ofNat NS.length:=by rw[hn,k2];simp
 have hfile:F.data.toList=[87,49,UInt8.ofNat NS.length]++E7 NS++F.data.toList.drop (0+1+1+1+(E7 NS).length):=by
  have h0:F.data.toList.drop 0=[87,49,UInt8.ofNat NS.length]++E7 NS++F.data.toList.drop (0+1+1+1+(E7 NS).length):=by
   rw[d0,hb0,d1,hb1,d2,hb2,hd];rfl
  exact h0
 obtain⟨s',hw,hq⟩:=c1I (base:=0+1+1+1+(E7 NS).length) (NS:=NS) (s:=⟨[],[]⟩) ⟨rfl,rfl,hle,rfl,Nat.zero_le _,List.nil_prefix⟩ ho e3;have hu:=hq.used;rw[hq.pool]at hused;have hnm:s'.names=NS:=by rw[hq.names,List.take_of_length_le (by omega)]
 have hout:s'.out=F.data.toList.drop (0+1+1+1+(E7 NS).length):=by
  refine List.IsPrefix.eq_of_length hq.out ?_;have h1:=hq.at_;have h2:=hq.le;rw[List.length_drop,o7];omega
 unfold enc;rw[hw];dsimp only;rw[if_neg (by rw[hnm];omega),hnm,hout,←hfile,o7,if_neg (by omega)]
end Cf
open Go.RowKit Go.Shelf Cf
namespace Kx
variable {F:ByteArray}
variable {t:TypeId}
theorem c1b{W:World}{B:Nat}(hb:A3 W B #[.string F] t):B8 W W.heap.size 1 a6p (some ⟨B,0,none⟩) [F]:=fun j hj=>by
 have:j=0:=by simpa using hj
 subst this;refine⟨⟨B,0,none⟩,rfl,hb.lt,fun r u hu=> ?_⟩
 have hr:r=0:=by
  have:=(List.getElem?_eq_some_iff.1 hu).1;simpa[a6p]using this
 subst hr;exact hb.cell 0 u (by simpa[a6p]using hu)
def a2m(m:S5):Y9:=⟨⟨#[65]⟩,F2,[],[m]⟩
variable {fs:List Cl}
variable {c:Cl}
theorem b2D(hl:fs.length=[F].length)(hd:∀i (hi:i< [F].length),G7 [F][i]= .ok (cl fs i))(hF:G7 F= .ok c):fs=[c]:=by
 obtain⟨x,rfl⟩:∃x,fs=[x]:=by
  cases fs with
  |nil=>simp at hl
  |cons x l=>cases l with
   |nil=>exact⟨x,rfl⟩
   |cons y l=>simp at hl
 have h1:G7 F= .ok x:=hd 0 (by simp);rw[hF]at h1;rw[Except.ok.inj h1]
variable {w w':World}
theorem b9E{B0:Nat}{e:Ending}(hF:G7 F= .ok c)(hlnk:P1 [c]= .ok ())(hchk:∀er f k a,a3x (A7++ [c]) [c] er f k a→er=0)(h:a9F B0 [F] e w'):
 ∃P,Lkd [c]∧a3r (A7++ [c])∧a1H w' P (A7++ [c]) true∧e= .returned (.tuple #[.pointer (some ⟨P,0,none⟩), .int .i64 0, .agg #[.int .i64 0, .int .i64 0, .int .i64 0]]):=by
 have hno:∀er a,er≠0→e= .returned (.tuple #[.pointer none, .int .i64 ((er:Nat):Int),a])→False:=fun er a hne he=>by
  rcases h with⟨h1,-⟩|⟨-,j,hj,er,hd,-⟩|⟨-,fs,hl,hd,h⟩
  ·simp at h1
  ·have:j=0:=by simpa using hj
   subst this;have hd2:G7 F= .error er:=hd;rw[hF]at hd2;cases hd2
  ·obtain rfl:=b2D hl hd hF;rcases h with⟨er,hlp,-⟩|⟨-,er,f,k,at_,hA,h⟩
   ·rw[hlnk]at hlp;cases hlp
   ·rcases h with⟨hne,-⟩|⟨-,P,B,b,v,m1,m2,m3,qf,he2,-⟩
    ·exact hne (hchk _ _ _ _ hA)
    ·rw[he]at he2;simp at he2
 rcases b9D h with⟨er,a,hne,he⟩|⟨P,fs,hl,hd,h1,h2,h3,h4⟩
 ·exact(hno er a hne he).elim
 ·obtain rfl:=b2D hl hd hF;exact⟨P,h1,h2,h3,h4⟩
theorem b6T(w:World)(hS:Hid (O4 w))(hBin:Hid (Bin w))(m:S5)(pa ca ha:Option Addr)(pk ck hk:Nat)(hp:Hid (B8 w w.heap.size 2 X8 pa m.params))(hc:Hid (B8 w w.heap.size 4 xIn ca m.code))(hh:Hid (B8 w w.heap.size 4 xHd ha m.handlers))
 (hok:a1K (a2m m)) (hcost:a0U (a2m m)≤2^40) (c:Cl) (l:List UInt8) (henc:enc (a2m m)= .ok l) (hdec:G7 ⟨l.toArray⟩= .ok c) (hsz:l.length≤maxLen) (htw:∀m∈c.methods,Me2 m) (hlnk:P1 [c]= .ok ()) (hchk:∀er f k a,a3x (A7++ [c]) [c] er f k a→er=0):
 Calls prog 45 #[.agg (mX m pa pk ca ck ha hk)] w fun e w'=>w.grownBy w' none∧∃P,e= .returned (.pointer (some ⟨P,0,none⟩))∧Lkd [c]∧a3r (A7++ [c])∧a1H w' P (A7++ [c]) true:=by
 obtain⟨F,hF⟩:∃F:ByteArray,F=⟨l.toArray⟩:=⟨_,rfl⟩
 have HENC:Hid (∀(W:World) (B:Nat),w.grownBy W none→A3 W B (mX m pa pk ca ck ha hk) 102→Calls prog 17 #[.agg #[.string ⟨#[65]⟩, .string ⟨#[79,98,106,101,99,116]⟩, .slice none 0 0, .slice (some ⟨B,0,none⟩) 1 1]] W fun e w'=>e= .returned (.tuple #[.string F, .int .i64 0])∧W.grownBy w' none):=fun W B hW hb=>by
  have h:=a8q W W.heap.size (a2m m) none (some ⟨B,0,none⟩) 0 1 (Nat.le_refl _) hok hcost (hS.out.keep hW (by simp)) (fun j hj=>(by cases hj)) (fun j hj=>by
   have:j=0:=by
    have:j<1:=hj;omega
   subst this;refine⟨⟨B,0,none⟩,pa,ca,ha,pk,ck,hk,rfl,hb.lt,(hp.out.keep hW).upto hW.size,(hc.out.keep hW).upto hW.size,(hh.out.keep hW).upto hW.size,fun r u hu=> ?_⟩;have hr:r<8:=(List.getElem?_eq_some_iff.1 hu).1
   have e:(⟨B,0,none⟩:Addr).add (0*8+r)=⟨B,r,none⟩:=by
    rw[Nat.zero_mul,Nat.zero_add];unfold Addr.add;split
    ·rename_i h;subst h;rfl
    ·simp
   rw[e];refine hb.cell _ u ?_;rcases(by omega:r=0∨r=1∨r=2∨r=3∨r=4∨r=5∨r=6∨r=7)with rfl|rfl|rfl|rfl|rfl|rfl|rfl|rfl<;>exact hu)
  rw[henc]at h;rw[hF];exact h
 have HLA:Hid (∀(W:World) (B:Nat),w.grownBy W none→A3 W B #[.string F] 9→Calls prog 31 #[.slice (some ⟨B,0,none⟩) 1 1, .bool true] W fun e w'=>W.grownBy w' none∧∃P,Lkd [c]∧a3r (A7++ [c])∧a1H w' P (A7++ [c]) true∧e= .returned (.tuple #[.pointer (some ⟨P,0,none⟩), .int .i64 0, .agg #[.int .i64 0, .int .i64 0, .int .i64 0]])):=fun W B hW hb=>by
  have h:=b8e W W.heap.size (Nat.le_refl _) [F] (some ⟨B,0,none⟩) 1 (c1b hb) (fun s hs=>by rw[List.mem_singleton.1 hs,hF];show l.toArray.size≤_;rw[List.size_toArray];exact hsz) (fun s hs c2 h2=>by rw[List.mem_singleton.1 hs,hF,hdec]at h2;cases h2;exact htw) (hS.out.keep hW (by simp)) (hBin.out.keep hW);refine h.mono ?_;rintro e w' ⟨hg,hA⟩;exact⟨hg,b9E (by rw[hF];exact hdec) hlnk hchk hA⟩
 obtain⟨np,hnp⟩:∃np,np=m.params.length:=⟨_,rfl⟩
 obtain⟨nc,hnc⟩:∃nc,nc=m.code.length:=⟨_,rfl⟩
 obtain⟨nh,hnh⟩:∃nh,nh=m.handlers.length:=⟨_,rfl⟩
 unfold mX at HENC⊢;rw[←hnp,←hnc,←hnh]at HENC⊢;clear hF hS hBin hp hc hh hok hcost henc hdec hsz hlnk hchk hnp hnc hnh;have HG1:Hid (w.grownBy ((w.alloc (.cells #[.string m.name, .slice pa np pk, .int .i64 m.ret.kind, .string m.ret.name, .int .i64 m.stack, .int .i64 m.locals, .slice ca nc ck, .slice ha nh hk] 102)).alloc (.cells #[.string m.name, .slice pa np pk, .int .i64 m.ret.kind, .string m.ret.name, .int .i64 m.stack, .int .i64 m.locals, .slice ca nc ck, .slice ha nh hk] 102)) none):=A1 (A2 _ _ _) (A2 _ _ _)
 have hb1:A3 ((w.alloc (.cells #[.string m.name, .slice pa np pk, .int .i64 m.ret.kind, .string m.ret.name, .int .i64 m.stack, .int .i64 m.locals, .slice ca nc ck, .slice ha nh hk] 102)).alloc (.cells #[.string m.name, .slice pa np pk, .int .i64 m.ret.kind, .string m.ret.name, .int .i64 m.stack, .int .i64 m.locals, .slice ca nc ck, .slice ha nh hk] 102)) (w.heap.size+1) #[.string m.name, .slice pa np pk, .int .i64 m.ret.kind, .string m.ret.name, .int .i64 m.stack, .int .i64 m.locals, .slice ca nc ck, .slice ha nh hk] 102:=by
  have:=A3.new (w.alloc (.cells #[.string m.name, .slice pa np pk, .int .i64 m.ret.kind, .string m.ret.name, .int .i64 m.stack, .int .i64 m.locals, .slice ca nc ck, .slice ha nh hk] 102)) #[.string m.name, .slice pa np pk, .int .i64 m.ret.kind, .string m.ret.name, .int .i64 m.stack, .int .i64 m.locals, .slice ca nc ck, .slice ha nh hk] 102;exact a3a
 have HE1:=HENC.out _ _ HG1.out hb1;have HE1:=A0 HE1;clear hb1;go_enter func45,ntmps45;go_wp2_with (go_at_call 17;go_loud (refine HE1.out.mono ?_;rintro e w2 ⟨rfl,hg2⟩))
 have HG2:=A0 (A1 HG1.out hg2);have HL3:=HLA.out (w2.alloc (.cells #[.string F] 9)) w2.heap.size (A1 HG2.out (A2 _ _ none)) (A3.new w2 _ _);have HL3:=A0 HL3;clear hg2;go_wp2_with (go_at_call 31;go_loud (refine HL3.out.mono ?_;rintro e w3 ⟨hg3,P,k1,k2,k3,rfl⟩;have K:=C7 (And.intro k1 (And.intro k2 k3));clear k1 k2 k3))
 have HG3:=A0 (A1 (A1 HG2.out (A2 _ _ none)) hg3);have hg4:=A2 w3 (.cells #[.int .i64 0, .int .i64 0, .int .i64 0] 78) none;clear hg3;go_ret;exact⟨A1 HG3.out hg4,P,rfl,K.out.1,K.out.2.1,K.out.2.2.keep hg4⟩
theorem c4d{g:Nat}{a0 a1 a2 a3 a4:Value}(h:A3 w g #[a0,a1,a2,a3,a4] t)(v0 v1 v2 v3 v4:Value):
 A3 (((((w.setCell ⟨g,0,none⟩ v0).setCell ⟨g,1,none⟩ v1).setCell ⟨g,2,none⟩ v2).setCell ⟨g,3,none⟩ v3).setCell ⟨g,4,none⟩ v4) g #[v0,v1,v2,v3,v4] t∧w.grownBy (((((w.setCell ⟨g,0,none⟩ v0).setCell ⟨g,1,none⟩ v1).setCell ⟨g,2,none⟩ v2).setCell ⟨g,3,none⟩ v3).setCell ⟨g,4,none⟩ v4) (some g):=by
 have h0:A3 _ g #[v0,a1,a2,a3,a4] t:=h.set 0 v0;have g0:=A9 w ⟨g,0,none⟩ v0;generalize w.setCell ⟨g,0,none⟩ v0=x0 at h0 g0⊢;have h1:A3 _ g #[v0,v1,a2,a3,a4] t:=h0.set 1 v1;have g1:=A1 g0 (A9 x0 ⟨g,1,none⟩ v1);generalize x0.setCell ⟨g,1,none⟩ v1=x1 at h1 g1⊢;have h2:A3 _ g #[v0,v1,v2,a3,a4] t:=h1.set 2 v2;have g2:=A1 g1 (A9 x1 ⟨g,2,none⟩ v2);generalize x1.setCell ⟨g,2,none⟩ v2=x2 at h2 g2⊢;have h3:A3 _ g #[v0,v1,v2,v3,a4] t:=h2.set 3 v3;have g3:=A1 g2 (A9 x2 ⟨g,3,none⟩ v3);generalize x2.setCell ⟨g,3,none⟩ v3=x3 at h3 g3⊢;have h4:A3 _ g #[v0,v1,v2,v3,v4] t:=h3.set 4 v4;have g4:=A1 g3 (A9 x3 ⟨g,4,none⟩ v4);generalize x3.setCell ⟨g,4,none⟩ v4=x4 at h4 g4⊢;exact⟨h4,g4⟩
structure a7G(E:En)(lim P:Nat)(fast:Bool)(L:List Cl)(w w':World)(fp R:Nat)(s:Ms):Prop where
 lim:E.lim=lim
 cb:E.cb=P
 fast:E.fast=fast
 L:E.L=L
 grown:w.grownBy w' none
 mc:∃W,w.grownBy W none∧E.base=W.heap.size∧Mc E W [] w' [fp] s 0 [F4 R #[.pointer (some ⟨E.b,0,none⟩)] 133]
theorem ThI.keep(h:ThI w)(hg:w.grownBy w' none):ThI w':=⟨Nat.lt_of_lt_of_le h.1 hg.size,fun a ha=>hg.cell (h.2 a ha) A5⟩
variable {P:Nat}
variable {pp:Nat×Nat}
theorem b7F(w:World){ck:Bool}(hP:a1H w P (A7++fs) ck)(hK:Lkd fs)(hT:Hid (ThI w))(fast:Bool)(hfc:fast=true→ck=true)(cls mem:ByteArray)(hc:cls.size≤maxLen)(hm:mem.size≤maxLen)(args:List Int)(aa:Option Addr)(ak:Nat)(har:Hid (B8 w w.heap.size 1 j5 aa args))(han:args.length≤1000000000000)(room:Int)(hpp:L3 (A7++fs) cls mem=some pp)(hap:m9 (E1 (A7++fs) pp).params args=true)(hr:0≤room∧room≤2000):
 Calls prog 32 #[.pointer (some ⟨P,0,none⟩), .bool fast, .string cls, .string mem, .slice aa args.length ak, .int .i64 room] w fun e w'=>∃lim E fp R,e= .returned (.tuple #[.pointer (some ⟨R,0,none⟩), .int .i64 0])∧a7G E lim P fast (A7++fs) w w' fp R (a0R fast (A7++fs) cls mem args room.toNat):=by
 obtain⟨lim,p,cap,m1,m2,m3,q,h1,h2,h3⟩:=hP;refine(b6D w lim P _ p cap m1 m2 m3 q h2 h1 (a9B hK.1 hK.2.1) hT ck fast h3 cls mem hc hm args aa ak har han room (by omega)).mono ?_;rintro e w' (⟨g1,g2,-⟩|⟨-,g1,-⟩|⟨-,p1,g1,g2,-⟩|⟨-,p1,g1,g2,g3,g4,E,W,fp,R,g5,g6,g7,g8,g9,g10,g11,g12⟩)
 ·rw[hfc g1]at g2;cases g2
 ·rw[hpp]at g1;cases g1
 ·rw[hpp]at g1;cases g1;rcases g2 with g2|g2|g2
  ·rw[hap]at g2;cases g2
  ·omega
  ·omega
 ·exact⟨lim,E,fp,R,g11,g6,g7,g8,g9,A1 g5 g12.grown,W,g5,g10,g12⟩
def b3F(L:List Cl)(P:Nat)(fast:Bool)(args:List Int)(room:Nat)(r:Ms×Nat):Prop:=∀(w W:World) (E:En) (fp R lim:Nat),a7G E lim P fast L w W fp R (a0R fast L ⟨#[65]⟩ ⟨#[109]⟩ args room)→
 Calls prog 25 #[.pointer (some ⟨R,0,none⟩), .int .i64 5000] W fun e w'=>e= .returned (.int .i64 (r.2:Int))∧∃W0 fps',w.grownBy W0 none∧Mc E W0 [] w' fps' r.1 r.2 [F4 R #[.pointer (some ⟨E.b,0,none⟩)] 133]
theorem b9M(w:World)(hP:a1H w P (A7++fs) true)(hK:Lkd fs)(hT:Hid (ThI w))(fast:Bool)(args:List Int)(aa:Option Addr)(ak:Nat)(har:Hid (B8 w w.heap.size 1 j5 aa args))(han:args.length≤1000000000000)(room:Int)(hpp:L3 (A7++fs) ⟨#[65]⟩ ⟨#[109]⟩=some pp)(hap:m9 (E1 (A7++fs) pp).params args=true)(hr:0≤room∧room≤2000)(r:Ms×Nat)(HRT:b3F (A7++fs) P fast args room.toNat r)(hol:r.1.oc.out.length≤1000000000000):
 Calls prog 48 #[.pointer (some ⟨P,0,none⟩), .bool fast, .slice aa args.length ak, .int .i64 room] w fun e w'=>w.grownBy w' none∧∃v,e= .returned (.tuple #[.agg #[.int .i64 (r.1.oc.kind:Int), .int .i64 r.1.oc.value, .string r.1.oc.cls,v, .int .i64 (r.2:Int)], .bool true])∧w'.ownsRow w.heap.size 3 1 v r.1.oc.out.length (r.1.oc.out.flatMap j5):=by
 obtain⟨w1,hw1⟩:∃w1,w1=w.alloc (.cells #[.int .i64 0, .int .i64 0, .string ⟨#[]⟩, .slice none 0 0, .int .i64 0] 67):=⟨_,rfl⟩
 have hg1:w.grownBy w1 none:=by rw[hw1];exact A2 _ _ _
 have HB1:Hid (A3 w1 w.heap.size #[.int .i64 0, .int .i64 0, .string ⟨#[]⟩, .slice none 0 0, .int .i64 0] 67):=by rw[hw1];exact A3.new w _ _
 have HST:Hid (Calls prog 32 #[.pointer (some ⟨P,0,none⟩), .bool fast, .string ⟨#[65]⟩, .string ⟨#[109]⟩, .slice aa args.length ak, .int .i64 room] w1 fun e w'=>∃lim E fp R,e= .returned (.tuple #[.pointer (some ⟨R,0,none⟩), .int .i64 0])∧a7G E lim P fast (A7++fs) w1 w' fp R (a0R fast (A7++fs) ⟨#[65]⟩ ⟨#[109]⟩ args room.toNat)):=
  b7F w1 (hP.keep hg1) hK (hT.out.keep hg1) fast (fun _=>rfl) _ _ (by decide) (by decide) args aa ak ((har.out.keep hg1).upto hg1.size) han room hpp hap hr
 have HSP:Hid (∀W E fp R lim,w1.grownBy W none→a7G E lim P fast (A7++fs) w1 W fp R (a0R fast (A7++fs) ⟨#[65]⟩ ⟨#[109]⟩ args room.toNat)→Calls prog 25 #[.pointer (some ⟨R,0,none⟩), .int .i64 5000] W fun e w'=>e= .returned (.int .i64 (r.2:Int))∧w1.grownBy w' none∧∃W0 fps',w1.grownBy W0 none∧Mc E W0 [] w' fps' r.1 r.2 [F4 R #[.pointer (some ⟨E.b,0,none⟩)] 133]):=fun W E fp R lim hW hB=>by
  refine(HRT _ W E fp R lim hB).mono ?_;rintro e w' ⟨he,W0,fps',h1,hM⟩;exact⟨he,A1 h1 hM.grown,W0,fps',h1,hM⟩
 have HOU:=A0 (fun W E fps' R W0 (hM:Mc E W0 [] W fps' r.1 r.2 [F4 R #[.pointer (some ⟨E.b,0,none⟩)] 133])=>b9i W R hM hol);have HG1:=C7 hg1;clear hP hK hT har han hpp hap hr HRT hol hg1;obtain⟨na,hna⟩:∃na,na=args.length:=⟨_,rfl⟩
 rw[←hna]at HST⊢;clear hna;rw[hw1]at HST;go_enter func48,ntmps48;go_wp2_with (go_at_call 32;go_loud (refine HST.out.mono ?_;rintro e w2 ⟨lim,E,fp,R,rfl,hBg⟩;rw[←hw1]at hBg;have HBG:=C7 hBg;clear hBg))
 go_wp2_with (go_at_call 25;go_loud (refine(HSP.out _ E fp R lim HBG.out.grown HBG.out).mono ?_;rintro e w3 ⟨rfl,hg3,W0,fps',hg0,hM⟩;have HG3:=C7 hg3;have HM:=C7 hM;clear hg3 hg0 hM))
 go_wp2_with (go_at_call 24;go_loud (refine(HOU.out _ E fps' R W0 HM.out).mono ?_;rintro e w4 ⟨v,rfl,ho4,hg4⟩;obtain⟨va,vk,rfl⟩:=F0 ho4;have HG4:=C7 (A1 HG3.out hg4);have HB4:=C7 ((HB1.out.keep HG3.out A5).keep hg4 A5);have HO4:=C7 ho4;have HS34:=C7 hg4.size;clear hg4 ho4;obtain⟨c0,c1,c2,c3,c4⟩:=HB4.out.q5;obtain⟨z0,z1,z2,z3,z4⟩:=HB4.out.z5))
 all_goals
  clear c0 c1 c2 c3 c4 z0 z1 z2 z3 z4;obtain⟨hb5,hg5⟩:=c4d HB4.out (.int .i64 (r.1.oc.kind:Int)) (.int .i64 r.1.oc.value) (.string r.1.oc.cls) (.slice va r.1.oc.out.length vk) (.int .i64 (r.2:Int));have ho5:_:=HO4.out.kept hg5 (.inr (I4 HO4.out HB4.out (by decide)));have hg6:=D5 (A1 HG1.out HG4.out) hg5 (fun k e=>by cases e;exact .inl (Nat.le_refl _));generalize ((((w4.setCell ⟨w.heap.size,0,none⟩ (.int .i64 (r.1.oc.kind:Int))).setCell ⟨w.heap.size,1,none⟩ (.int .i64 r.1.oc.value)).setCell ⟨w.heap.size,2,none⟩ (.string r.1.oc.cls)).setCell ⟨w.heap.size,3,none⟩ (.slice va r.1.oc.out.length vk)).setCell ⟨w.heap.size,4,none⟩ (.int .i64 (r.2:Int))=W5 at hb5 ho5 hg6⊢;obtain⟨r0,r1,r2,r3,r4⟩:=hb5.q5;have h1:=HG1.out.size;have h2:=HG3.out.size;have ho6:=P3 ho5 (base':=w.heap.size) (by omega);exact bodyPost_ret (v:= .tuple #[.agg #[.int .i64 (r.1.oc.kind:Int), .int .i64 r.1.oc.value, .string r.1.oc.cls, .slice va r.1.oc.out.length vk, .int .i64 (r.2:Int)], .bool true]) (by simp[results,results48,go_sem,r0,r1,r2,r3,r4]) rfl ⟨hg6,_,rfl,ho6⟩
end Kx
namespace Cf
section
variable{L:List Cl}{c:ByteArray}{m:Me}
def leB(l:List Cl)(a b:List Ty):Bool:=decide (a.length=b.length)&&(List.range a.length).all fun j=>D4 l (a.getD j B1) (b.getD j B1)
theorem b3j{a b:List Ty}(h:leB L a b=true):a0X L a b:=by
 unfold leB at h;simp only[Bool.and_eq_true,decide_eq_true_eq,List.all_eq_true,List.mem_range]at h;exact h
def okB(l:List Cl)(t:Ty):Bool:=decide (t.kind≤5)&&(if t.kind=2∨t.kind=4 then(C3 l t.name).isSome else decide (t.name=C5))
theorem c2k{t:Ty}(h:okB L t=true):D6 L t:=by
 unfold okB at h;simp only[Bool.and_eq_true,decide_eq_true_eq]at h;refine⟨h.1,?_⟩;have h:=h.2;split
 ·rename_i e;rw[if_pos e]at h;exact Option.isSome_iff_exists.1 h
 ·rename_i e;rw[if_neg e]at h;exact of_decide_eq_true h
def a1Z(l:List Cl)(m:Me)(hs:List (Option Nat))(T:List (List Ty))(a h:Nat):Bool:=
 j6 l m a h&&(decide (m.stack≠0)||m.handlers.isEmpty)&&(a1E l m a h).all (fun p=>decide (hs.getD p.1 none=some p.2))&&
 decide ((T.getD a []).length=m.locals+h)&&(T.getD a []).all (okB l)&&(a2N l m a).all (fun q=>leB l (q.2 (T.getD a [])) (T.getD q.1 []))&&U1 l m (A6 m a) ((T.getD a []).drop m.locals) ((T.getD a []).take m.locals)
def a7D(l:List Cl)(c:ByteArray)(m:Me)(hs:List (Option Nat))(T:List (List Ty)):Bool:=
 (l7 l m).isNone&&decide (hs.length=m.code.length)&&decide (hs.getD 0 none=some 0)&&leB l (a1n c m) (T.getD 0 [])&&
 (List.range m.code.length).all fun a=>match hs.getD a none with|none=>true|some h=>a1Z l m hs T a h
theorem b8o(hL:LOk L)(hr:D6 L m.ret)(hi:∀i∈m.code,P0 i){hs:List (Option Nat)}{T:List (List Ty)}(hg:a7D L c m hs T=true){er at_:Nat}(h:V2 L c m er at_):er=0:=by
 unfold a7D at hg;simp only[Bool.and_eq_true,decide_eq_true_eq,List.all_eq_true,List.mem_range]at hg;obtain⟨⟨⟨⟨hc,hlen⟩,h0⟩,hent⟩,hall⟩:=hg;have hco:l7 L m=none:=by simpa using hc
 have hcd:=a7c hco
 have hpl:∀a h,hs.getD a none=some h→a1Z L m hs T a h=true:=fun a h e=>by
  have ha:a<m.code.length:=by
   rw[←hlen];rcases Nat.lt_or_ge a hs.length with g|g
   ·exact g
   ·rw[List.getD_eq_getElem?_getD,List.getElem?_eq_none g]at e;cases e
  have:=hall a ha;rw[e]at this;exact this
 have hre:∀{a h},F9 L m a h→hs.getD a none=some h:=fun{a h} hR=>a6P (S:=fun a h=>hs.getD a none=some h) ⟨h0,fun a h e p hp=>by
  have:=hpl a h e;unfold a1Z at this;simp only[Bool.and_eq_true,decide_eq_true_eq,List.all_eq_true]at this;exact this.1.1.1.1.2 p hp⟩ hR
 have hP:∀{a h},F9 L m a h→a1Z L m hs T a h=true:=fun hR=>hpl _ _ (hre hR)
 unfold V2 at h;rw[hco]at h;obtain⟨o,ho,h⟩:=h;cases o with
 |some a=>
  exfalso;rcases ho.2.1 with⟨h,hR,hb⟩|⟨⟨d,hd,-⟩,⟨h,hR⟩,h0⟩|⟨h,k,hne,h1,h2⟩
  ·have:=hP hR;unfold a1Z at this;simp only[Bool.and_eq_true]at this;rw[this.1.1.1.1.1.1]at hb;cases hb
  ·have:=hP hR;unfold a1Z at this;simp only[Bool.and_eq_true,Bool.or_eq_true,decide_eq_true_eq]at this;rcases this.1.1.1.1.1.2 with g|g
   ·exact g h0
   ·rw[List.isEmpty_iff.1 g]at hd;cases hd
  ·have e1:=hre h1;have e2:=hre h2;rw[e1]at e2;exact hne (Option.some.inj e2)
 |none=>
  obtain⟨T',hT,⟨k,-,-,hR,hf,-⟩|⟨h1,-⟩⟩:=h
  ·exfalso
   have hsol:Sol L c m (fun a=>T.getD a []):=by
    refine⟨fun a h hR=> ?_,fun a h hR=> ?_,b3j hent,fun a h hR q hq=> ?_⟩
    ·have:=hP hR;unfold a1Z at this;simp only[Bool.and_eq_true,decide_eq_true_eq]at this;exact this.1.1.1.2
    ·have:=hP hR;unfold a1Z at this;simp only[Bool.and_eq_true,List.all_eq_true]at this;exact fun t ht=>c2k (this.1.1.2 t ht)
    ·have:=hP hR;unfold a1Z at this;simp only[Bool.and_eq_true,List.all_eq_true]at this;exact b3j (this.1.2 q hq)
   have hle:=hT.least _ hsol _ _ hR;have o1:=hT.sol.ok _ _ hR;have o2:=hsol.ok _ _ hR;have hp:=hP hR;unfold a1Z at hp;simp only[Bool.and_eq_true]at hp;obtain⟨hlt,-⟩:=a1V hcd hi hR;have hmem:A6 m at_∈m.code:=by unfold A6;rw[List.getD_eq_getElem?_getD,List.getElem?_eq_getElem hlt];exact List.getElem_mem _
   have:=b8v hL.wld (fun t ht=>o1 t (List.mem_of_mem_drop ht)) (fun t ht=>o2 t (List.mem_of_mem_drop ht)) (fun t ht=>o1 t (List.mem_of_mem_take ht)) (fun t ht=>o2 t (List.mem_of_mem_take ht)) (b0Q hle _) (b6R hle _) (b9c hL hr (hi _ hmem).1 (hcd.need _ hlt)) hp.2;rw[this]at hf;cases hf
  ·exact h1
end
end Cf
namespace Kx
theorem c0w{fs:List Cl}(hK:Lkd fs)(hg:∀i,i<fs.length→∀m∈(cl fs i).methods,∃hs T,a7D (A7++fs) (cl fs i).name m hs T=true){er f k a:Nat}(h:a3x (A7++fs) fs er f k a):er=0:=by
 rcases h with⟨-,hf,hk,hc,-⟩|⟨h0,-⟩
 ·have hL:=hK.sz.ok;have hm:(cl fs f).methods.getD k I9∈(cl fs f).methods:=by rw[List.getD_eq_getElem?_getD,List.getElem?_eq_getElem hk];exact List.getElem_mem _
  obtain⟨hs,T,hgo⟩:=hg f hf _ hm;have hok:=(hK.1 (cl fs f) (by rw[R8 hf];exact List.getElem_mem _)).methods _ hm;have hty:=hL.tyw.meths (9+f) (by rw[List.length_append];show 9+f<9+_;omega) ((cl fs f).methods.getD k I9) (by rw[T2];exact hm);exact b8o hL hty.1 (fun i hi=>⟨(hok.code i hi).op,fun h=>((hok.code i hi).nn h).1⟩) hgo hc
 ·exact h0
variable {α β:Type}
variable {w:World}
variable {n sz:Nat}
theorem a6b{lim:Nat}{e1:α→List Value}{e2:β→List Value}{g:α→β}(he:∀x,e2 (g x)=e1 x){a:Option Addr}{xs:List α}(h:B8 w lim sz e1 a xs):B8 w lim sz e2 a (xs.map g):=fun j hj=>by
 obtain⟨p,h1,h2,h3⟩:=h j (by simpa using hj);refine⟨p,h1,h2,fun r u hu=>h3 r u ?_⟩;rw[List.getElem_map,he]at hu;exact hu
theorem b2S{g:Nat}{enc:α→List Value}{xs:List α}{cs:Array Value}{t:TypeId}(hb:A3 w g cs t)(hs:∀x,(enc x).length=sz)(hc:cs.toList=xs.flatMap enc):B8 w w.heap.size sz enc (some ⟨g,0,none⟩) xs:=fun j hj=>by
 refine⟨⟨g,0,none⟩,rfl,hb.lt,fun r u hu=> ?_⟩;have hr:r<sz:=by rw[←hs xs[j]];exact(List.getElem?_eq_some_iff.1 hu).1
 have e:(⟨g,0,none⟩:Addr).add (j*sz+r)=⟨g,j*sz+r,none⟩:=by
  unfold Addr.add;split
  ·rename_i h;rw[h]
  ·simp
 rw[e];refine hb.cell _ u ?_;rw[←Array.getElem?_toList,hc,a0T enc sz hs xs j hj r hr];exact hu
def ii(op:Nat)(a:Int):In:=⟨op,a,C5,C5⟩
def xi(op:Nat)(a:Int):XIn:=⟨op,a,C5,C5⟩
def a4g:S5:=⟨⟨#[109]⟩,[⟨1,C5⟩],⟨1,C5⟩,6,4,[xi 2 1,xi 20 0],[]⟩
def Z5:Cl:=⟨⟨#[65]⟩,F2,[],[⟨⟨#[109]⟩,[O1],O1,6,4,[ii 2 1,ii 20 0],[]⟩]⟩
def a7K(r:Except Nat (List UInt8)):List UInt8:=match r with| .ok l=>l| .error _=> []
theorem b9H:enc (a2m a4g)= .ok (a7K (enc (a2m a4g))):=by kernel_rfl
theorem b1U:G7 ⟨(a7K (enc (a2m a4g))).toArray⟩= .ok Z5:=by kernel_rfl
theorem b1T:P1 [Z5]= .ok ():=by kernel_rfl
theorem b8h:a7D (A7++ [Z5]) ⟨#[65]⟩ ⟨⟨#[109]⟩,[O1],O1,6,4,[ii 2 1,ii 20 0],[]⟩ [some 0,some 1] [[D7 ⟨#[65]⟩,O1,B1,B1],[D7 ⟨#[65]⟩,O1,B1,B1,O1]]=true:=by kernel_rfl
theorem b8g:L3 (A7++ [Z5]) ⟨#[65]⟩ ⟨#[109]⟩=some (9,0):=by kernel_rfl
theorem b9I:m9 (E1 (A7++ [Z5]) (9,0)).params [-5]=true:=by kernel_rfl
theorem a9a(fast:Bool):(T5 fast (A7++ [Z5]) 5000 (a0R fast (A7++ [Z5]) ⟨#[65]⟩ ⟨#[109]⟩ [-5] 0)).1.oc=⟨1,-5,C5,[]⟩∧(T5 fast (A7++ [Z5]) 5000 (a0R fast (A7++ [Z5]) ⟨#[65]⟩ ⟨#[109]⟩ [-5] 0)).2=2:=by
 cases fast
 ·exact⟨by kernel_rfl,by kernel_rfl⟩
 ·exact⟨by kernel_rfl,by kernel_rfl⟩
theorem c1T:G7 ⟨#[87,50]⟩= .error (3,1):=by kernel_rfl
theorem b9G:(a7K (enc (a2m a4g))).length≤maxLen:=by decide
theorem a7k:Lkd [Z5]:=by
 refine⟨?_,b1T,by decide⟩
 have:=a5M (files:=[⟨(a7K (enc (a2m a4g))).toArray⟩]) (fs:=[Z5]) rfl (fun i hi=>by
  have:i=0:=by simpa using hi
  subst this;exact b1U)
 exact this
theorem b2E:∀m∈Z5.methods,Me2 m:=fun m hm=>⟨by rw[List.mem_singleton.1 hm];exact Nat.le_refl 0,fun x hx=>by
 rw[List.mem_singleton.1 hm]at hx;have hx:x∈ [ii 2 1,ii 20 0]:=hx;simp only[List.mem_cons,List.not_mem_nil,or_false]at hx;rcases hx with rfl|rfl
 ·exact .inl rfl
 ·exact .inr rfl⟩
variable {s:ByteArray}
theorem a6n(h:s.size≤12):l6 s:=Nat.le_trans h (by decide)
def nB(n:Int):Bool:=decide (-9223372036854775808≤n)&&decide (n≤9223372036854775807)
def sB(s:ByteArray):Bool:=decide (s.size≤12)
theorem a3z{n:Int}(h:nB n=true):a0Y n:=by
 unfold nB at h;simp only[Bool.and_eq_true,decide_eq_true_eq]at h;exact h
theorem a6f(h:sB s=true):l6 s:=a6n (of_decide_eq_true h)
def iB(i:XIn):Bool:=nB i.op&&nB i.a&&sB i.cls&&sB i.mem
def dB(d:XHd):Bool:=nB d.from_&&nB d.to&&nB d.at_&&sB d.cls
def pB(p:n9):Bool:=nB p.kind&&sB p.name
def mB(m:S5):Bool:=sB m.name&&pB m.ret&&nB m.stack&&nB m.locals&&m.params.all pB&&m.code.all iB&&m.handlers.all dB
variable {m:S5}
theorem c3j(h:mB m=true):a4k m:=by
 unfold mB at h;simp only[Bool.and_eq_true,List.all_eq_true]at h;obtain⟨⟨⟨⟨⟨⟨h1,h2⟩,h3⟩,h4⟩,h5⟩,h6⟩,h7⟩:=h
 have hp:∀p,pB p=true→a0Y p.kind∧l6 p.name:=fun p hp=>by
  unfold pB at hp;have:=Bool.and_eq_true_iff.1 hp;exact⟨a3z this.1,a6f this.2⟩
 refine⟨a6f h1,hp _ h2,a3z h3,a3z h4,fun j hj=>hp _ (h5 _ (List.getElem_mem hj)),fun j hj=> ?_,fun j hj=> ?_⟩
 ·have:=h6 _ (List.getElem_mem hj);unfold iB at this;simp only[Bool.and_eq_true]at this;exact⟨a3z this.1.1.1,a3z this.1.1.2,a6f this.1.2,a6f this.2⟩
 ·have:=h7 _ (List.getElem_mem hj);unfold dB at this;simp only[Bool.and_eq_true]at this;exact⟨a3z this.1.1.1,a3z this.1.1.2,a3z this.1.2,a6f this.2⟩
theorem c1d(h:mB m=true):a1K (a2m m):=⟨a6n (show(⟨#[65]⟩:ByteArray).size≤12 by decide),a6n (show F2.size≤12 by decide),fun j hj=>(by cases hj),fun j hj=>by
 have:j=0:=by
  have:j<1:=hj;omega
 subst this;exact c3j h⟩
theorem b8j(w:World)(hS:Hid (O4 w))(hBin:Hid (Bin w))(hT:Hid (ThI w))(HR:∀(fast:Bool) (P:Nat),a3r (A7++ [Z5])→b3F (A7++ [Z5]) P fast [-5] 0 (T5 fast (A7++ [Z5]) 5000 (a0R fast (A7++ [Z5]) ⟨#[65]⟩ ⟨#[109]⟩ [-5] 0))):
 Calls prog 16 #[] w fun e w'=>e= .returned (.bool true)∧w.grownBy w' none:=by
 obtain⟨L,hL⟩:∃L,L=A7++ [Z5]:=⟨_,rfl⟩
 have HIN:=A0 b9N
 have HME:Hid (∀(W:World) (B:Nat),w.grownBy W none→A3 W B #[.int .i64 2, .int .i64 1, .string ⟨#[]⟩, .string ⟨#[]⟩, .int .i64 20, .int .i64 0, .string ⟨#[]⟩, .string ⟨#[]⟩] 120→Calls prog 46 #[.string ⟨#[109]⟩, .int .i64 1, .slice (some ⟨B,0,none⟩) 2 2, .slice none 0 0] W fun e w'=>W.grownBy w' none∧∃pa pk,e= .returned (.agg #[.string ⟨#[109]⟩, .slice pa 1 pk, .int .i64 1, .string ⟨#[]⟩, .int .i64 6, .int .i64 4, .slice (some ⟨B,0,none⟩) 2 2, .slice none 0 0])∧
  Calls prog 45 #[.agg #[.string ⟨#[109]⟩, .slice pa 1 pk, .int .i64 1, .string ⟨#[]⟩, .int .i64 6, .int .i64 4, .slice (some ⟨B,0,none⟩) 2 2, .slice none 0 0]] w' fun e2 w2=>w'.grownBy w2 none∧∃P,e2= .returned (.pointer (some ⟨P,0,none⟩))∧a3r L∧a1H w2 P L true):=fun W B hW hb=>by
  refine(b5P W ⟨#[109]⟩ 1 (by decide) (some ⟨B,0,none⟩) none 2 2 0 0).mono ?_;rintro e w' ⟨pv,rfl,ho,hg⟩;obtain⟨pa,pk,rfl⟩:=F0 ho;refine⟨hg,pa,pk,rfl,?_⟩;have hp:=a6b (e2:=X8) (g:=Cf.X8) (fun _=>rfl) (a1B (fun _=>rfl) ho);have hc:B8 w' w'.heap.size 4 xIn (some ⟨B,0,none⟩) a4g.code:=b2S (hb.keep hg A5) (fun _=>rfl) rfl
  have:=b6T w' (hS.out.keep (A1 hW hg) (by simp)) (hBin.out.keep (A1 hW hg)) a4g pa (some ⟨B,0,none⟩) none pk 2 0 hp hc (fun j hj=>(by cases hj)) (c1d (by decide)) (by decide) Z5 _ b9H b1U b9G b2E b1T (fun er f k a hA=>c0w a7k (fun i hi m hm=>by
   have:i=0:=by simpa using hi
   subst this;rw[List.mem_singleton.1 hm];exact⟨_,_,b8h⟩) hA)
  refine this.mono ?_;rintro e2 w2 ⟨g1,P,g2,-,g3,g4⟩;rw[hL];exact⟨g1,P,g2,g3,g4⟩
 have HRA:Hid (∀(W:World) (P B:Nat) (fast:Bool),w.grownBy W none→a3r L→a1H W P L true→A3 W B #[.int .i64 (-5)] 3→Calls prog 48 #[.pointer (some ⟨P,0,none⟩), .bool fast, .slice (some ⟨B,0,none⟩) 1 1, .int .i64 0] W fun e w'=>W.grownBy w' none∧∃va vk,e= .returned (.tuple #[.agg #[.int .i64 1, .int .i64 (-5), .string ⟨#[]⟩, .slice va 0 vk, .int .i64 2], .bool true])):=fun W P B fast hW hA hP hb=>by
  rw[hL]at hP hA;have:=b9M W hP a7k (hT.out.keep hW) fast [-5] (some ⟨B,0,none⟩) 1 (b2S hb (fun _=>rfl) rfl) (by decide) 0 b8g b9I (by decide) _ (HR fast P hA) (by rw[(a9a fast).1];exact Nat.zero_le _);rw[(a9a fast).1,(a9a fast).2]at this;refine this.mono ?_;rintro e w' ⟨hg,v,rfl,ho⟩;obtain⟨va,vk,rfl⟩:=F0 ho;exact⟨hg,va,vk,rfl⟩
 have HDE:Hid (∀W,w.grownBy W none→Calls prog 18 #[.string ⟨#[87,50]⟩] W fun e w'=>W.grownBy w' none∧e= .returned (.tuple #[.agg #[.string ⟨#[]⟩, .string ⟨#[]⟩, .slice none 0 0, .slice none 0 0], .int .i64 3, .int .i64 1])):=fun W hW=>by
  have:=a6M W ⟨#[87,50]⟩ (by decide) (hS.out.keep hW (by simp));rw[c1T]at this;exact this.mono (fun e w' h=>a4v h)
 clear hS hBin hT hL HR;go_enter func16,ntmps16
 go_wp2_with (first
  |(go_at_call 45;go_loud (refine HBU.out.mono ?_;rintro e w4 ⟨hg4,P,rfl,hch,hpr⟩;have HG4:=C7 (A1 HG3.out hg4);have HCH:=C7 hch;have HPR:=C7 hpr;clear hg4 hch hpr))
  |(go_at_call 46;go_loud (refine(HME.out (w2.alloc (.cells #[.int .i64 2, .int .i64 1, .string ⟨#[]⟩, .string ⟨#[]⟩, .int .i64 20, .int .i64 0, .string ⟨#[]⟩, .string ⟨#[]⟩] 120)) w2.heap.size (A1 (A1 hg1 hg2) (A2 _ _ none)) (A3.new w2 _ _)).mono ?_;rintro e w3 ⟨hg3,pa,pk,rfl,hbu⟩;have HG3:=C7 (A1 (A1 (A1 hg1 hg2) (A2 _ _ none)) hg3);have HBU:=C7 hbu;clear hg1 hg2 hg3 hbu))
  |(have q1:=hg1;go_at_call 47;refine(HIN.out _ _ _).mono ?_;rintro e w2 ⟨rfl,hg2⟩)
  |(go_at_call 47;refine(HIN.out _ _ _).mono ?_;rintro e w1 ⟨rfl,hg1⟩))
 go_upto_region 3 with(go_at_call 48;go_loud (refine(HRA.out (w4.alloc (.cells #[.int .i64 (-5)] 3)) P w4.heap.size false (A1 HG4.out (A2 _ _ none)) HCH.out (HPR.out.keep (A2 _ _ none)) (A3.new w4 _ _)).mono ?_;rintro e w5 ⟨hg5,va,vk,rfl⟩;have HG6:=C7 (A1 (A1 (A1 HG4.out (A2 _ _ none)) hg5) (A2 w5 (.cells #[.int .i64 1, .int .i64 (-5), .string ⟨#[]⟩, .slice va 0 vk, .int .i64 2] 67) none));have HPR6:=C7 (((HPR.out.keep (A2 _ _ none)).keep hg5).keep (A2 w5 (.cells #[.int .i64 1, .int .i64 (-5), .string ⟨#[]⟩, .slice va 0 vk, .int .i64 2] 67) none));have HB6:=C7 (A3.new w5 #[.int .i64 1, .int .i64 (-5), .string ⟨#[]⟩, .slice va 0 vk, .int .i64 2] 67);clear hg5))
 have HRB:=HRA.out ((w5.alloc (.cells #[.int .i64 1, .int .i64 (-5), .string ⟨#[]⟩, .slice va 0 vk, .int .i64 2] 67)).alloc (.cells #[.int .i64 (-5)] 3)) P (w5.alloc (.cells #[.int .i64 1, .int .i64 (-5), .string ⟨#[]⟩, .slice va 0 vk, .int .i64 2] 67)).heap.size true (A1 HG6.out (A2 _ _ none)) HCH.out (HPR6.out.keep (A2 _ _ none)) (A3.new _ _ _);rw[World.size_alloc]at HRB;have HRB:=C7 HRB;go_upto_region 4 with(go_at_call 48;go_loud (refine HRB.out.mono ?_;rintro e w7 ⟨hg7,va2,vk2,rfl⟩;have HG8:=C7 (A1 (A1 (A1 HG6.out (A2 _ _ none)) hg7) (A2 w7 (.cells #[.int .i64 1, .int .i64 (-5), .string ⟨#[]⟩, .slice va2 0 vk2, .int .i64 2] 67) none));have HB8:=C7 (((HB6.out.keep (A2 _ (.cells #[.int .i64 (-5)] 3) none) A5).keep hg7 A5).keep (A2 w7 (.cells #[.int .i64 1, .int .i64 (-5), .string ⟨#[]⟩, .slice va2 0 vk2, .int .i64 2] 67) none) A5);have HD8:=C7 (A3.new w7 #[.int .i64 1, .int .i64 (-5), .string ⟨#[]⟩, .slice va2 0 vk2, .int .i64 2] 67);clear hg7))
 clear HRB;go_upto_region 5 with(go_at_call 18;go_loud (refine(HDE.out _ HG8.out).mono ?_;rintro e w9 ⟨hg9,rfl⟩;have HG9:=C7 (A1 HG8.out hg9);have HB9:=C7 (HB8.out.keep hg9 A5);have HD9:=C7 (HD8.out.keep hg9 A5);clear hg9))
 have hB:=HB9.out.keep (A2 w9 (.cells #[.string ⟨#[]⟩, .string ⟨#[]⟩, .slice none 0 0, .slice none 0 0] 44) none) A5;have hD:=HD9.out.keep (A2 w9 (.cells #[.string ⟨#[]⟩, .string ⟨#[]⟩, .slice none 0 0, .slice none 0 0] 44) none) A5;have hG:=A1 HG9.out (A2 w9 (.cells #[.string ⟨#[]⟩, .string ⟨#[]⟩, .slice none 0 0, .slice none 0 0] 44) none);generalize w9.alloc (.cells #[.string ⟨#[]⟩, .string ⟨#[]⟩, .slice none 0 0, .slice none 0 0] 44)=W10 at hB hD hG⊢;obtain⟨k0,k1⟩:=hB.q2;have k4:=hB.c4;obtain⟨e0,e1⟩:=hD.q2;have HG10:=C7 hG;clear hB hD hG;go_wp2_with fail
 go_ret;exact⟨rfl,HG10.out⟩
theorem c1C{c:Y9}(h:enc c= .error n):n≠0:=by
 unfold enc at h;split at h
 ·cases h;omega
 ·split at h
  ·cases h;omega
  ·simp only at h;split at h
   ·cases h;omega
   ·cases h
theorem a9z{t:n9}(h:((a0Z t).kind:Int)=t.kind):Cf.X8 (a0Z t)=t:=by
 obtain⟨k,n⟩:=t;have h:((k.toNat:Nat):Int)=k:=h;show n9.mk (k.toNat:Nat) n=_;rw[h]
theorem a5Q{f:α→β}{g:β→α}{l:List α}(h:∀x∈l,g (f x)=x):(l.map f).map g=l:=by
 rw[List.map_map];exact(List.map_congr_left (fun x hx=>h x hx)).trans (List.map_id l)
theorem c1Q(h:MeK m):Cf.xMe (a6m m)=m:=by
 obtain⟨n,ps,r,st,lo,co,ha⟩:=m;obtain⟨k1,k2,k3,k4,k5,k6⟩:=h;have h1:(ps.map a0Z).map Cf.X8=ps:=a5Q fun t ht=>a9z (k1 t ht)
 have h2:(co.map a5j).map Cf.xIn=co:=a5Q fun t ht=>by
  obtain⟨a,b,c,d⟩:=t;have h:((a.toNat:Nat):Int)=a:=k5 ⟨a,b,c,d⟩ ht;show XIn.mk (a.toNat:Nat) b c d=_;rw[h]
 have h3:(ha.map a2k).map Cf.xHd=ha:=a5Q fun t ht=>by
  obtain⟨a,b,c,d⟩:=t;obtain⟨g1,g2,g3⟩:=k6 ⟨a,b,c,d⟩ ht;have g1:((a.toNat:Nat):Int)=a:=g1;have g2:((b.toNat:Nat):Int)=b:=g2;have g3:((c.toNat:Nat):Int)=c:=g3;show XHd.mk (a.toNat:Nat) (b.toNat:Nat) (c.toNat:Nat) d=_;rw[g1,g2,g3]
 have h4:((st.toNat:Nat):Int)=st:=k3;have h5:((lo.toNat:Nat):Int)=lo:=k4;show S5.mk n ((ps.map a0Z).map Cf.X8) (Cf.X8 (a0Z r)) (st.toNat:Nat) (lo.toNat:Nat) ((co.map a5j).map Cf.xIn) ((ha.map a2k).map Cf.xHd)=_;rw[h1,h2,h3,h4,h5,a9z k2]
variable {c:Cl}
theorem a9R{b:Nat}{q:Qs}(h:LC w b q c):B8 w w.heap.size 3 a0a q.fa (P8 c).fields∧l8 w w.heap.size q.ma (P8 c).methods:=by
 obtain⟨h1,h2⟩:=h.rd;refine⟨a6b (fun _=>rfl) h1,fun j hj=> ?_⟩;have hj2:j<c.methods.length:=by simpa[P8]using hj
 obtain⟨p,pa,ca,ha,pk,ck,hk,g1,g2,g3,g4,g5,g6⟩:=h2 j hj2;have e:c.methods.getD j I9=c.methods[j]:=by rw[List.getD_eq_getElem?_getD,List.getElem?_eq_getElem hj2];rfl
 rw[e]at g3 g4 g5 g6;have e2:(P8 c).methods[j]=Cf.xMe c.methods[j]:=by simp[P8]
 rw[e2];refine⟨p,pa,ca,ha,pk,ck,hk,g1,g2,a6b (fun _=>rfl) g3,a6b (fun _=>rfl) g4,a6b (fun _=>rfl) g5,fun r u hu=>g6 r u ?_⟩;unfold mv;simpa[Cf.xMe,Cf.X8]using hu
theorem a3Z(h:n<65536):a0Y (n:Int):=⟨by omega,by omega⟩
theorem a3T(h:E3 s=true):l6 s:=a6n (a1j h)
theorem a9D(h:s=C5∨E3 s=true):l6 s:=h.elim (fun e=>by rw[e];exact a6n (by decide)) a3T
theorem a9O{t:Ty}(h:a0l t):a4j (Cf.X8 t):=by
 obtain⟨h1,h2,h3⟩:=h;refine⟨a3Z (n:=t.kind) (by omega),?_⟩;by_cases e:t.name=C5
 ·exact a9D (.inl e)
 ·exact a3T (h3 e)
theorem c4k{m:Me}(h:a5l m):a4k (Cf.xMe m):=by
 have hs:=h.stack;have hl:=h.locals;refine⟨a3T h.name,a9O h.ret,a3Z (n:=m.stack) (by omega),a3Z (n:=m.locals) (by omega),fun j hj=> ?_,fun j hj=> ?_,fun j hj=> ?_⟩
 ·have hj2:j<m.params.length:=by simpa[Cf.xMe]using hj
  have e:(Cf.xMe m).params[j]=Cf.X8 m.params[j]:=by simp[Cf.xMe]
  rw[e];exact a9O (h.params _ (List.getElem_mem hj2))
 ·have hj2:j<m.code.length:=by simpa[Cf.xMe]using hj
  have e:(Cf.xMe m).code[j]=Cf.xIn m.code[j]:=by simp[Cf.xMe]
  have hi:=h.code _ (List.getElem_mem hj2);have:=hi.op;have h2:=hi.lo;have h3:=hi.hi;rw[e];exact⟨a3Z (n:=m.code[j].op) (by omega),⟨by show _≤m.code[j].a;omega,by show m.code[j].a≤_;omega⟩,a9D hi.cls,a9D hi.mem⟩
 ·have hj2:j<m.handlers.length:=by simpa[Cf.xMe]using hj
  have e:(Cf.xMe m).handlers[j]=Cf.xHd m.handlers[j]:=by simp[Cf.xMe]
  have hi:=h.handlers _ (List.getElem_mem hj2);have h1:=hi.from_;have h2:=hi.to;have h3:=hi.at_;rw[e];exact⟨a3Z h1,a3Z h2,a3Z h3,a3T hi.cls⟩
theorem c4D(h:S3 c):a1K (P8 c):=by
 refine⟨a3T h.name,a3T h.super,fun j hj=> ?_,fun j hj=> ?_⟩
 ·have hj2:j<c.fields.length:=by simpa[P8]using hj
  have e:(P8 c).fields[j]=Cf.a0a c.fields[j]:=by simp[P8]
  have hf:=h.fields _ (List.getElem_mem hj2);rw[e];exact⟨a3T hf.1,a9O hf.2⟩
 ·have hj2:j<c.methods.length:=by simpa[P8]using hj
  have e:(P8 c).methods[j]=Cf.xMe c.methods[j]:=by simp[P8]
  rw[e];exact c4k (h.methods _ (List.getElem_mem hj2))
theorem a5L:∀{ms:List Me},(∀m∈ms,a5l m)→o9 (ms.map Cf.xMe)≤ms.length*400000
 | [],_=>Nat.zero_le _
 |m::ms,h=>by
  have ih:=a5L (fun x hx=>h x (List.mem_cons_of_mem _ hx));have hm:=h m List.mem_cons_self;have h1:=hm.np;have h2:=hm.nc;have h3:=hm.nh;have e:o9 ((m::ms).map Cf.xMe)=a1o (Cf.xMe m)+o9 (ms.map Cf.xMe):=by unfold o9;simp
  have e2:a1o (Cf.xMe m)=12+3*m.params.length+5*m.code.length+5*m.handlers.length:=by unfold a1o Cf.xMe;simp
  rw[e,e2,List.length_cons,Nat.succ_mul];omega
theorem c2O(h:S3 c):a0U (P8 c)≤2^40:=by
 have h1:=a5L h.methods;have h2:=h.nf;have h3:=h.nm;have e:a0U (P8 c)=10+5*c.fields.length+o9 (c.methods.map Cf.xMe):=by unfold a0U P8;simp
 rw[e];have:c.methods.length*400000≤255*400000:=Nat.mul_le_mul_right _ (by omega);omega
theorem c1R{c:Y9}(h:ClK c):P8 (a3A c)=c:=by
 obtain⟨n,s,fs,ms⟩:=c
 have h1:(fs.map a5d).map Cf.a0a=fs:=a5Q fun f hf=>by
  obtain⟨fn,ft⟩:=f;show a1v.mk fn (Cf.X8 (a0Z ft))=_;rw[a9z (h.1 ⟨fn,ft⟩ hf)]
 have h2:(ms.map a6m).map Cf.xMe=ms:=a5Q fun m hm=>c1Q (h.2 m hm)
 show Y9.mk n s ((fs.map a5d).map Cf.a0a) ((ms.map a6m).map Cf.xMe)=_;rw[h1,h2]
theorem c4T(w:World)(c:Y9)(fa ma:Option Addr)(fk mk:Nat)(F:ByteArray)(hF:F.size≤maxLen)(hok:Hid (a1K c))(hco:a0U c≤2^40)(hS:Hid (O4 w))(HAL:Hid (∀W,w.grownBy W none→Calls prog 16 #[] W fun e w'=>e= .returned (.bool true)∧W.grownBy w' none))(hrf:Hid (B8 w w.heap.size 3 a0a fa c.fields))(hrm:Hid (l8 w w.heap.size ma c.methods)):
 Calls prog 8 #[.agg #[.string c.name, .string c.super, .slice fa c.fields.length fk, .slice ma c.methods.length mk], .string F] w fun e w'=>e= .returned (.bool true)∧w.grownBy w' none:=by
 obtain⟨S,hSS⟩:∃S,S=a5e (enc c):=⟨_,rfl⟩
 obtain⟨ec,hEE⟩:∃ec,ec=a7A (enc c):=⟨_,rfl⟩
 obtain⟨nf,hnf⟩:∃nf,nf=c.fields.length:=⟨_,rfl⟩
 obtain⟨nm,hnm⟩:∃nm,nm=c.methods.length:=⟨_,rfl⟩
 have HEN:Hid (∀W,w.grownBy W none→Calls prog 17 #[.agg #[.string c.name, .string c.super, .slice fa nf fk, .slice ma nm mk]] W fun e w'=>e= .returned (.tuple #[.string S, .int .i64 (ec:Nat)])∧W.grownBy w' none):=fun W hW=>by
  rw[hSS,hEE,hnf,hnm];exact a8q W w.heap.size c fa ma fk mk hW.size hok hco (hS.out.keep hW (by simp)) (hrf.out.keep hW) (hrm.out.keep hW)
 have HDE:Hid (∀W (f:ByteArray),w.grownBy W none→f.size≤maxLen→Calls prog 18 #[.string f] W (a7w W (G7 f))):=fun W f hW hf=>a6M W f hf (hS.out.keep hW (by simp))
 have HEX:Hid (∀W (x:Cl) (f3 m3:Option Addr) (k3 j3:Nat),S3 x→w.grownBy W none→B8 W W.heap.size 3 a0a f3 (P8 x).fields→l8 W W.heap.size m3 (P8 x).methods→Calls prog 17 #[.agg #[.string x.name, .string x.super, .slice f3 x.fields.length k3, .slice m3 x.methods.length j3]] W fun e w'=>e= .returned (.tuple #[.string (a5e (enc (P8 x))), .int .i64 (a7A (enc (P8 x)):Nat)])∧W.grownBy w' none):=fun W x f3 m3 k3 j3 hx hW h1 h2=>by
  have:=a8q W W.heap.size (P8 x) f3 m3 k3 j3 (Nat.le_refl _) (c4D hx) (c2O hx) (hS.out.keep hW (by simp)) h1 h2;have e1:(P8 x).fields.length=x.fields.length:=by simp[P8]
  have e2:(P8 x).methods.length=x.methods.length:=by simp[P8]
  rw[e1,e2]at this;exact this
 rw[←hnf,←hnm];cases henc:enc c with
 |error n=>
  have HDS:Hid (∀W,w.grownBy W none→Calls prog 18 #[.string S] W fun e w'=>W.grownBy w' none∧∃v1 v2,e= .returned (.tuple #[.agg #[.string ⟨#[]⟩, .string ⟨#[]⟩, .slice none 0 0, .slice none 0 0], .int .i64 v1, .int .i64 v2])):=fun W hW=>by
   have:=HDE.out W S hW (by rw[hSS,henc];exact Nat.zero_le _);rw[hSS,henc]at this⊢;have hd0:G7 (a5e (.error n))= .error (2,0):=by kernel_rfl
   rw[hd0]at this;exact this.mono (fun e w' h=>⟨(a4v h).1,_,_,(a4v h).2⟩)
  have e0:((ec:Nat):Int)≠0:=by rw[hEE,henc];have:=c1C henc;show((n:Nat):Int)≠0;omega
  have s0:S=⟨#[]⟩:=by rw[hSS,henc];rfl
  cases hdec:G7 F with
  |error er=>
   have hn:=a5W hdec;have f0:(er.1:Int)≠0:=by omega
   have HDF:Hid (∀W,w.grownBy W none→Calls prog 18 #[.string F] W fun e w'=>W.grownBy w' none∧e= .returned (.tuple #[.agg #[.string ⟨#[]⟩, .string ⟨#[]⟩, .slice none 0 0, .slice none 0 0], .int .i64 (er.1:Nat), .int .i64 (er.2:Nat)])):=fun W hW=>by
    have:=HDE.out W F hW hF;rw[hdec]at this;exact this.mono (fun e w' h=>a4v h)
   clear hF hok hco hS hrf hrm HDE HEX hSS hEE hnf hnm henc hdec;subst s0;go_enter func8,ntmps8
   go_upto_region 3 with(first
    |(go_at_call 17;go_loud (refine(HEN.out _ HG1.out).mono ?_;rintro e w2 ⟨rfl,hg2⟩;have HG2:=C7 (A1 HG1.out hg2);have HB2:=C7 (HB1.out.keep hg2 A5);clear hg2))
    |(go_at_call 16;go_loud (refine(HAL.out _ (A2 _ _ none)).mono ?_;rintro e w1 ⟨rfl,hg1⟩;have HG1:=C7 (A1 (A2 w (.cells #[.string c.name, .string c.super, .slice fa nf fk, .slice ma nm mk] 44) none) hg1);have HB1:=C7 ((A3.new w #[.string c.name, .string c.super, .slice fa nf fk, .slice ma nm mk] 44).keep hg1 A5);obtain⟨b0,b1,b2,b3⟩:=HB1.out.q4;clear hg1)))
   clear b0 b1 b2 b3;go_upto_region 4 with(go_at_call 18;go_loud (refine(HDS.out _ HG2.out).mono ?_;rintro e w3 ⟨hg3,v1,v2,rfl⟩;have HG5:=C7 (A1 (A1 HG2.out hg3) (A2 w3 (.cells #[.string ⟨#[]⟩, .string ⟨#[]⟩, .slice none 0 0, .slice none 0 0] 44) none));clear hg3))
   generalize w3.alloc (.cells #[.string ⟨#[]⟩, .string ⟨#[]⟩, .slice none 0 0, .slice none 0 0] 44)=w5 at HG5⊢;go_upto_region 8 with fail
   exact a2t
  |ok x=>
   have HDF:Hid (∀W,w.grownBy W none→Calls prog 18 #[.string F] W fun e w'=>W.grownBy w' none∧∃xn xs f3 xf k3 m3 xm j3,e= .returned (.tuple #[.agg #[.string xn, .string xs, .slice f3 xf k3, .slice m3 xm j3], .int .i64 0, .int .i64 0])∧∀W',w'.grownBy W' none→Calls prog 17 #[.agg #[.string xn, .string xs, .slice f3 xf k3, .slice m3 xm j3]] W' fun e w'=>e= .returned (.tuple #[.string F, .int .i64 0])∧W'.grownBy w' none):=fun W hW=>by
    exact a2r
   clear hF hok hco hS hrf hrm HDE HEX hSS hEE hnf hnm henc hdec;subst s0;go_enter func8,ntmps8
   go_upto_region 3 with(first
    |(go_at_call 17;go_loud (refine(HEN.out _ HG1.out).mono ?_;rintro e w2 ⟨rfl,hg2⟩;have HG2:=C7 (A1 HG1.out hg2);have HB2:=C7 (HB1.out.keep hg2 A5);clear hg2))
    |(go_at_call 16;go_loud (refine(HAL.out _ (A2 _ _ none)).mono ?_;rintro e w1 ⟨rfl,hg1⟩;have HG1:=C7 (A1 (A2 w (.cells #[.string c.name, .string c.super, .slice fa nf fk, .slice ma nm mk] 44) none) hg1);have HB1:=C7 ((A3.new w #[.string c.name, .string c.super, .slice fa nf fk, .slice ma nm mk] 44).keep hg1 A5);obtain⟨b0,b1,b2,b3⟩:=HB1.out.q4;clear hg1)))
   clear b0 b1 b2 b3;go_upto_region 4 with(go_at_call 18;go_loud (refine(HDS.out _ HG2.out).mono ?_;rintro e w3 ⟨hg3,v1,v2,rfl⟩;have HG5:=C7 (A1 (A1 HG2.out hg3) (A2 w3 (.cells #[.string ⟨#[]⟩, .string ⟨#[]⟩, .slice none 0 0, .slice none 0 0] 44) none));clear hg3))
   generalize w3.alloc (.cells #[.string ⟨#[]⟩, .string ⟨#[]⟩, .slice none 0 0, .slice none 0 0] 44)=w5 at HG5⊢;go_upto_region 8 with fail
   exact a1e
 |ok l=>
  obtain⟨hdx,hck,hl⟩:=c1G henc
  have HDS:Hid (∀W,w.grownBy W none→Calls prog 18 #[.string S] W fun e w'=>W.grownBy w' none∧∃f2 k2 m2 j2,e= .returned (.tuple #[.agg #[.string c.name, .string c.super, .slice f2 nf k2, .slice m2 nm j2], .int .i64 0, .int .i64 0])∧∀W',w'.grownBy W' none→Calls prog 19 #[.agg #[.string c.name, .string c.super, .slice fa nf fk, .slice ma nm mk], .agg #[.string c.name, .string c.super, .slice f2 nf k2, .slice m2 nm j2]] W' fun e w'=>e= .returned (.bool true)∧W'.grownBy w' none):=fun W hW=>by
   have:=HDE.out W S hW (by rw[hSS,henc];show l.toArray.size≤_;rw[List.size_toArray];exact Nat.le_trans hl (by decide));rw[hSS,henc]at this⊢;have hdx:G7 (a5e (.ok l))= .ok (a3A c):=hdx;rw[hdx]at this;refine this.mono ?_;rintro e w' h;obtain⟨hg,q,rfl,hlc⟩:=a6N h;have e1:(a3A c).fields.length=nf:=by rw[hnf];simp[a3A]
   have e2:(a3A c).methods.length=nm:=by rw[hnm];simp[a3A]
   rw[e1,e2];refine⟨hg,q.fa,q.fk,q.ma,q.mc,rfl,fun W' hW'=> ?_⟩;obtain⟨g1,g2⟩:=a9R (hlc.keep hW');rw[c1R hck]at g1 g2;rw[hnf,hnm];exact b7I W' w.heap.size W'.heap.size c fa q.fa ma q.ma fk q.fk mk q.mc (hrf.out.keep (A1 hW (A1 hg hW'))) g1 (hrm.out.keep (A1 hW (A1 hg hW'))) g2 hco
  have e0:ec=0:=by rw[hEE,henc];rfl
  cases hdec:G7 F with
  |error er=>
   have hn:=a5W hdec;have f0:(er.1:Int)≠0:=by omega
   have HDF:Hid (∀W,w.grownBy W none→Calls prog 18 #[.string F] W fun e w'=>W.grownBy w' none∧e= .returned (.tuple #[.agg #[.string ⟨#[]⟩, .string ⟨#[]⟩, .slice none 0 0, .slice none 0 0], .int .i64 (er.1:Nat), .int .i64 (er.2:Nat)])):=fun W hW=>by
    have:=HDE.out W F hW hF;rw[hdec]at this;exact this.mono (fun e w' h=>a4v h)
   clear hF hok hco hS hrf hrm HDE HEX hSS hEE hnf hnm henc hdec hdx hck hl;subst e0;go_enter func8,ntmps8
   go_upto_region 3 with(first
    |(go_at_call 17;go_loud (refine(HEN.out _ HG1.out).mono ?_;rintro e w2 ⟨rfl,hg2⟩;have HG2:=C7 (A1 HG1.out hg2);have HB2:=C7 (HB1.out.keep hg2 A5);clear hg2))
    |(go_at_call 16;go_loud (refine(HAL.out _ (A2 _ _ none)).mono ?_;rintro e w1 ⟨rfl,hg1⟩;have HG1:=C7 (A1 (A2 w (.cells #[.string c.name, .string c.super, .slice fa nf fk, .slice ma nm mk] 44) none) hg1);have HB1:=C7 ((A3.new w #[.string c.name, .string c.super, .slice fa nf fk, .slice ma nm mk] 44).keep hg1 A5);obtain⟨b0,b1,b2,b3⟩:=HB1.out.q4;clear hg1)))
   clear b0 b1 b2 b3;go_upto_region 4 with(go_at_call 18;go_loud (refine(HDS.out _ HG2.out).mono ?_;rintro e w3 ⟨hg3,f2,k2,m2,j2,rfl,hsa⟩;have HG4:=C7 (A1 (A1 HG2.out hg3) (A2 w3 (.cells #[.string c.name, .string c.super, .slice f2 nf k2, .slice m2 nm j2] 44) none));have HSA:=C7 (hsa _ (A2 w3 (.cells #[.string c.name, .string c.super, .slice f2 nf k2, .slice m2 nm j2] 44) none));have HB4:=C7 ((HB2.out.keep hg3 A5).keep (A2 w3 (.cells #[.string c.name, .string c.super, .slice f2 nf k2, .slice m2 nm j2] 44) none) A5);have HD4:=C7 (A3.new w3 #[.string c.name, .string c.super, .slice f2 nf k2, .slice m2 nm j2] 44);clear hg3 hsa))
   generalize w3.alloc (.cells #[.string c.name, .string c.super, .slice f2 nf k2, .slice m2 nm j2] 44)=w4 at HG4 HSA HB4 HD4⊢;obtain⟨b0,b1,b2,b3⟩:=HB4.out.q4;obtain⟨d0,d1,d2,d3⟩:=HD4.out.q4;go_upto_region 8 with(go_at_call 19;go_loud (refine HSA.out.mono ?_;rintro e w5 ⟨rfl,hg5⟩;have HG5:=C7 (A1 HG4.out hg5);clear hg5))
   clear b0 b1 b2 b3 d0 d1 d2 d3;exact a2t
  |ok x=>
   have HDF:Hid (∀W,w.grownBy W none→Calls prog 18 #[.string F] W fun e w'=>W.grownBy w' none∧∃xn xs f3 xf k3 m3 xm j3,e= .returned (.tuple #[.agg #[.string xn, .string xs, .slice f3 xf k3, .slice m3 xm j3], .int .i64 0, .int .i64 0])∧∀W',w'.grownBy W' none→Calls prog 17 #[.agg #[.string xn, .string xs, .slice f3 xf k3, .slice m3 xm j3]] W' fun e w'=>e= .returned (.tuple #[.string F, .int .i64 0])∧W'.grownBy w' none):=fun W hW=>by
    exact a2r
   clear hF hok hco hS hrf hrm HDE HEX hSS hEE hnf hnm henc hdec hdx hck hl;subst e0;go_enter func8,ntmps8
   go_upto_region 3 with(first
    |(go_at_call 17;go_loud (refine(HEN.out _ HG1.out).mono ?_;rintro e w2 ⟨rfl,hg2⟩;have HG2:=C7 (A1 HG1.out hg2);have HB2:=C7 (HB1.out.keep hg2 A5);clear hg2))
    |(go_at_call 16;go_loud (refine(HAL.out _ (A2 _ _ none)).mono ?_;rintro e w1 ⟨rfl,hg1⟩;have HG1:=C7 (A1 (A2 w (.cells #[.string c.name, .string c.super, .slice fa nf fk, .slice ma nm mk] 44) none) hg1);have HB1:=C7 ((A3.new w #[.string c.name, .string c.super, .slice fa nf fk, .slice ma nm mk] 44).keep hg1 A5);obtain⟨b0,b1,b2,b3⟩:=HB1.out.q4;clear hg1)))
   clear b0 b1 b2 b3;go_upto_region 4 with(go_at_call 18;go_loud (refine(HDS.out _ HG2.out).mono ?_;rintro e w3 ⟨hg3,f2,k2,m2,j2,rfl,hsa⟩;have HG4:=C7 (A1 (A1 HG2.out hg3) (A2 w3 (.cells #[.string c.name, .string c.super, .slice f2 nf k2, .slice m2 nm j2] 44) none));have HSA:=C7 (hsa _ (A2 w3 (.cells #[.string c.name, .string c.super, .slice f2 nf k2, .slice m2 nm j2] 44) none));have HB4:=C7 ((HB2.out.keep hg3 A5).keep (A2 w3 (.cells #[.string c.name, .string c.super, .slice f2 nf k2, .slice m2 nm j2] 44) none) A5);have HD4:=C7 (A3.new w3 #[.string c.name, .string c.super, .slice f2 nf k2, .slice m2 nm j2] 44);clear hg3 hsa))
   generalize w3.alloc (.cells #[.string c.name, .string c.super, .slice f2 nf k2, .slice m2 nm j2] 44)=w4 at HG4 HSA HB4 HD4⊢;obtain⟨b0,b1,b2,b3⟩:=HB4.out.q4;obtain⟨d0,d1,d2,d3⟩:=HD4.out.q4;go_upto_region 8 with(go_at_call 19;go_loud (refine HSA.out.mono ?_;rintro e w5 ⟨rfl,hg5⟩;have HG5:=C7 (A1 HG4.out hg5);clear hg5))
   clear b0 b1 b2 b3 d0 d1 d2 d3;exact a1e
abbrev lvL:List Cl:=A7++ [Z5]
def c4m:Me:=⟨⟨#[109]⟩,[O1],O1,6,4,[ii 2 1,ii 20 0],[]⟩
def lvF(fast:Bool)(a:Nat)(st:List Wd):Fm:=⟨⟨#[65]⟩,c4m,a,st,[wd fast 3 8,wd fast 1 (-5),X9,X9]⟩
def lvT(fast:Bool):List Tg:=[a2O,a2C,a2I,a2J,a2H,a2z,a2D,⟨#[65]⟩].map fun c=>⟨2,c,[]⟩
def lv0(fast:Bool):Ms:=⟨[lvF fast 0 []],lvT fast,0,⟨0,0,C5,[]⟩⟩
def lv1(fast:Bool):Ms:=⟨[lvF fast 1 [wd fast 1 (-5)]],lvT fast,0,⟨0,0,C5,[]⟩⟩
def lv2(fast:Bool):Ms:=⟨[],lvT fast,0,⟨1,-5,C5,[]⟩⟩
theorem c3m(fast:Bool):a0R fast lvL ⟨#[65]⟩ ⟨#[109]⟩ [-5] 0=lv0 fast:=by cases fast<;>kernel_rfl
theorem c3l(fast:Bool):a0E fast lvL (lv0 fast)=some (lv1 fast):=by cases fast<;>kernel_rfl
theorem c3k(fast:Bool):a0E fast lvL (lv1 fast)=some (lv2 fast):=by cases fast<;>kernel_rfl
theorem c3o(fast:Bool):(M8 fast lvL (lv0 fast) (lvF fast 0 []) [] (ii 2 1)).2=0:=by cases fast<;>kernel_rfl
theorem c3n(fast:Bool):(M8 fast lvL (lv1 fast) (lvF fast 1 [wd fast 1 (-5)]) [] (ii 20 0)).2=0:=by cases fast<;>kernel_rfl
theorem b2C(a:Nat)(st:List Wd)(s:Ms)(ht:s.tg=lvT false)(hs:st=[]∨st=[wd false 1 (-5)]):a6r lvL s (lvF false a st):=by
 have hl:st.length≤1:=by rcases hs with rfl|rfl<;>decide
 refine⟨by show st.length≤6;omega,by show 6≤1000;omega,by show 4≤1000;omega,by show 4≤4;omega,by show 4≤1000;omega,by show 2≤65536;omega,fun x hx h3=> ?_,fun i hi=> ?_,fun i=> ?_,fun i hi=> ?_,fun t h=> ?_⟩
 ·rw[ht]
  have hx:x∈ [wd false 1 (-5),wd false 3 8,wd false 1 (-5),X9,X9]:=by
   rcases hx with hx|hx
   ·have hx:x∈st:=hx;rcases hs with rfl|rfl
    ·cases hx
    ·rw[List.mem_singleton.1 hx];simp
   ·exact List.mem_cons_of_mem _ hx
  simp only[List.mem_cons,List.not_mem_nil,or_false]at hx;rcases hx with rfl|rfl|rfl|rfl|rfl
  ·cases h3
  ·exact⟨by decide,by decide⟩
  ·cases h3
  ·cases h3
  ·cases h3
 ·have hi:i∈ [ii 2 1,ii 20 0]:=hi;simp only[List.mem_cons,List.not_mem_nil,or_false]at hi;rcases hi with rfl|rfl<;>exact⟨by decide,by decide,by decide,fun _=>by decide⟩
 ·unfold a0V;split
  ·rename_i p hp;exact Nat.le_trans ((a9B a7k.1 a7k.2.1).upm _ _ _ hp).2.2.2 (by decide)
  ·exact Nat.zero_le _
 ·exact(b2E _ (List.mem_singleton.2 rfl)).2 i hi
 ·rw[ht]at h;simp only[lvT,List.map_cons,List.map_nil,List.mem_cons,List.not_mem_nil,or_false]at h;rcases h with rfl|rfl|rfl|rfl|rfl|rfl|rfl|rfl<;>exact⟨by decide,fun h=>by cases h⟩
variable {E:En}
variable {fast:Bool}
theorem c2s(hL:E.L=lvL)(hf:E.fast=fast):Ok1 E (lv0 fast):=by
 have hs:(lv0 fast).fr=lvF fast 0 []:: []:=rfl;refine⟨lvF fast 0 [],[],hs,by show 8≤100000;omega,by show 0≤1000;omega,fun h=> ?_,fun _=>⟨fun W0 S0 W fp fps st loc hW=> ?_,fun h0=> ?_,by show 0<2;omega,by show 2≤65536;omega⟩⟩
 ·rw[hL];rw[hf]at h;subst h;exact b2C 0 [] _ rfl (.inl rfl)
 ·exact c3R W hW hs (ii 2 1) (by decide) (by show 0≤65535;omega) (fun W2 loc' h2=>w_2 W2 h2 hs 1 C5 C5 1 rfl (by show 1<4;omega) (by show 0<1000;omega))
 ·rw[hL,hf]at h0
  exact absurd (c3o fast) h0
theorem c2r(hL:E.L=lvL)(hf:E.fast=fast):Ok1 E (lv1 fast):=by
 have hs:(lv1 fast).fr=lvF fast 1 [wd fast 1 (-5)]:: []:=rfl;refine⟨lvF fast 1 [wd fast 1 (-5)],[],hs,by show 8≤100000;omega,by show 0≤1000;omega,fun h=> ?_,fun _=>⟨fun W0 S0 W fp fps st loc hW=> ?_,fun h0=> ?_,by show 1<2;omega,by show 2≤65536;omega⟩⟩
 ·rw[hL];rw[hf]at h;subst h;exact b2C 1 _ _ rfl (.inr rfl)
 ·have hlen:fps.length=0:=by have:=Mc.len hW;rw[hs]at this;simpa using this.1
  exact c3S W hW hs (ii 20 0) rfl (fun W2 loc' h2=>c0A W2 h2 hs (by show 8≤100000;omega) (by omega) (fun _=>Nat.le_refl _) (fun _ _ h1=>absurd rfl h1) (fun g gs h=>by cases h))
 ·rw[hL,hf]at h0
  exact absurd (c3n fast) h0
theorem c4S(w:World)(hS:Hid (O4 w))(hBin:Hid (Bin w))(hT:Hid (ThI w)):
 Calls prog 16 #[] w fun e w'=>e= .returned (.bool true)∧w.grownBy w' none:=by
 refine b8j w hS hBin hT fun fast P hA w1 W E fp R lim hB=> ?_
 obtain⟨W0,h1,h2,h3⟩:=hB.mc;have hst:=c3m fast
 have:=b7L W R h3 (fun k s=>(k=0∧s=lv0 fast)∨(k=1∧s=lv1 fast)∨s=lv2 fast) (.inl ⟨rfl,hst⟩) (fun k s _ hJ h0=>by
  rcases hJ with⟨-,rfl⟩|⟨-,rfl⟩|rfl
  ·exact c2s hB.L hB.fast
  ·exact c2r hB.L hB.fast
  ·cases h0) (fun k s s' hJ h0 hs=>by
  rw[hB.L,hB.fast]at hs;rcases hJ with⟨rfl,rfl⟩|⟨rfl,rfl⟩|rfl
  ·have hs2:=c3l fast;rw[hs2]at hs;exact .inr (.inl ⟨rfl,(Option.some.inj hs).symm⟩)
  ·have hs2:=c3k fast;rw[hs2]at hs;exact .inr (.inr (Option.some.inj hs).symm)
  ·cases h0) 5000 (by omega) (by omega)
 rw[hB.L,hB.fast,Nat.min_self,Nat.zero_add]at this;refine this.mono ?_;rintro e w' ⟨he,fps',hM⟩;exact⟨he,W0,fps',h1,hM⟩
end Kx
open Go.ChangeShapes Go.WideShapes Go.ChangeAt Go.WideMaps Go.WideElems Go.RowKit Cf
theorem own:ownKnob prog.godebug=none:=by kernel_rfl
theorem a7t:prog.globalNamed "warden/classfile.shapes" =some 2:=by kernel_rfl
theorem c0O:(prog.globals[2]?).map (·.type)=some 383:=by kernel_rfl
theorem a9E:prog.globalNamed "warden/link.builtIn" =some 1:=by kernel_rfl
theorem c1V:(prog.globals[1]?).map (·.type)=some 280:=by kernel_rfl
theorem b2N:prog.globalNamed "warden/machine.thrownOfItself" =some 0:=by kernel_rfl
theorem c0N:(prog.globals[0]?).map (·.type)=some 227:=by kernel_rfl
theorem c2Q:prog.cellsOf 382=3:=by kernel_rfl
theorem c4F:prog.cellsOf 279=2:=by kernel_rfl
theorem c4E:prog.cellsOf 3=1:=by kernel_rfl
theorem c3W:prog.cellsOf 4=1:=by kernel_rfl
theorem b3K:prog.cellsOf 9=1:=by kernel_rfl
theorem b7H:(Rows.laid_warden_classfile_shapes:DataW Unit)= .agg ((List.range 32).map fun i=> .agg [.lit (.int .i64 (F3 i)), .lit (.bool (Y5 i)), .lit (.bool (Z4 i))]):=by kernel_rfl
theorem c0y:(Rows.laid_warden_link_builtIn:DataW Unit)= .agg ((List.range 9).map fun i=> .agg [.lit (.string (cl A7 i).name.data.toList), .lit (.string (cl A7 i).super.data.toList)]):=by kernel_rfl
theorem b7A:(Rows.laid_warden_machine_thrownOfItself:DataW Unit)= .agg ((List.range 8).map fun i=> .lit (.string (Kx.thN i).data.toList)):=by kernel_rfl
variable {l:List Value}
variable {i o:Nat}
variable {v:Value}
theorem b7C(h:(l.drop (i*1)).take 1=[v]):l[i]? =some v:=by
 have h1:=congrArg (fun m=>m[0]?) h;simpa[List.getElem?_take,List.getElem?_drop]using h1
theorem a8M(ho:o<3)(h:(((l.drop (i*3)).take 3).drop o).take 1=[v]):l[i*3+o]? =some v:=by
 exact c6z
theorem b1A(ho:o<2)(h:(((l.drop (i*2)).take 2).drop o).take 1=[v]):l[i*2+o]? =some v:=by
 exact c6z
variable {s:ByteArray}
theorem a9f{t:ByteArray}(h:s.data.toList=t.data.toList):s=t:=by
 cases s;cases t;simp only[ByteArray.mk.injEq];exact Array.toList_inj.1 h
def a6i:List (String×DataW Unit):=[("warden/classfile.shapes",Rows.laid_warden_classfile_shapes),("warden/link.builtIn",Rows.laid_warden_link_builtIn),("warden/machine.thrownOfItself",Rows.laid_warden_machine_thrownOfItself)]
variable {W:World}
theorem b5x(h:laidMetH prog a6i W):O4 W∧Kx.Bin W∧Kx.ThI W:=by
 unfold a6i at h;rw[MakeChecks.laidMetH_plain _ _ _ (by kernel_rfl)]at h;obtain⟨ps,⟨g0,t0,cs0,f0,p0,q0,hg0,ht0,hv0,hd0,⟨g1,t1,cs1,f1,p1,q1,hg1,ht1,hv1,hd1,⟨g2,t2,cs2,f2,p2,q2,hg2,ht2,hv2,hd2,-⟩,-⟩,-⟩,-,-⟩:=h;obtain rfl:=Option.some.inj (a7t.symm.trans hg0);obtain rfl:=Option.some.inj (c0O.symm.trans ht0);obtain rfl:=Option.some.inj (a9E.symm.trans hg1);obtain rfl:=Option.some.inj (c1V.symm.trans ht1);obtain rfl:=Option.some.inj (b2N.symm.trans hg2);obtain rfl:=Option.some.inj (c0N.symm.trans ht2);refine⟨?_,?_,?_⟩
 ·clear hg1 ht1 hv1 hd1 hg2 ht2 hv2 hd2;rw[b7H]at hd0;obtain⟨xs,m,rfl,hx,hlen,hn,hel⟩:=DataW.trod_array underlying383 hd0;simp only[Prod.mk.injEq,DataW.agg.injEq]at hx
  have key:∀op,op<32→W.cell? ⟨2,op*3,none⟩=some (.int .i64 (F3 op))∧W.cell? ⟨2,op*3+1,none⟩=some (.bool (Y5 op))∧W.cell? ⟨2,op*3+2,none⟩=some (.bool (Z4 op)):=by
   intro op ho;have h1:=hel op ho
   have hxo:(xs.map (·.1))[op]? =some (.agg [.lit (.int .i64 (F3 op)), .lit (.bool (Y5 op)), .lit (.bool (Z4 op))]):=by
    rw[←hx.1];simp[ho]
   simp only[List.getElem?_map,Option.map_eq_some_iff]at hxo;obtain⟨x,hx1,hx2⟩:=hxo;rw[hx1,c2Q]at h1;obtain⟨ys,m2,rfl,hy,-,hyn,hyf⟩:=DataW.trod_struct underlying382 h1;rw[hy]at hx2;simp only[DataW.agg.injEq]at hx2;have a0:=hyf 0 _ rfl;have a1:=hyf 1 _ rfl;have a2:=hyf 2 _ rfl;match ys,hx2,a0,a1,a2 with
   | [y0,y1,y2],hx2,a0,a1,a2=>
     simp only[List.map_cons,List.map_nil,List.cons.injEq,and_true]at hx2;obtain⟨n,e0,e0',-⟩:=DataW.trod_int underlying3 (show DataW.trod _ prog W 0 _ _ m2 3 _=some y0 from a0);obtain⟨b1,e1,e1'⟩:=DataW.trod_bool underlying4 (show DataW.trod _ prog W 0 _ _ m2 4 _=some y1 from a1);obtain⟨b2,e2,e2'⟩:=DataW.trod_bool underlying4 (show DataW.trod _ prog W 0 _ _ m2 4 _=some y2 from a2);rw[e0',e1',e2']at hx2;simp only[DataW.lit.injEq,Lit.int.injEq,true_and,Lit.bool.injEq]at hx2;obtain⟨rfl,rfl,rfl⟩:=hx2;have r0:List.take (prog.cellsOf 3) (List.drop 0 (List.take 3 (List.drop (op*3) cs0.toList)))=[.int .i64 (F3 op)]:=e0;have r1:List.take (prog.cellsOf 4) (List.drop 1 (List.take 3 (List.drop (op*3) cs0.toList)))=[.bool (Y5 op)]:=e1;have r2:List.take (prog.cellsOf 4) (List.drop 2 (List.take 3 (List.drop (op*3) cs0.toList)))=[.bool (Z4 op)]:=e2;rw[c4E]at r0;rw[c3W]at r1 r2;exact⟨(World.var?_cell a7t hv0 _).trans (by simpa using a8M (by decide) r0),(World.var?_cell a7t hv0 _).trans (by simpa using a8M (by decide) r1),(World.var?_cell a7t hv0 _).trans (by simpa using a8M (by decide) r2)⟩
  refine⟨World.block_lt_of_cell? _ ⟨2,0,none⟩ (by simpa using(key 0 (by decide)).1),key⟩
 ·clear hg0 ht0 hv0 hd0 hg2 ht2 hv2 hd2;rw[c0y]at hd1;obtain⟨xs,m,rfl,hx,hlen,hn,hel⟩:=DataW.trod_array underlying280 hd1;simp only[Prod.mk.injEq,DataW.agg.injEq]at hx
  have key:∀i,i<9→W.cell? ⟨1,i*2,none⟩=some (.string (cl A7 i).name)∧W.cell? ⟨1,i*2+1,none⟩=some (.string (cl A7 i).super):=by
   intro op ho;have h1:=hel op ho
   have hxo:(xs.map (·.1))[op]? =some (.agg [.lit (.string (cl A7 op).name.data.toList), .lit (.string (cl A7 op).super.data.toList)]):=by
    rw[←hx.1];simp[ho]
   simp only[List.getElem?_map,Option.map_eq_some_iff]at hxo;obtain⟨x,hx1,hx2⟩:=hxo;rw[hx1,c4F]at h1;obtain⟨ys,m2,rfl,hy,-,hyn,hyf⟩:=DataW.trod_struct underlying279 h1;rw[hy]at hx2;simp only[DataW.agg.injEq]at hx2;have a0:=hyf 0 _ rfl;have a1:=hyf 1 _ rfl;match ys,hx2,a0,a1 with
   | [y0,y1],hx2,a0,a1=>
     simp only[List.map_cons,List.map_nil,List.cons.injEq,and_true]at hx2;obtain⟨s0,e0,e0',-⟩:=DataW.trod_string underlying9 (show DataW.trod _ prog W 0 _ _ m2 9 _=some y0 from a0);obtain⟨s1,e1,e1',-⟩:=DataW.trod_string underlying9 (show DataW.trod _ prog W 0 _ _ m2 9 _=some y1 from a1);rw[e0',e1']at hx2;simp only[DataW.lit.injEq,Lit.string.injEq]at hx2;have b0:=a9f hx2.1;have b1:=a9f hx2.2;have r0:List.take (prog.cellsOf 9) (List.drop 0 (List.take 2 (List.drop (op*2) cs1.toList)))=[.string s0]:=e0;have r1:List.take (prog.cellsOf 9) (List.drop 1 (List.take 2 (List.drop (op*2) cs1.toList)))=[.string s1]:=e1;rw[b3K]at r0 r1;rw[b0]at r0;rw[b1]at r1;exact⟨(World.var?_cell a9E hv1 _).trans (by simpa using b1A (by decide) r0),(World.var?_cell a9E hv1 _).trans (by simpa using b1A (by decide) r1)⟩
  exact⟨World.block_lt_of_cell? _ ⟨1,0,none⟩ (by simpa using(key 0 (by decide)).1),key⟩
 ·clear hg0 ht0 hv0 hd0 hg1 ht1 hv1 hd1;rw[b7A]at hd2;obtain⟨xs,m,rfl,hx,hlen,hn,hel⟩:=DataW.trod_array underlying227 hd2;simp only[Prod.mk.injEq,DataW.agg.injEq]at hx
  have key:∀i,i<8→W.cell? ⟨0,i,none⟩=some (.string (Kx.thN i)):=by
   intro op ho;have h1:=hel op ho
   have hxo:(xs.map (·.1))[op]? =some (.lit (.string (Kx.thN op).data.toList)):=by
    rw[←hx.1];simp[ho]
   simp only[List.getElem?_map,Option.map_eq_some_iff]at hxo;obtain⟨x,hx1,hx2⟩:=hxo;rw[hx1,b3K]at h1;obtain⟨s0,e0,e0',-⟩:=DataW.trod_string underlying9 h1;rw[e0']at hx2;simp only[DataW.lit.injEq,Lit.string.injEq]at hx2;rw[a9f hx2]at e0;exact(World.var?_cell b2N hv2 _).trans (by simpa using b7C e0)
  exact⟨World.block_lt_of_cell? _ ⟨0,0,none⟩ (by simpa using key 0 (by decide)),key⟩
theorem c0q(os:Os)(args:Array Value):laidMetH prog a6i ((World.doorLaid prog 2000 os).forCall (fun _ _=>0) ⟨#[],args,[]⟩).memory:=by
 unfold a6i;rw[MakeChecks.laidMetH_plain _ _ _ (by kernel_rfl)];exact laidMet_of_run' 8 (by kernel_rfl) (by kernel_rfl)
theorem b4i{w w':World}(h:w.grownBy w' none)(may:MemPlace→Prop):w.keptBut w' may:=
 World.keptBut.congr (World.keptBut_refl w _) h.os h.output (fun i hi=>h.block i hi (by simp))
variable {H α:Type}
theorem a4Q(d:DataW H):1≤Rows.uptoBulk d:=by
 cases d with
 |lit l=>cases l<;>simp[Rows.uptoBulk]
 |nil=>simp[Rows.uptoBulk]
 |ptr d=>simp[Rows.uptoBulk]
 |slice elems spare=>simp[Rows.uptoBulk]
 |agg parts=>simp[Rows.uptoBulk]
 |iface t d=>simp[Rows.uptoBulk]
 |map entries=>simp[Rows.uptoBulk]
 |held h=>simp[Rows.uptoBulk]
theorem c0x(l:List (DataW H)):Rows.uptoBulkAll l=(l.map Rows.uptoBulk).sum:=by
 induction l with
 |nil=>simp[Rows.uptoBulkAll]
 |cons x l ih=>simp only[Rows.uptoBulkAll,ih,List.map_cons,List.sum_cons]
theorem c1O(p:Addr)(a b:Nat):(p.add a).add b=p.add (a+b):=by
 unfold Addr.add;by_cases ha:a=0
 ·subst ha;simp
 ·by_cases hb:b=0
  ·subst hb;simp[ha]
  ·simp[ha,hb];omega
theorem b0B{p:Nat→α→Prop}:∀n:Nat,(∀i,i<n→∃x,p i x)→∃xs:List α,xs.length=n∧∀i (h:i<xs.length),p i xs[i]
 |0,_=>⟨[],rfl,fun i h=>by cases h⟩
 |n+1,h=>by
  obtain⟨xs,h1,h2⟩:=b0B n (fun i hi=>h i (by omega));obtain⟨x,hx⟩:=h n (by omega);refine⟨xs++ [x],by simp[h1],fun i hi=> ?_⟩;by_cases hl:i<xs.length
  ·rw[List.getElem_append_left hl];exact h2 i hl
  ·have:i=n:=by simp at hi;omega
   subst this;have e:(xs++ [x])[i]=x:=by rw[List.getElem_append_right (by omega)];simp[h1]
   rw[e];exact hx
variable {en:TypeId×Value→H}
variable {sp:Nat→Bool}
variable {held:Bool}
theorem a5C{T e sz:Nat}{enc:α→List Value}(good:α→Nat→Prop)(ht:prog.underlying T=some (.slice e))(hc:prog.cellsOf e=sz)(hs:∀x,(enc x).length=sz)(h0:0<sz)
 (hE:∀n cs y,DataW.trod en prog W 0 sp held n e cs=some y→∃x,cs=enc x∧good x (Rows.uptoBulk y.1)) {fuel:Nat} {v:Value} {x:DataW H×List MemPlace} (h:DataW.trod en prog W 0 sp held fuel T [v]=some x):
 ∃(a:Option Addr) (k:Nat) (xs:List α) (bs:List Nat),v= .slice a xs.length k∧(a=none→xs=[]∧k=0)∧bs.length=xs.length∧(∀j (h1:j<xs.length) (h2:j<bs.length),good xs[j] bs[j])∧bs.sum+1≤Rows.uptoBulk x.1∧
  ∀j (hj:j<xs.length),∃p:Addr,a=some p∧p.block<W.heap.size∧∀r u,(enc xs[j])[r]? =some u→W.cell? (p.add (j*sz+r))=some u:=by
 rcases Go.Deep.open_slice ht h with⟨h1,rfl⟩|⟨a,len,cap,m,n,D,Pl,h1,hb,hl,hm,hmm,rfl,hx⟩
 ·injection h1 with h1 _
  subst h1;exact⟨none,0,[],[],rfl,fun _=>⟨rfl,rfl⟩,rfl,fun j h=>(by cases h),by simp[Rows.uptoBulk],fun j h=>by cases h⟩
 ·injection h1 with h1 _
  subst h1;have hlm:len≤m:=by rw[hmm];split<;>omega
  obtain⟨xs,hxl,hxs⟩:=b0B (p:=fun i (x:α)=>good x (Rows.uptoBulk (D i))∧W.cells? 0 (a.add (i*sz)) sz=some (enc x)) len (fun i hi=>by
   obtain⟨cs',h2,h3⟩:=hx i (by omega);obtain⟨x,rfl,hg⟩:=hE n cs' _ h3;rw[hc]at h2;exact⟨x,hg,h2⟩)
  refine⟨some a,cap,xs,(List.range len).map (fun i=>Rows.uptoBulk (D i)),by rw[hxl],fun e=>(by cases e),by simp[hxl],fun j h1 h2=> ?_,?_,fun j hj=> ?_⟩
  ·have:=(hxs j h1).1;simpa using this
  ·simp only[Rows.uptoBulk,c0x,List.map_map];have:(List.map (Rows.uptoBulk∘D) (List.range len)).sum=(List.map (fun i=>Rows.uptoBulk (D i)) (List.range len)).sum:=rfl;omega
  ·obtain⟨_,hlen,hcell⟩:=World.cells?_some (hxs j hj).2
   have hc2:∀r u,(enc xs[j])[r]? =some u→W.cell? (a.add (j*sz+r))=some u:=fun r u hu=>by
    have hr:r<sz:=by have:=(List.getElem?_eq_some_iff.1 hu).1;rw[hs]at this;exact this
    have:=hcell r hr;rw[c1O]at this;rw[this];exact hu
   refine⟨a,rfl,?_,hc2⟩;have hz:0<(enc xs[j]).length:=by rw[hs];exact h0
   have:=hc2 0 _ (List.getElem?_eq_getElem hz);have:=World.block_lt_of_cell? _ (a.add (j*sz+0)) (by rw[this]);rwa[U9]at this
theorem a5O:∀{bs:List Nat},(∀b∈bs,1≤b)→bs.length≤bs.sum
 | [],_=>Nat.le_refl _
 |b::bs,h=>by
  have h1:=h b (by simp);have h2:=a5O (fun x hx=>h x (by simp[hx]):∀x∈bs,1≤x);simp only[List.length_cons,List.sum_cons];omega
theorem a4x:∀{bs:List Nat} {b:Nat},b∈bs→b≤bs.sum
 | [],_,h=>by cases h
 |x::bs,b,h=>by
  rcases List.mem_cons.1 h with rfl|h
  ·simp only[List.sum_cons];omega
  ·have:=a4x h;simp only[List.sum_cons];omega
theorem b9L:laidOutB prog=true:=by kernel_rfl
variable {d:DataW H}
variable {p:List MemPlace}
theorem b5B{T:TypeId}(rec_l:prog.readableRec T=true)(row_l:T<prog.types.size){W':World}(h:DataW.Trod en prog W 0 (fun _=>true) true T v d p)(hg:W.grownBy W' none)(sp:Nat→Bool)(hs:∀x∈p,sp x.block=true):DataW.Trod en prog W' 0 sp true T v d p:=by
 obtain⟨n,hn⟩:=h;refine⟨n,DataW.trod_stays (kids_book b9L rec_l) (book_sized rec_l) (fun h=>by cases h) ⟨row_l,book_self _⟩ hn (fun x hx=> ?_) hs⟩;have hlt:=DataW.trod_lt _ _ _ _ hn x hx;cases x with
 |cell b off=>exact World.cell?_of_block (hg.block b hlt (by simp))
 |map b=>exact hg.block b hlt (by simp)
theorem c2c:prog.readableRec 44=true:=by kernel_rfl
theorem c1Z:44<prog.types.size:=by decide+kernel
theorem cTy:prog.cellsOf 98=2:=by kernel_rfl
theorem b3L:prog.cellsOf 129=3:=by kernel_rfl
theorem cIn:prog.cellsOf 120=4:=by kernel_rfl
theorem cHd:prog.cellsOf 202=4:=by kernel_rfl
theorem cMe:prog.cellsOf 102=8:=by kernel_rfl
theorem cCl:prog.cellsOf 44=4:=by kernel_rfl
theorem a3t{n:Int}(h:(Lit.int .i64 n).wf=true):a0Y n:=by
 simp[Lit.wf,IntKind.min,IntKind.max,IntKind.signed,IntKind.bits]at h;unfold a0Y;omega
theorem a4Z{b:Nat}(h:Rows.uptoBulk (DataW.lit (H:=H) (.string s.data.toList))≤b)(hb:b≤1048576):l6 s:=by
 simp only[Rows.uptoBulk]at h;unfold l6;have:s.data.toList.length=s.size:=by simp
 omega
def b3m(t:n9)(b:Nat):Prop:=(b≤1048576→a4j t)∧1≤b
def b2I(t:a1v)(b:Nat):Prop:=(b≤1048576→a9L t)∧1≤b
def b3n(t:XIn)(b:Nat):Prop:=(b≤1048576→P0 t)∧1≤b
def b3o(t:XHd)(b:Nat):Prop:=(b≤1048576→a7H t)∧1≤b
theorem a9K(n:Nat)(cs:List Value)(y:DataW H×List MemPlace)(h:DataW.trod en prog W 0 sp held n 98 cs=some y):∃x,cs=X8 x∧b3m x (Rows.uptoBulk y.1):=by
 obtain⟨y0,y1,n2,rfl,hl,h0,h1⟩:=Go.ChangeShapes.trod_struct2 underlying98 h;rw[cTy]at hl;match cs,hl with
 | [v0,v1],_=>
   have h0':DataW.trod en prog W 0 sp held n2 3 [v0]=some y0:=h0;have h1':DataW.trod en prog W 0 sp held n2 9 [v1]=some y1:=h1;obtain⟨k,e0,rfl,hk⟩:=DataW.trod_int underlying3 h0';obtain⟨s,e1,rfl,hs⟩:=DataW.trod_string underlying9 h1';simp only[List.cons.injEq,and_true]at e0 e1;subst e0 e1;refine⟨⟨k,s⟩,rfl,fun hb=>⟨a3t hk,a4Z (H:=H) (b:=_) (Nat.le_refl _) ?_⟩,a4Q _⟩;exact c5i
theorem c2e(n:Nat)(cs:List Value)(y:DataW H×List MemPlace)(h:DataW.trod en prog W 0 sp held n 129 cs=some y):∃x,cs=a0a x∧b2I x (Rows.uptoBulk y.1):=by
 obtain⟨y0,y1,n2,rfl,hl,h0,h1⟩:=Go.ChangeShapes.trod_struct2 underlying129 h;rw[b3L]at hl;match cs,hl with
 | [v0,v1,v2],_=>
   have h0':DataW.trod en prog W 0 sp held n2 9 [v0]=some y0:=h0;have h1':DataW.trod en prog W 0 sp held n2 98 [v1,v2]=some y1:=h1;obtain⟨s,e0,rfl,hs⟩:=DataW.trod_string underlying9 h0';obtain⟨t,e1,hg⟩:=a9K _ _ _ h1';simp only[X8,List.cons.injEq,and_true]at e0 e1;obtain⟨rfl,rfl⟩:=e1;subst e0;refine⟨⟨s,t⟩,rfl,fun hb=>⟨a4Z (H:=H) (b:=_) (Nat.le_refl _) ?_,hg.1 ?_⟩,a4Q _⟩
   ·exact c5i
   ·simp only[Rows.uptoBulk,Rows.uptoBulkAll]at hb;omega
theorem c3b(n:Nat)(cs:List Value)(y:DataW H×List MemPlace)(h:DataW.trod en prog W 0 sp held n 120 cs=some y):∃x,cs=xIn x∧b3n x (Rows.uptoBulk y.1):=by
 obtain⟨y0,y1,y2,y3,n2,rfl,hl,h0,h1,h2,h3⟩:=Go.Joins.trod_struct4 underlying120 h;rw[cIn]at hl;match cs,hl with
 | [v0,v1,v2,v3],_=>
   have h0':DataW.trod en prog W 0 sp held n2 3 [v0]=some y0:=h0;have h1':DataW.trod en prog W 0 sp held n2 3 [v1]=some y1:=h1;have h2':DataW.trod en prog W 0 sp held n2 9 [v2]=some y2:=h2;have h3':DataW.trod en prog W 0 sp held n2 9 [v3]=some y3:=h3;obtain⟨a,e0,rfl,k0⟩:=DataW.trod_int underlying3 h0';obtain⟨b,e1,rfl,k1⟩:=DataW.trod_int underlying3 h1';obtain⟨c,e2,rfl,k2⟩:=DataW.trod_string underlying9 h2';obtain⟨d,e3,rfl,k3⟩:=DataW.trod_string underlying9 h3';simp only[List.cons.injEq,and_true]at e0 e1 e2 e3;subst e0 e1 e2 e3;refine⟨⟨a,b,c,d⟩,rfl,fun hb=>⟨a3t k0,a3t k1,a4Z (H:=H) (b:=_) (Nat.le_refl _) ?_,a4Z (H:=H) (b:=_) (Nat.le_refl _) ?_⟩,a4Q _⟩
   ·exact c5i
   ·exact c5i
theorem c3c(n:Nat)(cs:List Value)(y:DataW H×List MemPlace)(h:DataW.trod en prog W 0 sp held n 202 cs=some y):∃x,cs=xHd x∧b3o x (Rows.uptoBulk y.1):=by
 obtain⟨y0,y1,y2,y3,n2,rfl,hl,h0,h1,h2,h3⟩:=Go.Joins.trod_struct4 underlying202 h;rw[cHd]at hl;match cs,hl with
 | [v0,v1,v2,v3],_=>
   have h0':DataW.trod en prog W 0 sp held n2 3 [v0]=some y0:=h0;have h1':DataW.trod en prog W 0 sp held n2 3 [v1]=some y1:=h1;have h2':DataW.trod en prog W 0 sp held n2 3 [v2]=some y2:=h2;have h3':DataW.trod en prog W 0 sp held n2 9 [v3]=some y3:=h3;obtain⟨a,e0,rfl,k0⟩:=DataW.trod_int underlying3 h0';obtain⟨b,e1,rfl,k1⟩:=DataW.trod_int underlying3 h1';obtain⟨c,e2,rfl,k2⟩:=DataW.trod_int underlying3 h2';obtain⟨d,e3,rfl,k3⟩:=DataW.trod_string underlying9 h3';simp only[List.cons.injEq,and_true]at e0 e1 e2 e3;subst e0 e1 e2 e3;refine⟨⟨a,b,c,d⟩,rfl,fun hb=>⟨a3t k0,a3t k1,a3t k2,a4Z (H:=H) (b:=_) (Nat.le_refl _) ?_⟩,a4Q _⟩;exact c5i
structure a7M where
 m:S5
 pa:Option Addr
 pk:Nat
 ca:Option Addr
 ck:Nat
 ha:Option Addr
 hk:Nat
def xMe(r:a7M):List Value:=[.string r.m.name, .slice r.pa r.m.params.length r.pk, .int .i64 r.m.ret.kind, .string r.m.ret.name, .int .i64 r.m.stack, .int .i64 r.m.locals, .slice r.ca r.m.code.length r.ck, .slice r.ha r.m.handlers.length r.hk]
structure a9G(W:World)(r:a7M)(b:Nat):Prop where
 pos:1≤b
 cost:a1o r.m≤12*b
 ok:b≤1048576→a4k r.m
 params:B8 W W.heap.size 2 X8 r.pa r.m.params
 code:B8 W W.heap.size 4 xIn r.ca r.m.code
 hds:B8 W W.heap.size 4 xHd r.ha r.m.handlers
 np:r.pa=none→r.m.params=[]∧r.pk=0
 nc:r.ca=none→r.m.code=[]∧r.ck=0
 nh:r.ha=none→r.m.handlers=[]∧r.hk=0
theorem c3a(n:Nat)(cs:List Value)(y:DataW H×List MemPlace)(h:DataW.trod en prog W 0 sp held n 102 cs=some y):∃x,cs=xMe x∧a9G W x (Rows.uptoBulk y.1):=by
 obtain⟨ys,n2,-,rfl,hl,hyn,hyf⟩:=DataW.trod_struct underlying102 h;rw[cMe]at hl;have a0:=hyf 0 _ rfl;have a1:=hyf 1 _ rfl;have a2:=hyf 2 _ rfl;have a3:=hyf 3 _ rfl;have a4:=hyf 4 _ rfl;have a5:=hyf 5 _ rfl;have a6:=hyf 6 _ rfl;match cs,hl,ys,hyn with
 | [v0,v1,v2,v3,v4,v5,v6,v7],_,[y0,y1,y2,y3,y4,y5,y6],_=>
   have h0:DataW.trod en prog W 0 sp held n2 9 [v0]=some y0:=a0;have h1:DataW.trod en prog W 0 sp held n2 96 [v1]=some y1:=a1;have h2:DataW.trod en prog W 0 sp held n2 98 [v2,v3]=some y2:=a2;have h3:DataW.trod en prog W 0 sp held n2 3 [v4]=some y3:=a3;have h4:DataW.trod en prog W 0 sp held n2 3 [v5]=some y4:=a4;have h5:DataW.trod en prog W 0 sp held n2 99 [v6]=some y5:=a5;have h6:DataW.trod en prog W 0 sp held n2 100 [v7]=some y6:=a6;obtain⟨nm,e0,rfl,k0⟩:=DataW.trod_string underlying9 h0;obtain⟨pa,pk,ps,pb,e1,q1,q2,q3,q4,q5⟩:=a5C (enc:=X8) b3m underlying96 cTy (fun _=>rfl) (by decide) a9K h1;obtain⟨rt,e2,g2⟩:=a9K _ _ _ h2;obtain⟨st,e3,rfl,k3⟩:=DataW.trod_int underlying3 h3;obtain⟨lo,e4,rfl,k4⟩:=DataW.trod_int underlying3 h4;obtain⟨ca,ck,is,ib,e5,r1,r2,r3,r4,r5⟩:=a5C (enc:=xIn) b3n underlying99 cIn (fun _=>rfl) (by decide) c3b h5;obtain⟨ha,hk,hs,hb,e6,s1,s2,s3,s4,s5⟩:=a5C (enc:=xHd) b3o underlying100 cHd (fun _=>rfl) (by decide) c3c h6;simp only[X8,List.cons.injEq,and_true]at e0 e2 e3 e4;obtain⟨rfl,rfl⟩:=e2;subst e0 e1 e3 e4 e5 e6
   have bulk:Rows.uptoBulk (DataW.lit (H:=H) (.string nm.data.toList))+(Rows.uptoBulk y1.1+(Rows.uptoBulk y2.1+(Rows.uptoBulk y5.1+Rows.uptoBulk y6.1)))+3≤Rows.uptoBulk (DataW.agg (([(DataW.lit (.string nm.data.toList),[]),y1,y2,(.lit (.int .i64 st),[]),(.lit (.int .i64 lo),[]),y5,y6]:List (DataW H×List MemPlace)).map (·.1))):=by
    simp only[List.map_cons,List.map_nil,Rows.uptoBulk,Rows.uptoBulkAll];omega
   have lp:=a5O (bs:=pb) (fun b hb=>by obtain⟨j,hj,rfl⟩:=List.getElem_of_mem hb;exact(q3 j (by omega) hj).2);have li:=a5O (bs:=ib) (fun b hb=>by obtain⟨j,hj,rfl⟩:=List.getElem_of_mem hb;exact(r3 j (by omega) hj).2);have lh:=a5O (bs:=hb) (fun b hb=>by obtain⟨j,hj,rfl⟩:=List.getElem_of_mem hb;exact(s3 j (by omega) hj).2);have hn1:=a4Q (DataW.lit (H:=H) (.string nm.data.toList));refine⟨⟨⟨nm,ps,rt,st,lo,is,hs⟩,pa,pk,ca,ck,ha,hk⟩,rfl,a4Q _,Nat.le_trans ?_ (Nat.mul_le_mul_left 12 bulk),fun hb2=> ?_,q5,r5,s5,q1,r1,s1⟩
   ·unfold a1o;simp only;omega
   ·have hb3:=Nat.le_trans bulk hb2;refine⟨a4Z (s:=nm) (H:=H) (b:=_) (Nat.le_refl _) (by omega),g2.1 (by omega),a3t k3,a3t k4,fun j hj=> ?_,fun j hj=> ?_,fun j hj=> ?_⟩
    ·have hjb:j<pb.length:=by rw[q2];exact hj
     exact(q3 j hj hjb).1 (by have:=a4x (List.getElem_mem hjb);omega)
    ·have hjb:j<ib.length:=by rw[r2];exact hj
     exact(r3 j hj hjb).1 (by have:=a4x (List.getElem_mem hjb);omega)
    ·have hjb:j<hb.length:=by rw[s2];exact hj
     exact(s3 j hj hjb).1 (by have:=a4x (List.getElem_mem hjb);omega)
theorem b1o(rs:List a7M)(j:Nat)(hj:j<rs.length)(h:j<(rs.map (·.m)).length):(rs.map (·.m))[j]=(rs[j]).m:=by simp
theorem a5L:∀{W:World} {rs:List a7M} {bs:List Nat},bs.length=rs.length→(∀j (h1:j<rs.length) (h2:j<bs.length),a9G W rs[j] bs[j])→o9 (rs.map (·.m))≤12*bs.sum
 |_,[],[],_,_=>by simp[o9]
 |_,[],_::_,h,_=>by simp at h
 |_,_::_,[],h,_=>by simp at h
 |W,r::rs,b::bs,h,hg=>by
  have h0:=(hg 0 (by simp) (by simp)).cost;have h1:=a5L (W:=W) (rs:=rs) (bs:=bs) (by simpa using h) (fun j g1 g2=>by have:=hg (j+1) (by simpa using g1) (by simpa using g2);simpa using this);simp only[o9,List.map_cons,List.sum_cons,List.getElem_cons_zero]at h0 h1⊢;omega
theorem b6H{r:Reach}{b0:Nat}(hv:Value.okWide prog W r b0 44 v)(h:DataW.Trod en prog W 0 sp held 44 v d p)(hb:Rows.uptoBulk d≤1048576):
 ∃(c:Y9) (fa ma:Option Addr) (fk mk:Nat),v= .agg #[.string c.name, .string c.super, .slice fa c.fields.length fk, .slice ma c.methods.length mk]∧a1K c∧a0U c≤2^40∧B8 W W.heap.size 3 a0a fa c.fields∧l8 W W.heap.size ma c.methods∧(fa=none→c.fields=[]∧fk=0)∧(ma=none→c.methods=[]∧mk=0):=by
 obtain⟨v0,v1,v2,v3,y0,y1,y2,y3,n,rfl,rfl,rfl,h0,h1,h2,h3⟩:=Go.Joins.open_agg4 underlying44 (by kernel_rfl) cCl hv h;have h0':DataW.trod en prog W 0 sp held n 9 [v0]=some y0:=h0;have h1':DataW.trod en prog W 0 sp held n 9 [v1]=some y1:=h1;have h2':DataW.trod en prog W 0 sp held n 41 [v2]=some y2:=h2;have h3':DataW.trod en prog W 0 sp held n 42 [v3]=some y3:=h3;obtain⟨nm,e0,rfl,k0⟩:=DataW.trod_string underlying9 h0';obtain⟨su,e1,rfl,k1⟩:=DataW.trod_string underlying9 h1';obtain⟨fa,fk,fs,fb,e2,q1,q2,q3,q4,q5⟩:=a5C (enc:=a0a) b2I underlying41 b3L (fun _=>rfl) (by decide) c2e h2';obtain⟨ma,mk,rs,mb,e3,r1,r2,r3,r4,r5⟩:=a5C (enc:=xMe) (a9G W) underlying42 cMe (fun _=>rfl) (by decide) c3a h3';simp only[List.cons.injEq,and_true]at e0 e1;subst e0 e1 e2 e3;simp only[Rows.uptoBulk,Rows.uptoBulkAll]at hb;have hl:∀s:ByteArray,s.data.toList.length=s.size:=fun s=>by simp
 have h1n:=hl nm;have h1s:=hl su;have lf:=a5O (bs:=fb) (fun b hb=>by obtain⟨j,hj,rfl⟩:=List.getElem_of_mem hb;exact(q3 j (by omega) hj).2);have hcs:=a5L r2 r3;refine⟨⟨nm,su,fs,rs.map (·.m)⟩,fa,ma,fk,mk,by simp,⟨by unfold l6;simp only;omega,by unfold l6;simp only;omega,fun j hj=> ?_,fun j hj=> ?_⟩,?_,q5,fun j hj=> ?_,q1,fun e=> ?_⟩
 ·have hjb:j<fb.length:=by rw[q2];exact hj
  exact(q3 j hj hjb).1 (by have:=a4x (List.getElem_mem hjb);omega)
 ·have hjr:j<rs.length:=by simpa using hj
  have hjb:j<mb.length:=by rw[r2];exact hjr
  show a4k (rs.map (·.m))[j];rw[b1o rs j hjr];exact(r3 j hjr hjb).ok (by have:=a4x (List.getElem_mem hjb);omega)
 ·unfold a0U;simp only;omega
 ·have hjr:j<rs.length:=by simpa using hj
  have hjb:j<mb.length:=by rw[r2];exact hjr
  have g:=r3 j hjr hjb;obtain⟨p,hp1,hp2,hp3⟩:=r5 j hjr;have em:(rs.map (·.m))[j]'(by simpa using hjr)=rs[j].m:=b1o rs j hjr _;refine⟨p,rs[j].pa,rs[j].ca,rs[j].ha,rs[j].pk,rs[j].ck,rs[j].hk,hp1,hp2,?_⟩;simp only[em];exact⟨g.params,g.code,g.hds,hp3⟩
 ·obtain⟨h5,h6⟩:=r1 e;exact⟨by simp[h5],h6⟩
end
end Go.Proofs.YtdhophglnhcjbaaGreatDoor
