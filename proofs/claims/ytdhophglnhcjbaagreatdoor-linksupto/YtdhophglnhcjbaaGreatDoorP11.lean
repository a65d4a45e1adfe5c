/- P11: a part of the proof that the last text tells. -/
import Derived.Test.YtdhophglnhcjbaaGreatDoorP10
import Derived.Deep.CutRange
import Derived.Deep.RegionHeld2
import Derived.Test.YtdhophglnhcjbaaGreatDoorP00
import Derived.Deep.AppendLies
import Derived.Deep.Upon
set_option linter.all false
namespace Go.Proofs.YtdhophglnhcjbaaGreatDoor
open Go.RowKit Go.Shelf Cf
namespace Kx
def Z8(n:Nat):List Value:=[.int .i64 n]
set_option maxRecDepth 100000 in
set_option maxHeartbeats 4000000 in
theorem a7g(w:World)(i:In)(at_:Nat)(hat:at_≤65536)(ha:12≤i.op→i.op≤15→0≤i.a):Calls Tryz.prog 268 #[.agg #[.int .i64 i.op, .int .i64 i.a, .string i.cls, .string i.mem], .int .i64 at_] w fun e w'=>w.grownBy w' none∧∃v,e= .returned v∧w'.ownsRow w.heap.size 3 1 v (G6 i at_).length ((G6 i at_).flatMap Z8):=by
 obtain⟨op,a,cs,ms⟩:=i;dsimp only at ha⊢;have hc:op=20∨op=30∨op=12∨op=13∨op=14∨op=15∨(op≠20∧op≠30∧op≠12∧op≠13∧op≠14∧op≠15):=by omega
 rcases hc with rfl|rfl|rfl|rfl|rfl|rfl|⟨h20,h30,h12,h13,h14,h15⟩
 ·clear ha;have HG:Hid (w.grownBy (w.alloc (.cells #[.int .i64 20, .int .i64 a, .string cs, .string ms] 120)) none):=A2 _ _ _;have hb:=A3.new w #[.int .i64 20, .int .i64 a, .string cs, .string ms] 120;have c0:=hb.c0;have c1:=hb.c1;clear hb;go_enter Tryz.func268,Tryz.ntmps268;go_wp2_with fail
  all_goals exact bodyPost_ret (v:= .slice none 0 0) (by simp[results,Tryz.results268,go_sem]) rfl ⟨HG.out,_,rfl,by simp only[G6];exact World.ownsRow_nil _ _ _ _⟩
 ·clear ha;have HG:Hid (w.grownBy (w.alloc (.cells #[.int .i64 30, .int .i64 a, .string cs, .string ms] 120)) none):=A2 _ _ _;have hb:=A3.new w #[.int .i64 30, .int .i64 a, .string cs, .string ms] 120;have c0:=hb.c0;have c1:=hb.c1;clear hb;go_enter Tryz.func268,Tryz.ntmps268;go_wp2_with fail
  all_goals exact bodyPost_ret (v:= .slice none 0 0) (by simp[results,Tryz.results268,go_sem]) rfl ⟨HG.out,_,rfl,by simp only[G6];exact World.ownsRow_nil _ _ _ _⟩
 ·have HAI:Hid (((a.toNat:Nat):Int)=a):=by have:=ha (by decide) (by decide);unfold Hid;omega
  have HGO:Hid (G6 ⟨12,a,cs,ms⟩ at_=[a.toNat]):=rfl;clear ha;have HG:Hid (w.grownBy (w.alloc (.cells #[.int .i64 12, .int .i64 a, .string cs, .string ms] 120)) none):=A2 _ _ _;have hb:=A3.new w #[.int .i64 12, .int .i64 a, .string cs, .string ms] 120;have c0:=hb.c0;have c1:=hb.c1;clear hb;go_enter Tryz.func268,Tryz.ntmps268;go_wp2_with fail
  all_goals exact bodyPost_ret (v:= .slice (some ⟨w.heap.size+1,0,none⟩) 1 1) (by simp[results,Tryz.results268,go_sem]) rfl ⟨A1 HG.out (A2 _ (.cells #[.int .i64 a] 3) _),_,rfl,by
   have ho:=a0f (w.alloc (.cells #[.int .i64 12, .int .i64 a, .string cs, .string ms] 120)) 3 1 1 w.heap.size [.int .i64 a] (by simp) (by simp) (by unfold maxLen;omega);rw[HGO.out];simpa[Z8,HAI.out]using ho⟩
 ·have HAI:Hid (((a.toNat:Nat):Int)=a):=by have:=ha (by decide) (by decide);unfold Hid;omega
  have HGO:Hid (G6 ⟨13,a,cs,ms⟩ at_=[at_+1,a.toNat]):=rfl;clear ha;have HG:Hid (w.grownBy (w.alloc (.cells #[.int .i64 13, .int .i64 a, .string cs, .string ms] 120)) none):=A2 _ _ _;have hb:=A3.new w #[.int .i64 13, .int .i64 a, .string cs, .string ms] 120;have c0:=hb.c0;have c1:=hb.c1;clear hb;go_enter Tryz.func268,Tryz.ntmps268;go_wp2_with fail
  all_goals exact bodyPost_ret (v:= .slice (some ⟨w.heap.size+1,0,none⟩) 2 2) (by simp[results,Tryz.results268,go_sem]) rfl ⟨A1 HG.out (A2 _ (.cells #[.int .i64 (at_+1), .int .i64 a] 3) _),_,rfl,by
   have ho:=a0f (w.alloc (.cells #[.int .i64 13, .int .i64 a, .string cs, .string ms] 120)) 3 1 2 w.heap.size [.int .i64 (at_+1), .int .i64 a] (by simp) (by simp) (by unfold maxLen;omega);rw[HGO.out];simpa[Z8,HAI.out]using ho⟩
 ·have HAI:Hid (((a.toNat:Nat):Int)=a):=by have:=ha (by decide) (by decide);unfold Hid;omega
  have HGO:Hid (G6 ⟨14,a,cs,ms⟩ at_=[at_+1,a.toNat]):=rfl;clear ha;have HG:Hid (w.grownBy (w.alloc (.cells #[.int .i64 14, .int .i64 a, .string cs, .string ms] 120)) none):=A2 _ _ _;have hb:=A3.new w #[.int .i64 14, .int .i64 a, .string cs, .string ms] 120;have c0:=hb.c0;have c1:=hb.c1;clear hb;go_enter Tryz.func268,Tryz.ntmps268;go_wp2_with fail
  all_goals exact bodyPost_ret (v:= .slice (some ⟨w.heap.size+1,0,none⟩) 2 2) (by simp[results,Tryz.results268,go_sem]) rfl ⟨A1 HG.out (A2 _ (.cells #[.int .i64 (at_+1), .int .i64 a] 3) _),_,rfl,by
   have ho:=a0f (w.alloc (.cells #[.int .i64 14, .int .i64 a, .string cs, .string ms] 120)) 3 1 2 w.heap.size [.int .i64 (at_+1), .int .i64 a] (by simp) (by simp) (by unfold maxLen;omega);rw[HGO.out];simpa[Z8,HAI.out]using ho⟩
 ·have HAI:Hid (((a.toNat:Nat):Int)=a):=by have:=ha (by decide) (by decide);unfold Hid;omega
  have HGO:Hid (G6 ⟨15,a,cs,ms⟩ at_=[at_+1,a.toNat]):=rfl;clear ha;have HG:Hid (w.grownBy (w.alloc (.cells #[.int .i64 15, .int .i64 a, .string cs, .string ms] 120)) none):=A2 _ _ _;have hb:=A3.new w #[.int .i64 15, .int .i64 a, .string cs, .string ms] 120;have c0:=hb.c0;have c1:=hb.c1;clear hb;go_enter Tryz.func268,Tryz.ntmps268;go_wp2_with fail
  all_goals exact bodyPost_ret (v:= .slice (some ⟨w.heap.size+1,0,none⟩) 2 2) (by simp[results,Tryz.results268,go_sem]) rfl ⟨A1 HG.out (A2 _ (.cells #[.int .i64 (at_+1), .int .i64 a] 3) _),_,rfl,by
   have ho:=a0f (w.alloc (.cells #[.int .i64 15, .int .i64 a, .string cs, .string ms] 120)) 3 1 2 w.heap.size [.int .i64 (at_+1), .int .i64 a] (by simp) (by simp) (by unfold maxLen;omega);rw[HGO.out];simpa[Z8,HAI.out]using ho⟩
 ·have HAI:=A0 trivial;have HGO:Hid (G6 ⟨op,a,cs,ms⟩ at_=[at_+1]):=by unfold Hid G6;simp[h20,h30,h12];omega
  have k20:¬(op:Int)=20:=by omega
  have k30:¬(op:Int)=30:=by omega
  have k12:¬(op:Int)=12:=by omega
  have k13:¬(op:Int)=13:=by omega
  have k14:¬(op:Int)=14:=by omega
  have k15:¬(op:Int)=15:=by omega
  clear ha;have HG:Hid (w.grownBy (w.alloc (.cells #[.int .i64 op, .int .i64 a, .string cs, .string ms] 120)) none):=A2 _ _ _;have hb:=A3.new w #[.int .i64 op, .int .i64 a, .string cs, .string ms] 120;have c0:=hb.c0;have c1:=hb.c1;clear hb;go_enter Tryz.func268,Tryz.ntmps268;go_wp2_with fail
  all_goals exact bodyPost_ret (v:= .slice (some ⟨w.heap.size+1,0,none⟩) 1 1) (by simp[results,Tryz.results268,go_sem]) rfl ⟨A1 HG.out (A2 _ (.cells #[.int .i64 (at_+1)] 3) _),_,rfl,by
   have ho:=a0f (w.alloc (.cells #[.int .i64 op, .int .i64 a, .string cs, .string ms] 120)) 3 1 1 w.heap.size [.int .i64 (at_+1)] (by simp) (by simp) (by unfold maxLen;omega);rw[HGO.out];simpa[Z8,HAI.out]using ho⟩
def a3h(t:Ty):Value:=match a2b t with
 |some u=> .tuple #[.agg #[.int .i64 u.kind, .string u.name], .bool true]
 |none=> .tuple #[.agg #[.int .i64 0, .string ⟨#[]⟩], .bool false]
set_option maxRecDepth 100000 in
set_option maxHeartbeats 4000000 in
theorem a6C(w:World)(t:Ty)(ht:t.kind=5→t.name=⟨#[]⟩):Calls Tryz.prog 271 #[.agg #[.int .i64 t.kind, .string t.name]] w fun e w'=>w.grownBy w' none∧e= .returned (a3h t):=by
 obtain⟨k,nm⟩:=t;dsimp only at ht⊢;have hc:k=4∨k=5∨(k≠4∧k≠5):=by omega
 rcases hc with rfl|rfl|⟨h4,h5⟩
 ·have HG:Hid (w.grownBy ((w.alloc (.cells #[.int .i64 4, .string nm] 98)).alloc (.cells #[.int .i64 0, .string ⟨#[]⟩] 98)) none):=A1 (A2 _ _ _) (A2 _ _ _)
  have HB:Hid (A3 ((w.alloc (.cells #[.int .i64 4, .string nm] 98)).alloc (.cells #[.int .i64 0, .string ⟨#[]⟩] 98)) (w.heap.size+1) #[.int .i64 0, .string ⟨#[]⟩] 98):=by
   have:=A3.new (w.alloc (.cells #[.int .i64 4, .string nm] 98)) #[.int .i64 0, .string ⟨#[]⟩] 98;rw[World.size_alloc]at this;exact this
  have HN:Hid (a3h ⟨4,nm⟩= .tuple #[.agg #[.int .i64 2, .string nm], .bool true]):=rfl;clear ht;go_enter Tryz.func271,Tryz.ntmps271;go_wp2_with (go_at_call 267;refine(U8 _ _).mono ?_)
  rintro e w1 ⟨rfl,hg1⟩;have hb1:=HB.out.keep hg1 (by simp);have r0:=hb1.cell 0 _ rfl;have r1:=hb1.cell 1 _ rfl;have z0:=hb1.frozen 0;have z1:=hb1.frozen 1;go_wp2_with fail
  all_goals
   clear r0 r1 z0 z1;have hb6:=(hb1.set 0 (.int .i64 2)).set 1 (.string nm);have hg6:=C7 (A1 HG.out hg1) (A1 (A6 w1 ⟨w.heap.size+1,0,none⟩ (.int .i64 2)) (A6 _ ⟨w.heap.size+1,1,none⟩ (.string nm))) (fun k e=>by cases e;exact .inl (Nat.le_succ _));generalize (w1.setCell ⟨w.heap.size+1,0,none⟩ (.int .i64 2)).setCell ⟨w.heap.size+1,1,none⟩ (.string nm)=W6 at hb6 hg6⊢;have q0:=hb6.c0;have q1:=hb6.c1;exact bodyPost_ret (v:= .tuple #[.agg #[.int .i64 2, .string nm], .bool true]) (by simp[results,Tryz.results271,go_sem,q0,q1]) rfl ⟨hg6,rfl⟩
 ·obtain rfl:=ht rfl;clear ht;go_enter Tryz.func271,Tryz.ntmps271;go_wp2_with fail
  all_goals
   have hb:=A3.new (w.alloc (.cells #[.int .i64 5, .string ⟨#[]⟩] 98)) #[.int .i64 5, .string ⟨#[]⟩] 98;rw[World.size_alloc]at hb;have q0:=hb.c0;have q1:=hb.c1;exact bodyPost_ret (v:= .tuple #[.agg #[.int .i64 5, .string ⟨#[]⟩], .bool true]) (by simp[results,Tryz.results271,go_sem,q0,q1]) rfl ⟨A1 (A2 _ _ _) (A2 _ _ _),rfl⟩
 ·have k4:¬(k:Int)=4:=by omega
  have k5:¬(k:Int)=5:=by omega
  clear ht;go_enter Tryz.func271,Tryz.ntmps271;go_wp2_with fail
  all_goals
   have hb:=A3.new (w.alloc (.cells #[.int .i64 k, .string nm] 98)) #[.int .i64 0, .string ⟨#[]⟩] 98;rw[World.size_alloc]at hb;have q0:=hb.c0;have q1:=hb.c1;exact bodyPost_ret (v:= .tuple #[.agg #[.int .i64 0, .string ⟨#[]⟩], .bool false]) (by simp[results,Tryz.results271,go_sem,q0,q1]) rfl ⟨A1 (A2 _ _ _) (A2 _ _ _),by simp[a3h,a2b,h4,h5]⟩
structure Lk(w:World)(lim b:Nat)(L:List Cl)(p:Addr)(cap m1 m2 m3:Nat)(q:Nat→Qs):Prop where
 kls:I9 w lim b L p cap m1 m2 m3 q
 up:UpL L
 dist:t9 L
 named:a6h L
 sf:l5 K5 L
 sm:l5 G2 L
 pf:U0 w lim L q
 pm:O9 w lim L q
variable {W w w':World}
variable {lim r:Nat}
theorem Lk.keep{b:Nat}{L:List Cl}{p:Addr}{cap m1 m2 m3:Nat}{q:Nat→Qs}(h:Lk w lim b L p cap m1 m2 m3 q)(hg:w.grownBy w' none)(hl:lim≤w.heap.size):Lk w' lim b L p cap m1 m2 m3 q:=
 ⟨h.kls.keep hg hl,h.up,h.dist,h.named,h.sf,h.sm,fun i hi=>(h.pf i hi).keep hg,h.pm.keep hg⟩
theorem b2v(L:List Cl)(i:In):∃bo,a1p L i.cls i.mem= .tuple #[.agg #[.int .i64 (Y2 L i).kind, .string (Y2 L i).name], .bool bo]:=by
 unfold a1p Y2;cases R0 L i.cls i.mem with
 |none=>exact⟨false,rfl⟩
 |some p=>exact⟨true,rfl⟩
set_option maxRecDepth 100000 in
set_option maxHeartbeats 4000000 in
theorem a8v(w:World)(lim b:Nat)(L:List Cl)(p:Addr)(cap m1 m2 m3:Nat)(q:Nat→Qs)(h:Hid (Lk w lim b L p cap m1 m2 m3 q))(hl:lim≤w.heap.size)(i:In)(hc:i.cls.size≤maxLen)(hm:i.mem.size≤maxLen):
 Calls Tryz.prog 322 #[.pointer (some ⟨b,0,none⟩), .agg #[.int .i64 i.op, .int .i64 i.a, .string i.cls, .string i.mem]] w fun e w'=>e= .returned (.agg #[.int .i64 (Y2 L i).kind, .string (Y2 L i).name])∧w.grownBy w' none:=by
 obtain⟨bo,hbo⟩:=b2v L i;generalize Y2 L i=T at hbo⊢;obtain⟨tk,tn⟩:=T;obtain⟨op,a,cs,ms⟩:=i;dsimp only at hbo hc hm⊢;have HW:Hid (w.grownBy ((w.alloc (.cells #[.int .i64 op, .int .i64 a, .string cs, .string ms] 120)).alloc (.cells #[.int .i64 0, .string ⟨#[]⟩] 98)) none):=A1 (A2 _ _ _) (A2 _ _ _)
 have HF:Hid (Calls Tryz.prog 248 #[.pointer (some ⟨b,0,none⟩), .string cs, .string ms] ((w.alloc (.cells #[.int .i64 op, .int .i64 a, .string cs, .string ms] 120)).alloc (.cells #[.int .i64 0, .string ⟨#[]⟩] 98)) fun e w'=>e= .returned (.tuple #[.agg #[.int .i64 tk, .string tn], .bool bo])∧((w.alloc (.cells #[.int .i64 op, .int .i64 a, .string cs, .string ms] 120)).alloc (.cells #[.int .i64 0, .string ⟨#[]⟩] 98)).grownBy w' none):=by
  have hk:=h.out.keep HW.out hl;have:=a4z _ lim b L p cap m1 m2 m3 q hk.kls (Nat.le_trans hl HW.out.size) hk.up hk.dist hk.sf hk.pf cs ms hc hm;rw[hbo]at this;exact this
 have HB:Hid (A3 ((w.alloc (.cells #[.int .i64 op, .int .i64 a, .string cs, .string ms] 120)).alloc (.cells #[.int .i64 0, .string ⟨#[]⟩] 98)) (w.heap.size+1) #[.int .i64 0, .string ⟨#[]⟩] 98):=by
  have:=A3.new (w.alloc (.cells #[.int .i64 op, .int .i64 a, .string cs, .string ms] 120)) #[.int .i64 0, .string ⟨#[]⟩] 98;rw[World.size_alloc]at this;exact this
 clear hbo h hc hm;go_enter Tryz.func322,Tryz.ntmps322;go_wp2_with (go_at_call 248;refine HF.out.mono ?_)
 rintro e w1 ⟨rfl,hg1⟩;have hb1:=HB.out.keep hg1 (by simp);have hb4:=hb1.keep (A2 w1 (.cells #[.int .i64 tk, .string tn] 98) none) (by simp);have hp4:=A3.new w1 #[.int .i64 tk, .string tn] 98;have r0:=hb4.cell 0 _ rfl;have r1:=hb4.cell 1 _ rfl;have z0:=hb4.frozen 0;have z1:=hb4.frozen 1;have p0:=hp4.c0;have p1:=hp4.c1;clear hp4;go_wp2_with fail
 all_goals
  clear r0 r1 z0 z1 p0 p1;have hb6:=(hb4.set 0 (.int .i64 tk)).set 1 (.string tn);have hg6:=C7 (A1 (A1 HW.out hg1) (A2 w1 (.cells #[.int .i64 tk, .string tn] 98) none)) (A1 (A6 _ ⟨w.heap.size+1,0,none⟩ (.int .i64 tk)) (A6 _ ⟨w.heap.size+1,1,none⟩ (.string tn))) (fun k e=>by cases e;exact .inl (Nat.le_succ _));generalize ((w1.alloc (.cells #[.int .i64 tk, .string tn] 98)).setCell ⟨w.heap.size+1,0,none⟩ (.int .i64 tk)).setCell ⟨w.heap.size+1,1,none⟩ (.string tn)=W6 at hb6 hg6⊢;have q0:=hb6.c0;have q1:=hb6.c1;exact bodyPost_ret (v:= .agg #[.int .i64 tk, .string tn]) (by simp[results,Tryz.results322,go_sem,q0,q1]) rfl ⟨rfl,hg6⟩
structure a1D(w:World)(lim:Nat)(m:Me)(pa:Option Addr)(ca:Option Addr)(ha:Option Addr):Prop where
 params:C0 w lim 2 C1 pa m.params
 code:C0 w lim 4 L8 ca m.code
 handlers:C0 w lim 4 M6 ha m.handlers
variable {m:Me}
variable {ca ha pa:Option Addr}
theorem a1D.keep(h:a1D w lim m pa ca ha)(hg:w.grownBy w' none):a1D w' lim m pa ca ha:=⟨h.params.keep hg,h.code.keep hg,h.handlers.keep hg⟩
theorem c0J{g:Nat}{t:TypeId}{a0 a1 a2 a3 a4 a5 a6 a7:Value}(h:A3 w g #[a0,a1,a2,a3,a4,a5,a6,a7] t)(v0 v1 v2 v3 v4 v5 v6 v7:Value):
 A3 ((((((((w.setCell ⟨g,0,none⟩ v0).setCell ⟨g,1,none⟩ v1).setCell ⟨g,2,none⟩ v2).setCell ⟨g,3,none⟩ v3).setCell ⟨g,4,none⟩ v4).setCell ⟨g,5,none⟩ v5).setCell ⟨g,6,none⟩ v6).setCell ⟨g,7,none⟩ v7) g #[v0,v1,v2,v3,v4,v5,v6,v7] t:=
 by
 have h0:A3 _ g #[v0,a1,a2,a3,a4,a5,a6,a7] t:=h.set 0 v0;generalize w.setCell ⟨g,0,none⟩ v0=x0 at h0⊢;have h1:A3 _ g #[v0,v1,a2,a3,a4,a5,a6,a7] t:=h0.set 1 v1;generalize x0.setCell ⟨g,1,none⟩ v1=x1 at h1⊢;have h2:A3 _ g #[v0,v1,v2,a3,a4,a5,a6,a7] t:=h1.set 2 v2;generalize x1.setCell ⟨g,2,none⟩ v2=x2 at h2⊢;have h3:A3 _ g #[v0,v1,v2,v3,a4,a5,a6,a7] t:=h2.set 3 v3;generalize x2.setCell ⟨g,3,none⟩ v3=x3 at h3⊢;have h4:A3 _ g #[v0,v1,v2,v3,v4,a5,a6,a7] t:=h3.set 4 v4;generalize x3.setCell ⟨g,4,none⟩ v4=x4 at h4⊢;have h5:A3 _ g #[v0,v1,v2,v3,v4,v5,a6,a7] t:=h4.set 5 v5;generalize x4.setCell ⟨g,5,none⟩ v5=x5 at h5⊢;have h6:A3 _ g #[v0,v1,v2,v3,v4,v5,v6,a7] t:=h5.set 6 v6;generalize x5.setCell ⟨g,6,none⟩ v6=x6 at h6⊢;exact h6.set 7 v7
theorem c0o(w:World)(g:Nat)(v0 v1 v2 v3 v4 v5 v6 v7:Value):
 w.grownBy ((((((((w.setCell ⟨g,0,none⟩ v0).setCell ⟨g,1,none⟩ v1).setCell ⟨g,2,none⟩ v2).setCell ⟨g,3,none⟩ v3).setCell ⟨g,4,none⟩ v4).setCell ⟨g,5,none⟩ v5).setCell ⟨g,6,none⟩ v6).setCell ⟨g,7,none⟩ v7) (some g):=by
 have h0:=A6 w ⟨g,0,none⟩ v0;generalize w.setCell ⟨g,0,none⟩ v0=x0 at h0⊢;have h1:=A6 x0 ⟨g,1,none⟩ v1;generalize x0.setCell ⟨g,1,none⟩ v1=x1 at h1⊢;have h2:=A6 x1 ⟨g,2,none⟩ v2;generalize x1.setCell ⟨g,2,none⟩ v2=x2 at h2⊢;have h3:=A6 x2 ⟨g,3,none⟩ v3;generalize x2.setCell ⟨g,3,none⟩ v3=x3 at h3⊢;have h4:=A6 x3 ⟨g,4,none⟩ v4;generalize x3.setCell ⟨g,4,none⟩ v4=x4 at h4⊢;have h5:=A6 x4 ⟨g,5,none⟩ v5;generalize x4.setCell ⟨g,5,none⟩ v5=x5 at h5⊢;have h6:=A6 x5 ⟨g,6,none⟩ v6;generalize x5.setCell ⟨g,6,none⟩ v6=x6 at h6⊢;have h7:=A6 x6 ⟨g,7,none⟩ v7;exact A1 (A1 (A1 (A1 (A1 (A1 (A1 h0 h1) h2) h3) h4) h5) h6) h7
theorem C0.far{α:Type}{sz:Nat}{enc:α→List Value}{a:Option Addr}{xs:List α}(h:C0 w lim sz enc a xs)(hg:w.grownBy w' (some r))(hr:lim≤r):C0 w' lim sz enc a xs:=by
 intro j hj;obtain⟨p,h1,h2,h3⟩:=h j hj;exact⟨p,h1,h2,fun k u hu=>hg.cell (h3 k u hu) (by rw[a1l];intro e;cases e;omega)⟩
theorem a1D.far(h:a1D w lim m pa ca ha)(hg:w.grownBy w' (some r))(hr:lim≤r):a1D w' lim m pa ca ha:=⟨C0.far h.params hg hr,C0.far h.code hg hr,C0.far h.handlers hg hr⟩
set_option maxRecDepth 100000 in
set_option maxHeartbeats 4000000 in
theorem a9p(w:World)(lim b:Nat)(L:List Cl)(p:Addr)(cap m1 m2 m3:Nat)(q:Nat→Qs)(h:Hid (Lk w lim b L p cap m1 m2 m3 q))(hl:lim≤w.heap.size)(i:In)(hc:i.cls.size≤maxLen)(hm:i.mem.size≤maxLen)(k:Nat×Nat)(hk:O7 L i.cls i.mem=some k):
 Calls Tryz.prog 323 #[.pointer (some ⟨b,0,none⟩), .agg #[.int .i64 i.op, .int .i64 i.a, .string i.cls, .string i.mem]] w fun e w'=>w.grownBy w' none∧∃pa ca ha pk ck hk,e= .returned (.agg (mv (O0 L i) pa pk ca ck ha hk).toArray)∧a1D w' lim (O0 L i) pa ca ha:=by
 have hca:O0 L i=g9 L k:=by unfold O0;rw[hk]
 obtain⟨op,a,cs,ms⟩:=i;dsimp only at hk hc hm⊢;have HW:Hid (w.grownBy ((w.alloc (.cells #[.int .i64 op, .int .i64 a, .string cs, .string ms] 120)).alloc (.cells mZ 102)) none):=A1 (A2 _ _ _) (A2 _ _ _);obtain⟨me,hme⟩:∃me,me=O0 L ⟨op,a,cs,ms⟩:=⟨_,rfl⟩
 have HF:Hid (Calls Tryz.prog 62 #[.pointer (some ⟨b,0,none⟩), .string cs, .string ms] ((w.alloc (.cells #[.int .i64 op, .int .i64 a, .string cs, .string ms] 120)).alloc (.cells mZ 102)) fun e w'=>((w.alloc (.cells #[.int .i64 op, .int .i64 a, .string cs, .string ms] 120)).alloc (.cells mZ 102)).grownBy w' none∧∃pa ca ha pk ck hk,e= .returned (.tuple #[.agg (mV me pa pk ca ck ha hk), .bool true])∧a1D ((w.alloc (.cells #[.int .i64 op, .int .i64 a, .string cs, .string ms] 120)).alloc (.cells mZ 102)) lim me pa ca ha):=by
  have hkk:=h.out.keep HW.out hl;refine(a8I _ lim b L p cap m1 m2 m3 q hkk.kls (Nat.le_trans hl HW.out.size) hkk.up hkk.dist hkk.named hkk.sm hkk.pm cs ms hc hm).mono ?_;rintro e w' ⟨hg,ha⟩;rw[hk]at ha;obtain⟨pa,ca,ha,pk,ck,hk,rfl,h1,h2,h3⟩:=ha;rw[hme,hca];exact⟨hg,pa,ca,ha,pk,ck,hk,rfl,h1,h2,h3⟩
 have HB:Hid (A3 ((w.alloc (.cells #[.int .i64 op, .int .i64 a, .string cs, .string ms] 120)).alloc (.cells mZ 102)) (w.heap.size+1) mZ 102):=by
  have:=A3.new (w.alloc (.cells #[.int .i64 op, .int .i64 a, .string cs, .string ms] 120)) mZ 102;rw[World.size_alloc]at this;exact this
 rw[←hme];clear hca hk h hc hm hme;go_enter Tryz.func323,Tryz.ntmps323;go_wp2_with (go_at_call 62;refine HF.out.mono ?_)
 rintro e w1 ⟨hg1,pa,ca,ha,pk,ck,hk,rfl,hrd⟩;have hb1:=HB.out.keep hg1 (by simp);have hb4:=hb1.keep (A2 w1 (.cells (mV me pa pk ca ck ha hk) 102) none) (by simp);have hp4:=A3.new w1 (mV me pa pk ca ck ha hk) 102;have r0:=hb4.cell 0 _ rfl;have z0:=hb4.frozen 0;have p0:=hp4.c0;have r1:=hb4.cell 1 _ rfl;have z1:=hb4.frozen 1;have p1:=hp4.c1;have r2:=hb4.cell 2 _ rfl;have z2:=hb4.frozen 2;have p2:=hp4.c2;have r3:=hb4.cell 3 _ rfl;have z3:=hb4.frozen 3;have p3:=hp4.c3;have r4:=hb4.cell 4 _ rfl;have z4:=hb4.frozen 4;have p4:=hp4.c4;have r5:=hb4.cell 5 _ rfl;have z5:=hb4.frozen 5;have p5:=hp4.c5;have r6:=hb4.cell 6 _ rfl;have z6:=hb4.frozen 6;have p6:=hp4.c6;have r7:=hb4.cell 7 _ rfl;have z7:=hb4.frozen 7;have p7:=hp4.c7;have hrd4:=hrd.keep (A1 hg1 (A2 w1 (.cells (mV me pa pk ca ck ha hk) 102) none));clear hp4;go_wp2_with fail
 all_goals
  clear r0 z0 p0 r1 z1 p1 r2 z2 p2 r3 z3 p3 r4 z4 p4 r5 z5 p5 r6 z6 p6 r7 z7 p7;have hb6:=c0J hb4 (.string me.name) (.slice pa me.params.length pk) (.int .i64 me.ret.kind) (.string me.ret.name) (.int .i64 me.stack) (.int .i64 me.locals) (.slice ca me.code.length ck) (.slice ha me.handlers.length hk);have hs6:=c0o (w1.alloc (.cells (mV me pa pk ca ck ha hk) 102)) (w.heap.size+1) (.string me.name) (.slice pa me.params.length pk) (.int .i64 me.ret.kind) (.string me.ret.name) (.int .i64 me.stack) (.int .i64 me.locals) (.slice ca me.code.length ck) (.slice ha me.handlers.length hk);have hg6:=C7 (A1 (A1 HW.out hg1) (A2 w1 (.cells (mV me pa pk ca ck ha hk) 102) none)) hs6 (fun k e=>by cases e;exact .inl (Nat.le_succ _));have hrd6:=hrd4.far hs6 (by omega);generalize (((((((((w1.alloc (.cells (mV me pa pk ca ck ha hk) 102)).setCell ⟨w.heap.size+1,0,none⟩ (.string me.name)).setCell ⟨w.heap.size+1,1,none⟩ (.slice pa me.params.length pk)).setCell ⟨w.heap.size+1,2,none⟩ (.int .i64 me.ret.kind)).setCell ⟨w.heap.size+1,3,none⟩ (.string me.ret.name)).setCell ⟨w.heap.size+1,4,none⟩ (.int .i64 me.stack)).setCell ⟨w.heap.size+1,5,none⟩ (.int .i64 me.locals)).setCell ⟨w.heap.size+1,6,none⟩ (.slice ca me.code.length ck)).setCell ⟨w.heap.size+1,7,none⟩ (.slice ha me.handlers.length hk))=W6 at hb6 hg6 hrd6⊢;have q0:=hb6.c0;have q1:=hb6.c1;have q2:=hb6.c2;have q3:=hb6.c3;have q4:=hb6.c4;have q5:=hb6.c5;have q6:=hb6.c6;have q7:=hb6.c7;exact bodyPost_ret (v:= .agg (mV me pa pk ca ck ha hk)) (by simp[results,Tryz.results323,go_sem,q0,q1,q2,q3,q4,q5,q6,q7]) rfl ⟨hg6,pa,ca,ha,pk,ck,hk,rfl,hrd6⟩
theorem a3T{r:Option Nat}(h:w.grownBy w' r):w.heap.size≤w'.heap.size:=h.size
def a3g(cs:ByteArray)(op:Nat)(t:Ty):Prop:=
 (op=0∧t=P0)∨(op=1∧t=a0C)∨(op=2∧t=B6)∨(op=7∧t=P0)∨(op=8∧t=P0)∨(op=9∧t=P0)∨(op=10∧t=P0)∨(op=11∧t=P0)∨(op=16∧t=C9 cs)∨(op=21∧t=⟨3,C3⟩)∨(op=23∧t=P0)∨(op=24∧t=P0)∨(op=26∧t=B6)∨(op=28∧t=C9 cs)∨(op=29∧t=P0)
def a6a(w:World)(b:Nat)(L:List Cl)(a:Int)(cs ms:ByteArray)(op:Nat):Prop:=
 Calls Tryz.prog 273 #[.pointer (some ⟨b,0,none⟩), .agg #[.int .i64 op, .int .i64 a, .string cs, .string ms]] w fun e w'=>w.grownBy w' none∧∃v,e= .returned v∧w'.ownsRow w.heap.size 98 2 v (C4 L ⟨op,a,cs,ms⟩).length ((C4 L ⟨op,a,cs,ms⟩).flatMap C1)
set_option maxRecDepth 100000 in
set_option maxHeartbeats 40000000 in
theorem b6Q(w:World)(b:Nat)(L:List Cl)(a:Int)(cs ms:ByteArray)(op:Nat)(t:Ty)(ho:a3g cs op t):a6a w b L a cs ms op:=by
 unfold a6a
 have HPT:Hid (C4 L ⟨op,a,cs,ms⟩=[t]):=by
  rcases ho with h|h|h|h|h|h|h|h|h|h|h|h|h|h|h<;>(obtain⟨rfl,rfl⟩:=h;exact rfl)
 have HG0:Hid (w.grownBy (w.alloc (.cells #[.int .i64 op, .int .i64 a, .string cs, .string ms] 120)) none):=A2 _ _ _;have hb:=A3.new w #[.int .i64 op, .int .i64 a, .string cs, .string ms] 120;have c0:=hb.cell 0 _ rfl;have c1:=hb.cell 1 _ rfl;have c2:=hb.cell 2 _ rfl;have c3:=hb.cell 3 _ rfl;clear hb;rcases ho with h|h|h|h|h|h|h|h|h|h|h|h|h|h|h
 all_goals
  obtain⟨rfl,h2⟩:=h;have HT:Hid (_=_):=h2;clear h2;simp only[Int.natCast_zero,Int.natCast_one,Int.cast_ofNat_Int]at c0 c1 c2 c3 HG0⊢;go_enter Tryz.func273,Tryz.ntmps273;go_wp2_with (first|(go_at_call 320;refine(a9 _ _).mono ?_)|(go_at_call 267;refine(U8 _ _).mono ?_))
  rintro e w1 ⟨rfl,hg1⟩;go_wp2_with (go_at_call 321;refine(N3 _ _).mono ?_;rintro e w9 ⟨rfl,rfl⟩)
  all_goals exact bodyPost_ret (v:= .slice (some ⟨w1.heap.size,0,none⟩) 1 1) (by simp[results,Tryz.results273,go_sem]) rfl ⟨A1 (A1 HG0.out hg1) (A2 w1 _ none),_,rfl,by
   have ho:=a0f w1 98 2 1 w.heap.size (C1 t) rfl (a3T (A1 HG0.out hg1)) (by unfold maxLen;omega);rw[HPT.out];have e:=HT.out;subst e;simpa[C1,P0,a0C,B6,C9,C3]using ho⟩
set_option maxRecDepth 100000 in
set_option maxHeartbeats 40000000 in
theorem b0b(w:World)(b:Nat)(L:List Cl)(a:Int)(cs ms:ByteArray)(op:Nat)(ho:op=5∨op=6):a6a w b L a cs ms op:=by
 unfold a6a;have HPT:Hid (C4 L ⟨op,a,cs,ms⟩=[B6,B6]):=by rcases ho with rfl|rfl<;>exact rfl
 have HG0:Hid (w.grownBy (w.alloc (.cells #[.int .i64 op, .int .i64 a, .string cs, .string ms] 120)) none):=A2 _ _ _;have hb:=A3.new w #[.int .i64 op, .int .i64 a, .string cs, .string ms] 120;have c0:=hb.cell 0 _ rfl;have c1:=hb.cell 1 _ rfl;have c2:=hb.cell 2 _ rfl;have c3:=hb.cell 3 _ rfl;clear hb;rcases ho with rfl|rfl
 all_goals
  simp only[Int.cast_ofNat_Int]at c0 c1 c2 c3 HG0⊢;go_enter Tryz.func273,Tryz.ntmps273;go_wp2_with (go_at_call 320;refine(a9 _ _).mono ?_)
  rintro e w1 ⟨rfl,hg1⟩;go_wp2_with (go_at_call 320;refine(a9 _ _).mono ?_)
  rintro e w2 ⟨rfl,hg2⟩;go_wp2_with (go_at_call 321;refine(N3 _ _).mono ?_;rintro e w9 ⟨rfl,rfl⟩)
  all_goals exact bodyPost_ret (v:= .slice (some ⟨w2.heap.size,0,none⟩) 2 2) (by simp[results,Tryz.results273,go_sem]) rfl ⟨A1 (A1 (A1 HG0.out hg1) hg2) (A2 w2 _ none),_,rfl,by
   have ho:=a0f w2 98 2 2 w.heap.size [.int .i64 0, .string ⟨#[]⟩, .int .i64 0, .string ⟨#[]⟩] (by simp) (a3T (A1 (A1 HG0.out hg1) hg2)) (by unfold maxLen;omega);rw[HPT.out];simpa[C1,P0,a0C,B6,C9,C3]using ho⟩
theorem b9x(n rn:ByteArray)(rk st lo:Int)(pv cv hv:Value)(w:World):(Instr.field 102 (.agg #[.string n,pv, .int .i64 rk, .string rn, .int .i64 st, .int .i64 lo,cv,hv]) 2).run Tryz.prog w= .ok (.agg #[.int .i64 rk, .string rn]) w:=by kernel_rfl
set_option maxRecDepth 100000 in
set_option maxHeartbeats 4000000 in
theorem b8e(w:World)(b:Nat)(L:List Cl)(a:Int)(cs ms:ByteArray)(lim:Nat)(p:Addr)(cap m1 m2 m3:Nat)(q:Nat→Qs)(h:Hid (Lk w lim b L p cap m1 m2 m3 q))(hl:lim≤w.heap.size)(hc:cs.size≤maxLen)(hm:ms.size≤maxLen):Calls Tryz.prog 273 #[.pointer (some ⟨b,0,none⟩), .agg #[.int .i64 17, .int .i64 a, .string cs, .string ms]] w fun e w'=>w.grownBy w' none∧∃v,e= .returned v∧w'.ownsRow w.heap.size 98 2 v (C4 L ⟨17,a,cs,ms⟩).length ((C4 L ⟨17,a,cs,ms⟩).flatMap C1):=by
 obtain⟨fk,fn,hft⟩:∃fk fn,Y2 L ⟨17,a,cs,ms⟩=⟨fk,fn⟩:=⟨_,_,rfl⟩
 have HFT:Hid (Calls Tryz.prog 322 #[.pointer (some ⟨b,0,none⟩), .agg #[.int .i64 17, .int .i64 a, .string cs, .string ms]] (w.alloc (.cells #[.int .i64 17, .int .i64 a, .string cs, .string ms] 120)) fun e w'=>e= .returned (.agg #[.int .i64 fk, .string fn])∧(w.alloc (.cells #[.int .i64 17, .int .i64 a, .string cs, .string ms] 120)).grownBy w' none):=by
  have:=a8v (w.alloc (.cells #[.int .i64 17, .int .i64 a, .string cs, .string ms] 120)) lim b L p cap m1 m2 m3 q (h.out.keep (A2 _ _ _) hl) (by simp;omega) ⟨17,a,cs,ms⟩ hc hm;rw[hft]at this;exact this
 have HG0:Hid (w.grownBy (w.alloc (.cells #[.int .i64 17, .int .i64 a, .string cs, .string ms] 120)) none):=A2 _ _ _;have hb:=A3.new w #[.int .i64 17, .int .i64 a, .string cs, .string ms] 120;have c0:=hb.c0;have c1:=hb.c1;have c2:=hb.c2;have c3:=hb.c3;have HPT:Hid (C4 L ⟨17,a,cs,ms⟩=[⟨fk,fn⟩]):=by unfold Hid;rw[←hft];rfl
 clear hb;clear hft h hc hm;go_enter Tryz.func273,Tryz.ntmps273;go_wp2_with (go_at_call 322;refine HFT.out.mono ?_)
 rintro e w1 ⟨rfl,hg1⟩;go_wp2_with (go_at_call 321;refine(N3 _ _).mono ?_;rintro e w9 ⟨rfl,rfl⟩)
 all_goals exact bodyPost_ret (v:= .slice (some ⟨w1.heap.size,0,none⟩) 1 1) (by simp[results,Tryz.results273,go_sem]) rfl ⟨A1 (A1 HG0.out hg1) (A2 w1 (.cells #[.int .i64 fk, .string fn] 98) none),_,rfl,by
  have ho:=a0f w1 98 2 1 w.heap.size [.int .i64 fk, .string fn] (by simp) (a3T (A1 HG0.out hg1)) (by unfold maxLen;omega);rw[HPT.out];simpa[C1,P0,a0C,B6,C9,C3]using ho⟩
set_option maxRecDepth 100000 in
set_option maxHeartbeats 4000000 in
theorem b8d(w:World)(b:Nat)(L:List Cl)(a:Int)(cs ms:ByteArray)(lim:Nat)(p:Addr)(cap m1 m2 m3:Nat)(q:Nat→Qs)(h:Hid (Lk w lim b L p cap m1 m2 m3 q))(hl:lim≤w.heap.size)(hc:cs.size≤maxLen)(hm:ms.size≤maxLen)(k:Nat×Nat)(hk:O7 L cs ms=some k):Calls Tryz.prog 273 #[.pointer (some ⟨b,0,none⟩), .agg #[.int .i64 19, .int .i64 a, .string cs, .string ms]] w fun e w'=>w.grownBy w' none∧∃v,e= .returned v∧w'.ownsRow w.heap.size 98 2 v (C4 L ⟨19,a,cs,ms⟩).length ((C4 L ⟨19,a,cs,ms⟩).flatMap C1):=by
 have hca:C4 L ⟨19,a,cs,ms⟩=a0L (O0 L ⟨19,a,cs,ms⟩).ret:=rfl;rw[hca]
 have HCL:Hid (Calls Tryz.prog 323 #[.pointer (some ⟨b,0,none⟩), .agg #[.int .i64 19, .int .i64 a, .string cs, .string ms]] (w.alloc (.cells #[.int .i64 19, .int .i64 a, .string cs, .string ms] 120)) fun e w'=>(w.alloc (.cells #[.int .i64 19, .int .i64 a, .string cs, .string ms] 120)).grownBy w' none∧∃pa ca ha pk ck hk,e= .returned (.agg #[.string (O0 L ⟨19,a,cs,ms⟩).name, .slice pa (O0 L ⟨19,a,cs,ms⟩).params.length pk, .int .i64 (O0 L ⟨19,a,cs,ms⟩).ret.kind, .string (O0 L ⟨19,a,cs,ms⟩).ret.name, .int .i64 (O0 L ⟨19,a,cs,ms⟩).stack, .int .i64 (O0 L ⟨19,a,cs,ms⟩).locals, .slice ca (O0 L ⟨19,a,cs,ms⟩).code.length ck, .slice ha (O0 L ⟨19,a,cs,ms⟩).handlers.length hk])∧a1D w' lim (O0 L ⟨19,a,cs,ms⟩) pa ca ha):=
  a9p (w.alloc (.cells #[.int .i64 19, .int .i64 a, .string cs, .string ms] 120)) lim b L p cap m1 m2 m3 q (h.out.keep (A2 _ _ _) hl) (by simp;omega) ⟨19,a,cs,ms⟩ hc hm k hk
 generalize O0 L ⟨19,a,cs,ms⟩=me at HCL⊢;have HG0:Hid (w.grownBy (w.alloc (.cells #[.int .i64 19, .int .i64 a, .string cs, .string ms] 120)) none):=A2 _ _ _;have hb:=A3.new w #[.int .i64 19, .int .i64 a, .string cs, .string ms] 120;have c0:=hb.c0;have c1:=hb.c1;have c2:=hb.c2;have c3:=hb.c3;clear hb h hc hm hca hk;go_enter Tryz.func273,Tryz.ntmps273;go_wp2_with (go_at_call 323;refine HCL.out.mono ?_)
 rintro e w1 ⟨hg1,pa,ca,ha,pk,ck,hk,rfl,-⟩;have hfd:=b9x me.name me.ret.name (me.ret.kind:Int) (me.stack:Int) (me.locals:Int) (.slice pa me.params.length pk) (.slice ca me.code.length ck) (.slice ha me.handlers.length hk) w1;go_wp2_with (go_at_call 324;refine(a8n _ me.ret).mono ?_)
 rintro e w2 ⟨hg2,v,rfl,ho⟩;go_wp2_with fail
 all_goals exact bodyPost_ret (v:=v) (by simp[results,Tryz.results273,go_sem]) rfl ⟨A1 (A1 HG0.out hg1) hg2,v,rfl,S0 ho (a3T (A1 HG0.out hg1))⟩
set_option maxRecDepth 100000 in
set_option maxHeartbeats 4000000 in
theorem b8c(w:World)(b:Nat)(L:List Cl)(a:Int)(cs ms:ByteArray):Calls Tryz.prog 273 #[.pointer (some ⟨b,0,none⟩), .agg #[.int .i64 22, .int .i64 a, .string cs, .string ms]] w fun e w'=>w.grownBy w' none∧∃v,e= .returned v∧w'.ownsRow w.heap.size 98 2 v (C4 L ⟨22,a,cs,ms⟩).length ((C4 L ⟨22,a,cs,ms⟩).flatMap C1):=by
 have HG0:Hid (w.grownBy (w.alloc (.cells #[.int .i64 22, .int .i64 a, .string cs, .string ms] 120)) none):=A2 _ _ _;have hb:=A3.new w #[.int .i64 22, .int .i64 a, .string cs, .string ms] 120;have c0:=hb.c0;have c1:=hb.c1;have c2:=hb.c2;have c3:=hb.c3;have HPT:Hid (C4 L ⟨22,a,cs,ms⟩=[⟨4,cs⟩]):=rfl;clear hb;go_enter Tryz.func273,Tryz.ntmps273;go_wp2_with (go_at_call 321;refine(N3 _ _).mono ?_;rintro e w9 ⟨rfl,rfl⟩)
 all_goals exact bodyPost_ret (v:= .slice (some ⟨(w.alloc (.cells #[.int .i64 22, .int .i64 a, .string cs, .string ms] 120)).heap.size,0,none⟩) 1 1) (by simp[results,Tryz.results273,go_sem]) rfl ⟨A1 (HG0.out) (A2 (w.alloc (.cells #[.int .i64 22, .int .i64 a, .string cs, .string ms] 120)) (.cells #[.int .i64 4, .string cs] 98) none),_,rfl,by
  have ho:=a0f (w.alloc (.cells #[.int .i64 22, .int .i64 a, .string cs, .string ms] 120)) 98 2 1 w.heap.size [.int .i64 4, .string cs] (by simp) (a3T (HG0.out)) (by unfold maxLen;omega);rw[HPT.out];simpa[C1,P0,a0C,B6,C9,C3]using ho⟩
set_option maxRecDepth 100000 in
set_option maxHeartbeats 4000000 in
theorem b5z(w:World)(b:Nat)(L:List Cl)(a:Int)(cs ms:ByteArray)(op:Nat)(hop:op≠0∧op≠7∧op≠8∧op≠9∧op≠10∧op≠11∧op≠23∧op≠24∧op≠29∧op≠1∧op≠2∧op≠26∧op≠5∧op≠6∧op≠16∧op≠28∧op≠17∧op≠19∧op≠21∧op≠22):Calls Tryz.prog 273 #[.pointer (some ⟨b,0,none⟩), .agg #[.int .i64 op, .int .i64 a, .string cs, .string ms]] w fun e w'=>w.grownBy w' none∧∃v,e= .returned v∧w'.ownsRow w.heap.size 98 2 v (C4 L ⟨op,a,cs,ms⟩).length ((C4 L ⟨op,a,cs,ms⟩).flatMap C1):=by
 obtain⟨n0,n7,n8,n9,n10,n11,n23,n24,n29,n1,n2,n26,n5,n6,n16,n28,n17,n19,n21,n22⟩:=hop;have k0:¬(op:Int)=0:=by omega
 have k7:¬(op:Int)=7:=by omega
 have k8:¬(op:Int)=8:=by omega
 have k9:¬(op:Int)=9:=by omega
 have k10:¬(op:Int)=10:=by omega
 have k11:¬(op:Int)=11:=by omega
 have k23:¬(op:Int)=23:=by omega
 have k24:¬(op:Int)=24:=by omega
 have k29:¬(op:Int)=29:=by omega
 have k1:¬(op:Int)=1:=by omega
 have k2:¬(op:Int)=2:=by omega
 have k26:¬(op:Int)=26:=by omega
 have k5:¬(op:Int)=5:=by omega
 have k6:¬(op:Int)=6:=by omega
 have k16:¬(op:Int)=16:=by omega
 have k28:¬(op:Int)=28:=by omega
 have k17:¬(op:Int)=17:=by omega
 have k19:¬(op:Int)=19:=by omega
 have k21:¬(op:Int)=21:=by omega
 have k22:¬(op:Int)=22:=by omega
 have HPT:Hid (C4 L ⟨op,a,cs,ms⟩=[]):=by
  unfold Hid C4;dsimp only;rw[if_neg (by omega),if_neg (by omega),if_neg (by omega),if_neg (by omega),if_neg (by omega),if_neg (by omega),if_neg (by omega),if_neg (by omega),if_neg (by omega)]
 have HG0:Hid (w.grownBy (w.alloc (.cells #[.int .i64 op, .int .i64 a, .string cs, .string ms] 120)) none):=A2 _ _ _;have hb:=A3.new w #[.int .i64 op, .int .i64 a, .string cs, .string ms] 120;have c0:=hb.c0;clear hb;go_enter Tryz.func273,Tryz.ntmps273;go_wp2_with fail
 all_goals exact bodyPost_ret (v:= .slice none 0 0) (by simp[results,Tryz.results273,go_sem]) rfl ⟨HG0.out,_,rfl,by rw[HPT.out];exact World.ownsRow_nil _ _ _ _⟩
theorem b6R(w:World)(lim b:Nat)(L:List Cl)(p:Addr)(cap m1 m2 m3:Nat)(q:Nat→Qs)(h:Hid (Lk w lim b L p cap m1 m2 m3 q))(hl:lim≤w.heap.size)(i:In)(hc:i.cls.size≤maxLen)(hm:i.mem.size≤maxLen)(hk:i.op=19→∃k,O7 L i.cls i.mem=some k):
 Calls Tryz.prog 273 #[.pointer (some ⟨b,0,none⟩), .agg #[.int .i64 i.op, .int .i64 i.a, .string i.cls, .string i.mem]] w fun e w'=>w.grownBy w' none∧∃v,e= .returned v∧w'.ownsRow w.heap.size 98 2 v (C4 L i).length ((C4 L i).flatMap C1):=by
 obtain⟨op,a,cs,ms⟩:=i;dsimp only at hc hm hk⊢;have h1:=fun t ht=>b6Q w b L a cs ms op t ht
 have hcs:(∃t,a3g cs op t)∨op=5∨op=6∨op=17∨op=19∨op=22∨(op≠0∧op≠7∧op≠8∧op≠9∧op≠10∧op≠11∧op≠23∧op≠24∧op≠29∧op≠1∧op≠2∧op≠26∧op≠5∧op≠6∧op≠16∧op≠28∧op≠17∧op≠19∧op≠21∧op≠22):=by
  by_cases hI:op=0∨op=7∨op=8∨op=9∨op=10∨op=11∨op=23∨op=24∨op=29
  ·rcases hI with rfl|rfl|rfl|rfl|rfl|rfl|rfl|rfl|rfl<;>exact .inl ⟨P0,by simp[a3g]⟩
  by_cases hR:op=16∨op=28
  ·rcases hR with rfl|rfl<;>exact .inl ⟨C9 cs,by simp[a3g]⟩
  by_cases hN:op=2∨op=26
  ·rcases hN with rfl|rfl<;>exact .inl ⟨B6,by simp[a3g]⟩
  by_cases hL:op=1
  ·subst hL;exact .inl ⟨a0C,by simp[a3g]⟩
  by_cases hA:op=21
  ·subst hA;exact .inl ⟨⟨3,C3⟩,by simp[a3g]⟩
  omega
 rcases hcs with⟨t,ht⟩|h5|h6|rfl|rfl|rfl|hop
 ·exact h1 t ht
 ·exact b0b w b L a cs ms op (.inl h5)
 ·exact b0b w b L a cs ms op (.inr h6)
 ·exact b8e w b L a cs ms lim p cap m1 m2 m3 q h hl hc hm
 ·obtain⟨k,hk⟩:=hk rfl;exact b8d w b L a cs ms lim p cap m1 m2 m3 q h hl hc hm k hk
 ·exact b8c w b L a cs ms
 ·exact b5z w b L a cs ms op hop
def y8(tn pn ahead most:Nat)(ends:Bool):Value:=if ends then .tuple #[.int .i64 0, .bool (decide (tn≤ahead))]else .tuple #[.int .i64 ((ahead:Int)-tn+pn), .bool (decide (tn≤ahead)&&decide ((ahead:Int)-tn+pn≤most))]
set_option maxRecDepth 100000 in
set_option maxHeartbeats 4000000 in
theorem a9q(w:World)(ta pa:Option Addr)(tn tk pn pk ahead most:Nat)(ends:Bool)(h1:tn≤65536)(h2:pn≤65536)(h3:ahead≤65536)(h4:most≤65536):
 Calls Tryz.prog 275 #[.agg #[.slice ta tn tk, .slice pa pn pk, .bool ends], .int .i64 ahead, .int .i64 most] w fun e w'=>e= .returned (y8 tn pn ahead most ends)∧w.grownBy w' none:=by
 have hg:w.grownBy (w.alloc (.cells #[.slice ta tn tk, .slice pa pn pk, .bool ends] 315)) none:=A2 _ _ _;cases ends with
 |true=>
  by_cases hle:tn≤ahead
  ·have hle':(0:Int)≤(ahead:Int)-tn:=by omega
   go_enter Tryz.func275,Tryz.ntmps275;go_wp2_with fail
   all_goals exact bodyPost_ret (v:= .tuple #[.int .i64 0, .bool true]) (by simp[results,Tryz.results275,go_sem,hle,hle']) rfl ⟨by simp[y8,hle],hg⟩
  ·have hle':¬(0:Int)≤(ahead:Int)-tn:=by omega
   go_enter Tryz.func275,Tryz.ntmps275;go_wp2_with fail
   all_goals exact bodyPost_ret (v:= .tuple #[.int .i64 0, .bool false]) (by simp[results,Tryz.results275,go_sem,hle,hle']) rfl ⟨by simp[y8,hle],hg⟩
 |false=>
  by_cases hle:tn≤ahead
  ·have hle':(0:Int)≤(ahead:Int)-tn:=by omega
   by_cases hm:(ahead:Int)-tn+pn≤most
   ·go_enter Tryz.func275,Tryz.ntmps275;go_wp2_with fail
    all_goals exact bodyPost_ret (v:= .tuple #[.int .i64 ((ahead:Int)-tn+pn), .bool true]) (by simp[results,Tryz.results275,go_sem,hle,hle',hm]) rfl ⟨by simp[y8,hle,hm],hg⟩
   ·go_enter Tryz.func275,Tryz.ntmps275;go_wp2_with fail
    all_goals exact bodyPost_ret (v:= .tuple #[.int .i64 ((ahead:Int)-tn+pn), .bool false]) (by simp[results,Tryz.results275,go_sem,hle,hle',hm]) rfl ⟨by simp[y8,hle,hm],hg⟩
  ·have hle':¬(0:Int)≤(ahead:Int)-tn:=by omega
   go_enter Tryz.func275,Tryz.ntmps275;go_wp2_with fail
   all_goals exact bodyPost_ret (v:= .tuple #[.int .i64 ((ahead:Int)-tn+pn), .bool false]) (by simp[results,Tryz.results275,go_sem,hle,hle']) rfl ⟨by simp[y8,hle],hg⟩
theorem e8{w1:World}(hg:W.grownBy w1 none):(∀b o,b<W.heap.size→w1.cell? ⟨b,o,none⟩=W.cell? ⟨b,o,none⟩)∧(∀b o,b<W.heap.size→w1.frozen? ⟨b,o,none⟩=W.frozen? ⟨b,o,none⟩):=
 ⟨fun b o h=>World.cell?_of_block (a:=⟨b,o,none⟩) (hg.block b h (by simp)),fun b o h=>World.frozen?_of_block (a:=⟨b,o,none⟩) (hg.block b h (by simp))⟩
theorem S7{TT:List Ty}(n:Nat)(cells:List Value)(hg:w.grownBy W none)(hc:cells=TT.flatMap C1)(hn:n=TT.length)(h2:n≤4):
 w.grownBy (W.alloc (.cells cells.toArray 98)) none∧∃v,Ending.returned (.slice (some ⟨W.heap.size,0,none⟩) n n)= .returned v∧(W.alloc (.cells cells.toArray 98)).ownsRow w.heap.size 98 2 v TT.length (TT.flatMap C1):=by
 refine⟨A1 hg (A2 _ _ _),_,rfl,?_⟩
 have hl:cells.length=n*2:=by
  rw[hc,hn]
  have:∀l:List Ty,(l.flatMap C1).length=l.length*2:=fun l=>by
   induction l with
   |nil=>rfl
   |cons a l ih=>simp only[List.flatMap_cons,List.length_append,List.length_cons,ih,C1,List.length_nil];omega
  exact this TT
 subst hc hn;exact a0f W 98 2 TT.length w.heap.size _ hl hg.size (by unfold maxLen;omega)
set_option maxRecDepth 100000 in
set_option maxHeartbeats 40000000 in
theorem b3k(w:World)(b:Nat)(L:List Cl)(pp:List Ty)(mn rn:ByteArray)(rk mst mlo:Nat)(mco:List In)(mha:List Hd)(pa ca ha:Option Addr)(pn pk cn ck hn hk:Nat)(op:Nat)(a:Int)(cs ms:ByteArray)
 (hop:op≠18∧op≠19):
 Calls Tryz.prog 272 #[.pointer (some ⟨b,0,none⟩), .agg #[.string mn, .slice pa pn pk, .int .i64 rk, .string rn, .int .i64 mst, .int .i64 mlo, .slice ca cn ck, .slice ha hn hk], .agg #[.int .i64 op, .int .i64 a, .string cs, .string ms]] w fun e w'=>w.grownBy w' none∧∃v,e= .returned v∧w'.ownsRow w.heap.size 98 2 v (F3 L ⟨mn,pp,⟨rk,rn⟩,mst,mlo,mco,mha⟩ ⟨op,a,cs,ms⟩).length ((F3 L ⟨mn,pp,⟨rk,rn⟩,mst,mlo,mco,mha⟩ ⟨op,a,cs,ms⟩).flatMap C1):=by
 generalize HTT:F3 L ⟨mn,pp,⟨rk,rn⟩,mst,mlo,mco,mha⟩ ⟨op,a,cs,ms⟩=TT;have HT:=A0 HTT;clear HTT;have hg0:w.grownBy ((w.alloc (.cells #[.string mn, .slice pa pn pk, .int .i64 rk, .string rn, .int .i64 mst, .int .i64 mlo, .slice ca cn ck, .slice ha hn hk] 102)).alloc (.cells #[.int .i64 op, .int .i64 a, .string cs, .string ms] 120)) none:=A1 (A2 _ _ _) (A2 _ _ _);have HG0:=A0 hg0;clear hg0;have hcs:op=3∨op=4∨op=5∨op=6∨op=7∨op=8∨op=9∨op=10∨op=11∨op=14∨op=13∨op=21∨op=22∨op=31∨op=15∨op=17∨op=20∨op=23∨op=28∨op=29∨op=26∨op=27∨op=30∨op=24∨op=25∨(op≠3∧op≠4∧op≠5∧op≠6∧op≠7∧op≠8∧op≠9∧op≠10∧op≠11∧op≠14∧op≠13∧op≠21∧op≠22∧op≠31∧op≠15∧op≠17∧op≠20∧op≠23∧op≠28∧op≠29∧op≠26∧op≠27∧op≠30∧op≠24∧op≠25):=by omega
 go_enter Tryz.func272,Tryz.ntmps272;go_wp2_with (go_at_call 320;refine(a9 _ _).mono ?_)
 rintro e w1 ⟨rfl,hg1⟩;obtain⟨hc1,hf1⟩:=e8 hg1;have hz1:=hg1.size;simp only[World.size_alloc]at hz1;have hy0:w.heap.size<w1.heap.size:=by omega
 have hy1:w.heap.size+1<w1.heap.size:=by omega
 go_wp2_with (go_at_call 267;refine(U8 _ _).mono ?_)
 rintro e w2 ⟨rfl,hg2⟩;obtain⟨hc2,hf2⟩:=e8 hg2;have hz2:=hg2.size;have hx0:w.heap.size<w2.heap.size:=by omega
 have hx1:w.heap.size+1<w2.heap.size:=by omega
 have HW2:Hid (w.grownBy ((w2.alloc (.cells #[.int .i64 1, .string ⟨#[]⟩] 98)).alloc (.cells #[.int .i64 2, .string ⟨#[79,98,106,101,99,116]⟩] 98)) none):=A1 (A1 (A1 (A1 HG0.out hg1) hg2) (A2 _ _ _)) (A2 _ _ _);clear hg1 hg2;go_upto_region 3 with fail
 rcases hcs with rfl|rfl|rfl|rfl|rfl|rfl|rfl|rfl|rfl|rfl|rfl|rfl|rfl|rfl|rfl|rfl|rfl|rfl|rfl|rfl|rfl|rfl|rfl|rfl|rfl|hne
 ·skip
  go_wp2_with (go_at_call 320;refine(a9 _ _).mono ?_)
  rintro e w3 ⟨rfl,hg3⟩;go_wp2_with (go_at_call 321;refine(N3 _ _).mono ?_;rintro e w9 ⟨rfl,rfl⟩)
  all_goals exact bodyPost_ret (v:= .slice (some ⟨w3.heap.size,0,none⟩) 1 1) (by simp[results,Tryz.results272,go_sem]) rfl (S7 1 [.int .i64 0, .string ⟨#[]⟩] (A1 HW2.out hg3) (by rw[HT.out.symm];rfl) (by rw[HT.out.symm];rfl) (by omega))
 ·skip
  go_wp2_with (go_at_call 320;refine(a9 _ _).mono ?_)
  rintro e w3 ⟨rfl,hg3⟩;go_wp2_with (go_at_call 321;refine(N3 _ _).mono ?_;rintro e w9 ⟨rfl,rfl⟩)
  all_goals exact bodyPost_ret (v:= .slice (some ⟨w3.heap.size,0,none⟩) 1 1) (by simp[results,Tryz.results272,go_sem]) rfl (S7 1 [.int .i64 0, .string ⟨#[]⟩] (A1 HW2.out hg3) (by rw[HT.out.symm];rfl) (by rw[HT.out.symm];rfl) (by omega))
 ·skip
  go_wp2_with (go_at_call 320;refine(a9 _ _).mono ?_)
  rintro e w3 ⟨rfl,hg3⟩;go_wp2_with (go_at_call 321;refine(N3 _ _).mono ?_;rintro e w9 ⟨rfl,rfl⟩)
  all_goals exact bodyPost_ret (v:= .slice (some ⟨w3.heap.size,0,none⟩) 1 1) (by simp[results,Tryz.results272,go_sem]) rfl (S7 1 [.int .i64 0, .string ⟨#[]⟩] (A1 HW2.out hg3) (by rw[HT.out.symm];rfl) (by rw[HT.out.symm];rfl) (by omega))
 ·skip
  go_wp2_with (go_at_call 320;refine(a9 _ _).mono ?_)
  rintro e w3 ⟨rfl,hg3⟩;go_wp2_with (go_at_call 320;refine(a9 _ _).mono ?_)
  rintro e w4 ⟨rfl,hg4⟩;go_wp2_with (go_at_call 321;refine(N3 _ _).mono ?_;rintro e w9 ⟨rfl,rfl⟩)
  all_goals exact bodyPost_ret (v:= .slice (some ⟨w4.heap.size,0,none⟩) 2 2) (by simp[results,Tryz.results272,go_sem]) rfl (S7 2 [.int .i64 0, .string ⟨#[]⟩, .int .i64 0, .string ⟨#[]⟩] (A1 (A1 HW2.out hg3) hg4) (by rw[HT.out.symm];rfl) (by rw[HT.out.symm];rfl) (by omega))
 ·skip
  go_wp2_with (go_at_call 321;refine(N3 _ _).mono ?_;rintro e w9 ⟨rfl,rfl⟩)
  all_goals exact bodyPost_ret (v:= .slice (some ⟨((w2.alloc (.cells #[.int .i64 1, .string ⟨#[]⟩] 98)).alloc (.cells #[.int .i64 2, .string ⟨#[79,98,106,101,99,116]⟩] 98)).heap.size,0,none⟩) 2 2) (by simp[results,Tryz.results272,go_sem]) rfl (S7 2 [.int .i64 1, .string ⟨#[]⟩, .int .i64 1, .string ⟨#[]⟩] (HW2.out) (by rw[HT.out.symm];rfl) (by rw[HT.out.symm];rfl) (by omega))
 ·skip
  go_wp2_with (go_at_call 321;refine(N3 _ _).mono ?_;rintro e w9 ⟨rfl,rfl⟩)
  all_goals exact bodyPost_ret (v:= .slice (some ⟨((w2.alloc (.cells #[.int .i64 1, .string ⟨#[]⟩] 98)).alloc (.cells #[.int .i64 2, .string ⟨#[79,98,106,101,99,116]⟩] 98)).heap.size,0,none⟩) 2 2) (by simp[results,Tryz.results272,go_sem]) rfl (S7 2 [.int .i64 1, .string ⟨#[]⟩, .int .i64 1, .string ⟨#[]⟩] (HW2.out) (by rw[HT.out.symm];rfl) (by rw[HT.out.symm];rfl) (by omega))
 ·skip
  go_wp2_with (go_at_call 321;refine(N3 _ _).mono ?_;rintro e w9 ⟨rfl,rfl⟩)
  all_goals exact bodyPost_ret (v:= .slice (some ⟨((w2.alloc (.cells #[.int .i64 1, .string ⟨#[]⟩] 98)).alloc (.cells #[.int .i64 2, .string ⟨#[79,98,106,101,99,116]⟩] 98)).heap.size,0,none⟩) 2 2) (by simp[results,Tryz.results272,go_sem]) rfl (S7 2 [.int .i64 1, .string ⟨#[]⟩, .int .i64 1, .string ⟨#[]⟩] (HW2.out) (by rw[HT.out.symm];rfl) (by rw[HT.out.symm];rfl) (by omega))
 ·skip
  go_wp2_with (go_at_call 321;refine(N3 _ _).mono ?_;rintro e w9 ⟨rfl,rfl⟩)
  all_goals exact bodyPost_ret (v:= .slice (some ⟨((w2.alloc (.cells #[.int .i64 1, .string ⟨#[]⟩] 98)).alloc (.cells #[.int .i64 2, .string ⟨#[79,98,106,101,99,116]⟩] 98)).heap.size,0,none⟩) 2 2) (by simp[results,Tryz.results272,go_sem]) rfl (S7 2 [.int .i64 1, .string ⟨#[]⟩, .int .i64 1, .string ⟨#[]⟩] (HW2.out) (by rw[HT.out.symm];rfl) (by rw[HT.out.symm];rfl) (by omega))
 ·skip
  go_wp2_with (go_at_call 321;refine(N3 _ _).mono ?_;rintro e w9 ⟨rfl,rfl⟩)
  all_goals exact bodyPost_ret (v:= .slice (some ⟨((w2.alloc (.cells #[.int .i64 1, .string ⟨#[]⟩] 98)).alloc (.cells #[.int .i64 2, .string ⟨#[79,98,106,101,99,116]⟩] 98)).heap.size,0,none⟩) 2 2) (by simp[results,Tryz.results272,go_sem]) rfl (S7 2 [.int .i64 1, .string ⟨#[]⟩, .int .i64 1, .string ⟨#[]⟩] (HW2.out) (by rw[HT.out.symm];rfl) (by rw[HT.out.symm];rfl) (by omega))
 ·skip
  go_wp2_with (go_at_call 321;refine(N3 _ _).mono ?_;rintro e w9 ⟨rfl,rfl⟩)
  all_goals exact bodyPost_ret (v:= .slice (some ⟨((w2.alloc (.cells #[.int .i64 1, .string ⟨#[]⟩] 98)).alloc (.cells #[.int .i64 2, .string ⟨#[79,98,106,101,99,116]⟩] 98)).heap.size,0,none⟩) 2 2) (by simp[results,Tryz.results272,go_sem]) rfl (S7 2 [.int .i64 1, .string ⟨#[]⟩, .int .i64 1, .string ⟨#[]⟩] (HW2.out) (by rw[HT.out.symm];rfl) (by rw[HT.out.symm];rfl) (by omega))
 ·skip
  go_wp2_with (go_at_call 321;refine(N3 _ _).mono ?_;rintro e w9 ⟨rfl,rfl⟩)
  all_goals exact bodyPost_ret (v:= .slice (some ⟨((w2.alloc (.cells #[.int .i64 1, .string ⟨#[]⟩] 98)).alloc (.cells #[.int .i64 2, .string ⟨#[79,98,106,101,99,116]⟩] 98)).heap.size,0,none⟩) 1 1) (by simp[results,Tryz.results272,go_sem]) rfl (S7 1 [.int .i64 1, .string ⟨#[]⟩] (HW2.out) (by rw[HT.out.symm];rfl) (by rw[HT.out.symm];rfl) (by omega))
 ·skip
  go_wp2_with (go_at_call 321;refine(N3 _ _).mono ?_;rintro e w9 ⟨rfl,rfl⟩)
  all_goals exact bodyPost_ret (v:= .slice (some ⟨((w2.alloc (.cells #[.int .i64 1, .string ⟨#[]⟩] 98)).alloc (.cells #[.int .i64 2, .string ⟨#[79,98,106,101,99,116]⟩] 98)).heap.size,0,none⟩) 1 1) (by simp[results,Tryz.results272,go_sem]) rfl (S7 1 [.int .i64 1, .string ⟨#[]⟩] (HW2.out) (by rw[HT.out.symm];rfl) (by rw[HT.out.symm];rfl) (by omega))
 ·skip
  go_wp2_with (go_at_call 321;refine(N3 _ _).mono ?_;rintro e w9 ⟨rfl,rfl⟩)
  all_goals exact bodyPost_ret (v:= .slice (some ⟨((w2.alloc (.cells #[.int .i64 1, .string ⟨#[]⟩] 98)).alloc (.cells #[.int .i64 2, .string ⟨#[79,98,106,101,99,116]⟩] 98)).heap.size,0,none⟩) 1 1) (by simp[results,Tryz.results272,go_sem]) rfl (S7 1 [.int .i64 1, .string ⟨#[]⟩] (HW2.out) (by rw[HT.out.symm];rfl) (by rw[HT.out.symm];rfl) (by omega))
 ·skip
  go_wp2_with (go_at_call 321;refine(N3 _ _).mono ?_;rintro e w9 ⟨rfl,rfl⟩)
  all_goals exact bodyPost_ret (v:= .slice (some ⟨((w2.alloc (.cells #[.int .i64 1, .string ⟨#[]⟩] 98)).alloc (.cells #[.int .i64 2, .string ⟨#[79,98,106,101,99,116]⟩] 98)).heap.size,0,none⟩) 1 1) (by simp[results,Tryz.results272,go_sem]) rfl (S7 1 [.int .i64 1, .string ⟨#[]⟩] (HW2.out) (by rw[HT.out.symm];rfl) (by rw[HT.out.symm];rfl) (by omega))
 ·skip
  go_wp2_with (go_at_call 321;refine(N3 _ _).mono ?_;rintro e w9 ⟨rfl,rfl⟩)
  all_goals exact bodyPost_ret (v:= .slice (some ⟨((w2.alloc (.cells #[.int .i64 1, .string ⟨#[]⟩] 98)).alloc (.cells #[.int .i64 2, .string ⟨#[79,98,106,101,99,116]⟩] 98)).heap.size,0,none⟩) 2 2) (by simp[results,Tryz.results272,go_sem]) rfl (S7 2 [.int .i64 2, .string D4, .int .i64 2, .string D4] (HW2.out) (by rw[HT.out.symm];rfl) (by rw[HT.out.symm];rfl) (by omega))
 ·skip
  go_wp2_with (go_at_call 267;refine(U8 _ _).mono ?_)
  rintro e w3 ⟨rfl,hg3⟩;go_wp2_with (go_at_call 321;refine(N3 _ _).mono ?_;rintro e w9 ⟨rfl,rfl⟩)
  all_goals exact bodyPost_ret (v:= .slice (some ⟨w3.heap.size,0,none⟩) 1 1) (by simp[results,Tryz.results272,go_sem]) rfl (S7 1 [.int .i64 2, .string cs] (A1 HW2.out hg3) (by rw[HT.out.symm];rfl) (by rw[HT.out.symm];rfl) (by omega))
 ·skip
  go_wp2_with (go_at_call 324;refine(a8n _ ⟨rk,rn⟩).mono ?_)
  rintro e w3 ⟨hg3,v,rfl,ho⟩;go_wp2_with fail
  all_goals exact bodyPost_ret (v:=v) (by simp[results,Tryz.results272,go_sem]) rfl ⟨A1 HW2.out hg3,v,rfl,by rw[←HT.out];exact S0 ho (a3T HW2.out)⟩
 ·skip
  go_wp2_with (go_at_call 321;refine(N3 _ _).mono ?_;rintro e w9 ⟨rfl,rfl⟩)
  all_goals exact bodyPost_ret (v:= .slice (some ⟨((w2.alloc (.cells #[.int .i64 1, .string ⟨#[]⟩] 98)).alloc (.cells #[.int .i64 2, .string ⟨#[79,98,106,101,99,116]⟩] 98)).heap.size,0,none⟩) 1 1) (by simp[results,Tryz.results272,go_sem]) rfl (S7 1 [.int .i64 2, .string D4] (HW2.out) (by rw[HT.out.symm];rfl) (by rw[HT.out.symm];rfl) (by omega))
 ·skip
  go_wp2_with (go_at_call 321;refine(N3 _ _).mono ?_;rintro e w9 ⟨rfl,rfl⟩)
  all_goals exact bodyPost_ret (v:= .slice (some ⟨((w2.alloc (.cells #[.int .i64 1, .string ⟨#[]⟩] 98)).alloc (.cells #[.int .i64 2, .string ⟨#[79,98,106,101,99,116]⟩] 98)).heap.size,0,none⟩) 1 1) (by simp[results,Tryz.results272,go_sem]) rfl (S7 1 [.int .i64 2, .string D4] (HW2.out) (by rw[HT.out.symm];rfl) (by rw[HT.out.symm];rfl) (by omega))
 ·skip
  go_wp2_with (go_at_call 321;refine(N3 _ _).mono ?_;rintro e w9 ⟨rfl,rfl⟩)
  all_goals exact bodyPost_ret (v:= .slice (some ⟨((w2.alloc (.cells #[.int .i64 1, .string ⟨#[]⟩] 98)).alloc (.cells #[.int .i64 2, .string ⟨#[79,98,106,101,99,116]⟩] 98)).heap.size,0,none⟩) 1 1) (by simp[results,Tryz.results272,go_sem]) rfl (S7 1 [.int .i64 2, .string D4] (HW2.out) (by rw[HT.out.symm];rfl) (by rw[HT.out.symm];rfl) (by omega))
 ·skip
  go_wp2_with (go_at_call 321;refine(N3 _ _).mono ?_;rintro e w9 ⟨rfl,rfl⟩)
  all_goals exact bodyPost_ret (v:= .slice (some ⟨((w2.alloc (.cells #[.int .i64 1, .string ⟨#[]⟩] 98)).alloc (.cells #[.int .i64 2, .string ⟨#[79,98,106,101,99,116]⟩] 98)).heap.size,0,none⟩) 2 2) (by simp[results,Tryz.results272,go_sem]) rfl (S7 2 [.int .i64 2, .string D4, .int .i64 1, .string ⟨#[]⟩] (HW2.out) (by rw[HT.out.symm];rfl) (by rw[HT.out.symm];rfl) (by omega))
 ·skip
  go_wp2_with (go_at_call 321;refine(N3 _ _).mono ?_;rintro e w9 ⟨rfl,rfl⟩)
  all_goals exact bodyPost_ret (v:= .slice (some ⟨((w2.alloc (.cells #[.int .i64 1, .string ⟨#[]⟩] 98)).alloc (.cells #[.int .i64 2, .string ⟨#[79,98,106,101,99,116]⟩] 98)).heap.size,0,none⟩) 3 3) (by simp[results,Tryz.results272,go_sem]) rfl (S7 3 [.int .i64 2, .string D4, .int .i64 1, .string ⟨#[]⟩, .int .i64 2, .string D4] (HW2.out) (by rw[HT.out.symm];rfl) (by rw[HT.out.symm];rfl) (by omega))
 ·skip
  go_wp2_with (go_at_call 267;refine(U8 _ _).mono ?_)
  rintro e w3 ⟨rfl,hg3⟩;go_wp2_with (go_at_call 321;refine(N3 _ _).mono ?_;rintro e w9 ⟨rfl,rfl⟩)
  all_goals exact bodyPost_ret (v:= .slice (some ⟨w3.heap.size,0,none⟩) 1 1) (by simp[results,Tryz.results272,go_sem]) rfl (S7 1 [.int .i64 2, .string F9] (A1 HW2.out hg3) (by rw[HT.out.symm];rfl) (by rw[HT.out.symm];rfl) (by omega))
 ·skip
  go_upto_region 36 with fail
  have hq:=(A3.new w2 #[.int .i64 1, .string ⟨#[]⟩] 98).keep (A2 _ (.cells #[.int .i64 2, .string ⟨#[79,98,106,101,99,116]⟩] 98) none) (by simp);have Q0:=hq.cell 0 _ rfl;have Q1:=hq.cell 1 _ rfl;clear hq;go_region_held2 (fun w'=>w'.cell? ⟨w2.heap.size,0,none⟩=some (.int .i64 1)∧w'.cell? ⟨w2.heap.size,1,none⟩=some (.string ⟨#[]⟩)) (go_keep) (first|(go_at_call 321;refine(N3 _ _).mono ?_;rintro e w9 ⟨rfl,rfl⟩)|(go_at_call 320;refine(a9 _ _).mono ?_;rintro e w3 ⟨rfl,hg3⟩;have s0:w3.cell? ⟨w2.heap.size,0,none⟩=some (.int .i64 1):=hg3.cell Q0 (by simp);have s1:w3.cell? ⟨w2.heap.size,1,none⟩=some (.string ⟨#[]⟩):=hg3.cell Q1 (by simp)))
  go_wp2_with fail
  all_goals exact bodyPost_ret (v:= .slice (some ⟨w3.heap.size,0,none⟩) 2 2) (by simp[results,Tryz.results272,go_sem]) rfl (S7 2 [.int .i64 3, .string ⟨#[]⟩, .int .i64 1, .string ⟨#[]⟩] (A1 (A1 HW2.out (B8 _ _)) hg3) (by rw[HT.out.symm];rfl) (by rw[HT.out.symm];rfl) (by omega))
 ·skip
  go_upto_region 38 with fail
  have hq:=(A3.new w2 #[.int .i64 1, .string ⟨#[]⟩] 98).keep (A2 _ (.cells #[.int .i64 2, .string ⟨#[79,98,106,101,99,116]⟩] 98) none) (by simp);have Q0:=hq.cell 0 _ rfl;have Q1:=hq.cell 1 _ rfl;clear hq;go_region_held2 (fun w'=>w'.cell? ⟨w2.heap.size,0,none⟩=some (.int .i64 1)∧w'.cell? ⟨w2.heap.size,1,none⟩=some (.string ⟨#[]⟩)) (go_keep) (first|(go_at_call 321;refine(N3 _ _).mono ?_;rintro e w9 ⟨rfl,rfl⟩)|(go_at_call 320;refine(a9 _ _).mono ?_;rintro e w3 ⟨rfl,hg3⟩;have s0:w3.cell? ⟨w2.heap.size,0,none⟩=some (.int .i64 1):=hg3.cell Q0 (by simp);have s1:w3.cell? ⟨w2.heap.size,1,none⟩=some (.string ⟨#[]⟩):=hg3.cell Q1 (by simp)))
  go_wp2_with fail
  all_goals exact bodyPost_ret (v:= .slice (some ⟨w3.heap.size,0,none⟩) 3 3) (by simp[results,Tryz.results272,go_sem]) rfl (S7 3 [.int .i64 3, .string ⟨#[]⟩, .int .i64 1, .string ⟨#[]⟩, .int .i64 1, .string ⟨#[]⟩] (A1 (A1 HW2.out (B8 _ _)) hg3) (by rw[HT.out.symm];rfl) (by rw[HT.out.symm];rfl) (by omega))
 ·obtain⟨n3,n4,n5,n6,n7,n8,n9,n10,n11,n14,n13,n21,n22,n31,n15,n17,n20,n23,n28,n29,n26,n27,n30,n24,n25⟩:=hne;have k3:¬(op:Int)=3:=by omega
  have k4:¬(op:Int)=4:=by omega
  have k5:¬(op:Int)=5:=by omega
  have k6:¬(op:Int)=6:=by omega
  have k7:¬(op:Int)=7:=by omega
  have k8:¬(op:Int)=8:=by omega
  have k9:¬(op:Int)=9:=by omega
  have k10:¬(op:Int)=10:=by omega
  have k11:¬(op:Int)=11:=by omega
  have k14:¬(op:Int)=14:=by omega
  have k13:¬(op:Int)=13:=by omega
  have k21:¬(op:Int)=21:=by omega
  have k22:¬(op:Int)=22:=by omega
  have k31:¬(op:Int)=31:=by omega
  have k15:¬(op:Int)=15:=by omega
  have k17:¬(op:Int)=17:=by omega
  have k20:¬(op:Int)=20:=by omega
  have k23:¬(op:Int)=23:=by omega
  have k28:¬(op:Int)=28:=by omega
  have k29:¬(op:Int)=29:=by omega
  have k26:¬(op:Int)=26:=by omega
  have k27:¬(op:Int)=27:=by omega
  have k30:¬(op:Int)=30:=by omega
  have k24:¬(op:Int)=24:=by omega
  have k25:¬(op:Int)=25:=by omega
  have k18:¬(op:Int)=18:=by omega
  have k19:¬(op:Int)=19:=by omega
  have HN:Hid (TT=[]):=by
   unfold Hid;rw[←HT.out];unfold F3;dsimp only;repeat rw[if_neg (by omega)]
  go_wp2_with fail
  all_goals exact bodyPost_ret (v:= .slice none 0 0) (by simp[results,Tryz.results272,go_sem]) rfl ⟨HW2.out,_,rfl,by rw[HN.out];exact World.ownsRow_nil _ _ _ _⟩
open Go.RowKit Cf
variable {P:Program}
variable {w:World}
variable {o:Oper}
variable {a:Act}
variable {K:Act→World→Prop}
variable {Q:Exit→Act→World→Prop}
theorem a8r(s x:Operand)(t:TypeId)
 (ho:o.op= .call {callee:= .builtin .append,args:= #[s,x],argTypes:= #[t,t]})
 (base:Nat) (e:TypeId) (i:TypeInfo) (z:Value) (size bytes:Nat) (ht:P.underlying t=some (.slice e)) (hi:P.info? e=some i) (hz:i.zero=some z)
 (hsize:i.size=size) (hby:i.bytes=bytes) (hzs:z.cells.size=size) (hsz:0<size)
 (v0:Option Addr) (n k0:Nat) (xs:List Value) (hs:a.eval s= .slice v0 n k0) (hown:w.ownsRow base e size (.slice v0 n k0) n xs)
 (oa:Option Addr) (m c:Nat) (news:List Value) (hx:a.eval x= .slice oa m c) (hl:news.length=m*size) (hnews:∀j u,news[j]? =some u→∃ad,oa=some ad∧w.cell? (ad.add j)=some u) (h1:∀u∈news,u.oneCell'=true)
 (h63:n+m≤maxLen) (hbytes:(n+m)*bytes≤140737488355328) (hbase:base≤w.heap.size)
 (h:∀a' cap w',w'.ownsRow base e size (.slice a' (n+m) cap) (n+m) (xs++news)→w.grownBy w' (Value.slice v0 n k0).ownBlock→K (a.put o.dst (.slice a' (n+m) cap)) w'):o.wp P a w K Q:=by
 by_cases hm:m=0
 ·subst hm
  have hnil:news=[]:=by
   apply List.eq_nil_of_length_eq_zero;omega
  subst hnil
  have hle:n≤k0:=by
   rcases hown.2 with⟨h2,h3⟩|⟨g,cap,cur,hv,_,_,hc,_⟩
   ·injection h2 with _ _ h4;omega
   ·injection hv with _ h5 h4;omega
  have hsrc:Src P i.size t (.slice oa 0 c) 0 [] w:=by
   cases oa with
   |none=>exact Src.ofNil w ht c
   |some ad=>exact Src.ofSlice w ht ad 0 c [] (by simp) (fun j u hu=>by cases hu) (fun u hu=>by cases hu)
  have hr:=run_append_nothing (P:=P) w t t o.type e i ht hi v0 n k0 hle (.slice oa 0 c) hsrc;unfold Oper.wp execOp;simp only[ho,resolve,invoke,builtin,Sem.run_bind,Sem.run_pure,Result.andThen_ok,List.map_toArray,List.map_cons,List.map_nil,hs,hx,hr];exact h v0 k0 w (by simpa using hown) (G1 _ _)
 ·obtain⟨ad,rfl⟩:∃ad,oa=some ad:=by
   have:0<news.length:=by rw[hl];exact Nat.mul_pos (by omega) hsz
   obtain⟨ad,h2,_⟩:=hnews 0 news[0] (by simp[this]);exact⟨ad,h2⟩
  exact wp_append_lies w s x t ho base e i z size bytes ht hi hz hsize hby hzs hsz _ n xs hs hown ad m c news hx hl (fun j u hu=>by
   obtain⟨ad',h2,h3⟩:=hnews j u hu;cases h2;exact h3) h1 (by omega) h63 hbytes hbase w.heap.size rfl (fun g cap w' g1 g2 _ _=>h _ cap w' g1 g2)
variable {ops:Array Oper}
theorem b2g{E:Prop}(hgd:o.guard=none)(s x:Operand)(t:TypeId)
 (ho:o.op= .call {callee:= .builtin .append,args:= #[s,x],argTypes:= #[t,t]})
 (base:Nat) (e:TypeId) (i:TypeInfo) (z:Value) (size bytes:Nat) (ht:P.underlying t=some (.slice e)) (hi:P.info? e=some i) (hz:i.zero=some z)
 (hsize:i.size=size) (hby:i.bytes=bytes) (hzs:z.cells.size=size) (hsz:0<size)
 (v0:Option Addr) (n k0:Nat) (xs:List Value) (hs:a.eval s= .slice v0 n k0) (hown:w.ownsRow base e size (.slice v0 n k0) n xs)
 (oa:Option Addr) (m c:Nat) (news:List Value) (hx:a.eval x= .slice oa m c) (hl:news.length=m*size) (hnews:∀j u,news[j]? =some u→∃ad,oa=some ad∧w.cell? (ad.add j)=some u) (h1:∀u∈news,u.oneCell'=true)
 (h63:n+m≤maxLen) (hbytes:(n+m)*bytes≤140737488355328) (hbase:base≤w.heap.size)
 (h:∀a' cap w',w'.ownsRow base e size (.slice a' (n+m) cap) (n+m) (xs++news)→w.grownBy w' (Value.slice v0 n k0).ownBlock→K (a.put o.dst (.slice a' (n+m) cap)) w'):
 if Region.wanted o (yielded ops a.tmps)=true then Oper.wp P o a w K Q else E:=by
 have hw:Region.wanted o (yielded ops a.tmps)=true:=by simp[Region.wanted,hgd]
 rw[if_pos hw];exact a8r s x t ho base e i z size bytes ht hi hz hsize hby hzs hsz v0 n k0 xs hs hown oa m c news hx hl hnews h1 h63 hbytes hbase h
theorem b2c{rest:List Oper}(hgd:o.guard=none)(s x:Operand)(t:TypeId)
 (ho:o.op= .call {callee:= .builtin .append,args:= #[s,x],argTypes:= #[t,t]})
 (base:Nat) (e:TypeId) (i:TypeInfo) (z:Value) (size bytes:Nat) (ht:P.underlying t=some (.slice e)) (hi:P.info? e=some i) (hz:i.zero=some z)
 (hsize:i.size=size) (hby:i.bytes=bytes) (hzs:z.cells.size=size) (hsz:0<size)
 (v0:Option Addr) (n k0:Nat) (xs:List Value) (hs:a.eval s= .slice v0 n k0) (hown:w.ownsRow base e size (.slice v0 n k0) n xs)
 (oa:Option Addr) (m c:Nat) (news:List Value) (hx:a.eval x= .slice oa m c) (hl:news.length=m*size) (hnews:∀j u,news[j]? =some u→∃ad,oa=some ad∧w.cell? (ad.add j)=some u) (h1:∀u∈news,u.oneCell'=true)
 (h63:n+m≤maxLen) (hbytes:(n+m)*bytes≤140737488355328) (hbase:base≤w.heap.size)
 (h:∀a' cap w',w'.ownsRow base e size (.slice a' (n+m) cap) (n+m) (xs++news)→w.grownBy w' (Value.slice v0 n k0).ownBlock→wpList P ops Q rest (a.put o.dst (.slice a' (n+m) cap)) w'):
 wpList P ops Q (o::rest) a w:=
 wpList_plain hgd fun _ hK=>a8r s x t ho base e i z size bytes ht hi hz hsize hby hzs hsz v0 n k0 xs hs hown oa m c news hx hl hnews h1 h63 hbytes hbase fun g cap w' h2 h3=>hK _ _ (h g cap w' h2 h3)
end Kx
end Go.Proofs.YtdhophglnhcjbaaGreatDoor
