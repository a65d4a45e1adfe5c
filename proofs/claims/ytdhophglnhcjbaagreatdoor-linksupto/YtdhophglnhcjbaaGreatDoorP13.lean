/- P13: a part of the proof that the last text tells. -/
import Derived.Test.YtdhophglnhcjbaaGreatDoorP12
import Derived.Test.YtdhophglnhcjbaaGreatDoorP02
set_option linter.all false
namespace Go.Proofs.YtdhophglnhcjbaaGreatDoor
open Go.RowKit Go.Shelf Cf
namespace Kx
variable {w:World}
theorem b6s{g b o:Nat}{v0 v1 v:Value}(h:w.cell? ⟨b,o,none⟩=some v)(hne:b≠g):((w.setCell ⟨g,0,none⟩ v0).setCell ⟨g,1,none⟩ v1).cell? ⟨b,o,none⟩=some v:=
 (A6 _ ⟨g,1,none⟩ v1).cell ((A6 w ⟨g,0,none⟩ v0).cell h (fun e=>hne (Option.some.inj e))) (fun e=>hne (Option.some.inj e))
set_option maxRecDepth 100000 in
set_option maxHeartbeats 40000000 in
theorem b9c(w:World)(b:Nat)(n:ByteArray):
 Calls Tryz.prog 332 #[.pointer (some ⟨b,0,none⟩), .agg #[.int .i64 3, .string n]] w fun e w'=>e= .returned (.agg #[.int .i64 2, .string D4])∧w.grownBy w' none:=by
 have HG0:Hid (w.grownBy ((w.alloc (.cells #[.int .i64 3, .string n] 98)).alloc (.cells #[.int .i64 0, .string ⟨#[]⟩] 98)) none):=A1 (A2 _ _ _) (A2 _ _ _)
 have HB:Hid (A3 ((w.alloc (.cells #[.int .i64 3, .string n] 98)).alloc (.cells #[.int .i64 0, .string ⟨#[]⟩] 98)) (w.heap.size+1) #[.int .i64 0, .string ⟨#[]⟩] 98):=by
  have:=A3.new (w.alloc (.cells #[.int .i64 3, .string n] 98)) #[.int .i64 0, .string ⟨#[]⟩] 98;rw[World.size_alloc]at this;exact this
 go_enter Tryz.func332,Tryz.ntmps332;go_wp2_with (go_at_call 267;refine(U8 _ _).mono ?_)
 rintro e w1 ⟨rfl,hg1⟩;have hb1:=HB.out.keep hg1 A7;have r0:=hb1.cell 0 _ rfl;have r1:=hb1.cell 1 _ rfl;have z0:=hb1.frozen 0;have z1:=hb1.frozen 1;go_wp2_with fail
 all_goals
  have hb6:=(hb1.set 0 (.int .i64 2)).set 1 (.string ⟨#[79,98,106,101,99,116]⟩);have hg6:=C7 (A1 HG0.out hg1) (A1 (A6 w1 ⟨w.heap.size+1,0,none⟩ (.int .i64 2)) (A6 _ ⟨w.heap.size+1,1,none⟩ (.string ⟨#[79,98,106,101,99,116]⟩))) (fun k e=>by cases e;exact .inl (Nat.le_succ _));generalize (w1.setCell ⟨w.heap.size+1,0,none⟩ (.int .i64 2)).setCell ⟨w.heap.size+1,1,none⟩ (.string ⟨#[79,98,106,101,99,116]⟩)=W6 at hb6 hg6⊢;have q0:=hb6.c0;have q1:=hb6.c1;exact bodyPost_ret (v:= .agg #[(.int .i64 2),(.string ⟨#[79,98,106,101,99,116]⟩)]) (by simp[results,Tryz.results332,go_sem,q0,q1]) rfl ⟨rfl,hg6⟩
set_option maxRecDepth 100000 in
set_option maxHeartbeats 40000000 in
theorem b9b(w:World)(b:Nat)(n:ByteArray):
 Calls Tryz.prog 332 #[.pointer (some ⟨b,0,none⟩), .agg #[.int .i64 4, .string n]] w fun e w'=>e= .returned (.agg #[.int .i64 2, .string D4])∧w.grownBy w' none:=by
 have HG0:Hid (w.grownBy ((w.alloc (.cells #[.int .i64 4, .string n] 98)).alloc (.cells #[.int .i64 0, .string ⟨#[]⟩] 98)) none):=A1 (A2 _ _ _) (A2 _ _ _)
 have HB:Hid (A3 ((w.alloc (.cells #[.int .i64 4, .string n] 98)).alloc (.cells #[.int .i64 0, .string ⟨#[]⟩] 98)) (w.heap.size+1) #[.int .i64 0, .string ⟨#[]⟩] 98):=by
  have:=A3.new (w.alloc (.cells #[.int .i64 4, .string n] 98)) #[.int .i64 0, .string ⟨#[]⟩] 98;rw[World.size_alloc]at this;exact this
 go_enter Tryz.func332,Tryz.ntmps332;go_wp2_with (go_at_call 267;refine(U8 _ _).mono ?_)
 rintro e w1 ⟨rfl,hg1⟩;have hb1:=HB.out.keep hg1 A7;have r0:=hb1.cell 0 _ rfl;have r1:=hb1.cell 1 _ rfl;have z0:=hb1.frozen 0;have z1:=hb1.frozen 1;go_wp2_with fail
 all_goals
  have hb6:=(hb1.set 0 (.int .i64 2)).set 1 (.string ⟨#[79,98,106,101,99,116]⟩);have hg6:=C7 (A1 HG0.out hg1) (A1 (A6 w1 ⟨w.heap.size+1,0,none⟩ (.int .i64 2)) (A6 _ ⟨w.heap.size+1,1,none⟩ (.string ⟨#[79,98,106,101,99,116]⟩))) (fun k e=>by cases e;exact .inl (Nat.le_succ _));generalize (w1.setCell ⟨w.heap.size+1,0,none⟩ (.int .i64 2)).setCell ⟨w.heap.size+1,1,none⟩ (.string ⟨#[79,98,106,101,99,116]⟩)=W6 at hb6 hg6⊢;have q0:=hb6.c0;have q1:=hb6.c1;exact bodyPost_ret (v:= .agg #[(.int .i64 2),(.string ⟨#[79,98,106,101,99,116]⟩)]) (by simp[results,Tryz.results332,go_sem,q0,q1]) rfl ⟨rfl,hg6⟩
set_option maxRecDepth 100000 in
set_option maxHeartbeats 40000000 in
theorem b7c(w:World)(lim b:Nat)(L:List Cl)(p:Addr)(cap m1 m2 m3:Nat)(q:Nat→Qs)(h:Hid (Lk w lim b L p cap m1 m2 m3 q))(hl:lim≤w.heap.size)(n:ByteArray)(hc:n.size≤maxLen)(hn:n≠D4)(i:Nat)(hf:C5 L n=some i):
 Calls Tryz.prog 332 #[.pointer (some ⟨b,0,none⟩), .agg #[.int .i64 2, .string n]] w fun e w'=>e= .returned (.agg #[.int .i64 2, .string (b5 L n)])∧w.grownBy w' none:=by
 have HG0:Hid (w.grownBy ((w.alloc (.cells #[.int .i64 2, .string n] 98)).alloc (.cells #[.int .i64 0, .string ⟨#[]⟩] 98)) none):=A1 (A2 _ _ _) (A2 _ _ _)
 have HB:Hid (A3 ((w.alloc (.cells #[.int .i64 2, .string n] 98)).alloc (.cells #[.int .i64 0, .string ⟨#[]⟩] 98)) (w.heap.size+1) #[.int .i64 0, .string ⟨#[]⟩] 98):=by
  have:=A3.new (w.alloc (.cells #[.int .i64 2, .string n] 98)) #[.int .i64 0, .string ⟨#[]⟩] 98;rw[World.size_alloc]at this;exact this
 obtain⟨sp,hsp⟩:∃sp,sp=(cl L i).super:=⟨_,rfl⟩
 have hii:=L4 hf;have hi1:=hii.1;have hsm:L.length≤65536:=by have:=h.out.kls.small;omega
 have hbn:(n.toList==[79,98,106,101,99,116])=false:=by rw[←a3H];exact j4 hn
 have HS:Hid (∀W,w.grownBy W none→W.cell? ⟨b,0,none⟩=some (.slice (some p) L.length cap)∧W.cell? ⟨b,1,none⟩=some (.map (some m1))∧W.cell? ⟨(p.add (i*4)).block,(p.add (i*4)).off+1,none⟩=some (.string sp)∧(Instr.lookup 148 (.map (some m1)) (.string n) false).run Tryz.prog W= .ok (.int .i64 (i:Int)) W):=fun W hW=>by
  have HK:=(h.out.keep hW hl).kls;refine⟨HK.c0,HK.c1,?_,?_⟩
  ·rw[B9 p (i*4) 0,hsp];exact HK.row i hi1 1 _ rfl
  ·have:=a6W HK.n1 n hc;rw[hf]at this;exact this
 have HQ:Hid (∀W,((w.alloc (.cells #[.int .i64 2, .string n] 98)).alloc (.cells #[.int .i64 0, .string ⟨#[]⟩] 98)).drew.grownBy W none→W.cell? ⟨w.heap.size,1,none⟩=some (.string n)):=fun W hW=>hW.cell (((A3.new w #[.int .i64 2, .string n] 98).keep (A2 _ _ none) A7).cell 1 _ rfl) A7
 have HSP:Hid (sp=b5 L n):=by unfold Hid b5;rw[hf,hsp];rfl
 clear hsp hii h hf;rw[←HSP.out];go_enter Tryz.func332,Tryz.ntmps332;go_upto_region 4 with fail
 refine wp_region_held_drew (S:=(fun w'=>w'.cell? ⟨b,0,none⟩=some (.slice (some p) L.length cap)∧w'.cell? ⟨b,1,none⟩=some (.map (some m1))∧w'.cell? ⟨w.heap.size,1,none⟩=some (.string n)∧w'.cell? ⟨(p.add (i*4)).block,(p.add (i*4)).off+1,none⟩=some (.string sp)∧(Instr.lookup 148 (.map (some m1)) (.string n) false).run Tryz.prog w'= .ok (.int .i64 (i:Int)) w')) (by kernel_rfl) ?hS0 (fun hHeld=> ?rest0)
 case hS0=>
  have h1:=HS.out _ (A1 HG0.out (B8 _ _));exact⟨h1.1,h1.2.1,HQ.out _ (G1 _ _),h1.2.2.1,h1.2.2.2⟩
 refine A4 0 ?_;refine A4 1 ?_;refine A4 2 ?_;refine A4 3 ?_;refine A4 4 ?_;refine A4 5 ?_;refine A4 6 ?_;refine A4 7 ?_;refine A4 8 ?_;refine A4 9 ?_;refine A4 10 ?_;refine A4 11 ?_;refine A4 12 ?_;refine A4 13 ?_;refine wpAnyH_ready (rs:=[14]) (by kernel_rfl) (by simp) ?_;refine AllReadyH.cons rfl (fun K hK=> ?_) AllReadyH.nil;go_simp
 go_wp2_with (go_at_call 267;refine(U8 _ _).mono ?_;rintro e w1 ⟨rfl,hg1⟩;have hS1:=HS.out _ (A1 (A1 HG0.out (B8 _ _)) hg1);have hb1:=HB.out.keep (A1 (B8 _ none) hg1) A7;have r0:=hb1.cell 0 _ rfl;have r1:=hb1.cell 1 _ rfl;have z0:=hb1.frozen 0;have z1:=hb1.frozen 1)
 refine hK.out _ _ ?_ (fun hHeld=> ?_)
 case refine_1=>exact⟨hS1.1,hS1.2.1,HQ.out _ hg1,hS1.2.2.1,hS1.2.2.2⟩
 try clear hK K
 try simp only[Act.put,lz]
 refine wpAnyH_ready (rs:=[15]) (by kernel_rfl) (by simp) ?_;refine AllReadyH.cons rfl (fun K hK=> ?_) AllReadyH.nil;go_simp
 refine hK.out _ _ ?_ (fun hHeld=> ?_)
 case refine_1=>
  have hgS:w.grownBy ((w1.setCell ⟨w.heap.size+1,0,none⟩ (.int .i64 2)).setCell ⟨w.heap.size+1,1,none⟩ (.string sp)) none:=C7 (A1 (A1 HG0.out (B8 _ _)) hg1) (A1 (A6 _ ⟨w.heap.size+1,0,none⟩ _) (A6 _ ⟨w.heap.size+1,1,none⟩ _)) (fun k e=>by cases e;exact .inl (Nat.le_succ _));have h2:=HS.out _ hgS;exact⟨h2.1,h2.2.1,b6s (HQ.out _ hg1) (by omega),h2.2.2.1,h2.2.2.2⟩
 try clear hK K
 try simp only[Act.put,lz]
 refine wpAnyH_done (by kernel_rfl) ?_ _;go_wp2_with fail
 all_goals
  have hb1:=HB.out.keep (A1 (B8 _ none) hg1) A7;have hb6:=(hb1.set 0 (.int .i64 2)).set 1 (.string sp);have hg6:=C7 (A1 (A1 HG0.out (B8 _ _)) hg1) (A1 (A6 w1 ⟨w.heap.size+1,0,none⟩ (.int .i64 2)) (A6 _ ⟨w.heap.size+1,1,none⟩ (.string sp))) (fun k e=>by cases e;exact .inl (Nat.le_succ _));generalize (w1.setCell ⟨w.heap.size+1,0,none⟩ (.int .i64 2)).setCell ⟨w.heap.size+1,1,none⟩ (.string sp)=W6 at hb6 hg6⊢;have q0:=hb6.c0;have q1:=hb6.c1;exact bodyPost_ret (v:= .agg #[(.int .i64 2),(.string sp)]) (by simp[results,Tryz.results332,go_sem,q0,q1]) rfl ⟨rfl,hg6⟩
set_option maxRecDepth 100000 in
set_option maxHeartbeats 40000000 in
theorem b7d(w:World)(b:Nat):
 Calls Tryz.prog 332 #[.pointer (some ⟨b,0,none⟩), .agg #[.int .i64 2, .string D4]] w fun e w'=>e= .returned (.agg #[.int .i64 0, .string ⟨#[]⟩])∧w.grownBy w' none:=by
 have hmt:=a3H;have HG0:Hid (w.grownBy ((w.alloc (.cells #[.int .i64 2, .string D4] 98)).alloc (.cells #[.int .i64 0, .string ⟨#[]⟩] 98)) none):=A1 (A2 _ _ _) (A2 _ _ _)
 have HB:Hid (A3 ((w.alloc (.cells #[.int .i64 2, .string D4] 98)).alloc (.cells #[.int .i64 0, .string ⟨#[]⟩] 98)) (w.heap.size+1) #[.int .i64 0, .string ⟨#[]⟩] 98):=by
  have:=A3.new (w.alloc (.cells #[.int .i64 2, .string D4] 98)) #[.int .i64 0, .string ⟨#[]⟩] 98;rw[World.size_alloc]at this;exact this
 go_enter Tryz.func332,Tryz.ntmps332;go_wp2_with fail
 all_goals
  have q0:=HB.out.cell 0 _ rfl;have q1:=HB.out.cell 1 _ rfl;exact bodyPost_ret (v:= .agg #[.int .i64 0, .string ⟨#[]⟩]) (by simp[results,Tryz.results332,go_sem,q0,q1]) rfl ⟨rfl,HG0.out⟩
set_option maxRecDepth 100000 in
set_option maxHeartbeats 40000000 in
theorem b5I(w:World)(b k:Nat)(n:ByteArray)(h3:¬(k:Int)=3)(h4:¬(k:Int)=4)(h2:¬(k:Int)=2):
 Calls Tryz.prog 332 #[.pointer (some ⟨b,0,none⟩), .agg #[.int .i64 k, .string n]] w fun e w'=>e= .returned (.agg #[.int .i64 0, .string ⟨#[]⟩])∧w.grownBy w' none:=by
 have HG0:Hid (w.grownBy ((w.alloc (.cells #[.int .i64 k, .string n] 98)).alloc (.cells #[.int .i64 0, .string ⟨#[]⟩] 98)) none):=A1 (A2 _ _ _) (A2 _ _ _)
 have HB:Hid (A3 ((w.alloc (.cells #[.int .i64 k, .string n] 98)).alloc (.cells #[.int .i64 0, .string ⟨#[]⟩] 98)) (w.heap.size+1) #[.int .i64 0, .string ⟨#[]⟩] 98):=by
  have:=A3.new (w.alloc (.cells #[.int .i64 k, .string n] 98)) #[.int .i64 0, .string ⟨#[]⟩] 98;rw[World.size_alloc]at this;exact this
 have e3:((k:Int)==3)=false:=by simp[h3]
 have e4:((k:Int)==4)=false:=by simp[h4]
 have e2:((k:Int)==2)=false:=by simp[h2]
 go_enter Tryz.func332,Tryz.ntmps332;go_wp2_with fail
 all_goals
  have q0:=HB.out.cell 0 _ rfl;have q1:=HB.out.cell 1 _ rfl;exact bodyPost_ret (v:= .agg #[.int .i64 0, .string ⟨#[]⟩]) (by simp[results,Tryz.results332,go_sem,q0,q1]) rfl ⟨rfl,HG0.out⟩
theorem b5J(w:World)(lim b:Nat)(L:List Cl)(p:Addr)(cap m1 m2 m3:Nat)(q:Nat→Qs)(h:Hid (Lk w lim b L p cap m1 m2 m3 q))(hl:lim≤w.heap.size)(t:Ty)(hc:t.name.size≤maxLen)(hf:t.kind=2→t.name≠D4→∃i,C5 L t.name=some i):
 Calls Tryz.prog 332 #[.pointer (some ⟨b,0,none⟩), .agg #[.int .i64 t.kind, .string t.name]] w fun e w'=>e= .returned (.agg #[.int .i64 (M0 L t).kind, .string (M0 L t).name])∧w.grownBy w' none:=by
 obtain⟨k,n⟩:=t;dsimp only at hc hf⊢;by_cases h3:k=3
 ·subst h3;exact b9c w b n
 ·by_cases h4:k=4
  ·subst h4;exact b9b w b n
  ·by_cases h2:k=2
   ·subst h2;by_cases hn:n=D4
    ·subst hn;have e:M0 L ⟨2,D4⟩=B6:=by simp[M0]
     rw[e];exact b7d w b
    ·obtain⟨i,hi⟩:=hf rfl hn;have e:M0 L ⟨2,n⟩=C9 (b5 L n):=by simp[M0,hn]
     rw[e];exact b7c w lim b L p cap m1 m2 m3 q h hl n hc hn i hi
   ·have e:M0 L ⟨k,n⟩=B6:=by simp[M0,h3,h4,h2]
    rw[e];exact b5I w b k n (by omega) (by omega) (by omega)
def muT(L:List Cl)(B:Nat)(W:World):Nat:=match W.cell? ⟨B,0,none⟩,W.cell? ⟨B,1,none⟩with|some (.int _ v),some (.string n)=>N1 L ⟨v.toNat,n⟩|_,_=>0
variable {L:List Cl}
theorem b1o{B:Nat}{W:World}{c:Ty}{t:TypeId}(h:A3 W B #[.int .i64 c.kind, .string c.name] t):muT L B W=N1 L c:=by
 unfold muT;rw[h.cell 0 _ rfl,h.cell 1 _ rfl];simp
set_option maxRecDepth 100000 in
set_option maxHeartbeats 40000000 in
theorem b7q(w:World)(lim b:Nat)(L:List Cl)(p:Addr)(cap m1 m2 m3:Nat)(q:Nat→Qs)(h:Hid (Lk w lim b L p cap m1 m2 m3 q))(hl:lim≤w.heap.size)(hW:C2 L)(t o:Ty)(ht:E3 L t)(ho:E3 L o)(hts:t.name.size≤maxLen)(hos:o.name.size≤maxLen):
 Calls Tryz.prog 319 #[.pointer (some ⟨b,0,none⟩), .agg #[.int .i64 t.kind, .string t.name], .agg #[.int .i64 o.kind, .string o.name]] w fun e w'=>e= .returned (.agg #[.int .i64 (a0U L t o).kind, .string (a0U L t o).name])∧w.grownBy w' none:=by
 have HU:Hid (∀W (s u:Ty),w.grownBy W none→s.name.size≤maxLen→Calls Tryz.prog 295 #[.pointer (some ⟨b,0,none⟩), .agg #[.int .i64 s.kind, .string s.name], .agg #[.int .i64 u.kind, .string u.name]] W fun e w'=>e= .returned (.bool (D0 L s u))∧W.grownBy w' none):=
  fun W s u hg hs=>a6O W lim b L p cap m1 m2 m3 q (h.out.keep hg hl) (Nat.le_trans hl hg.size) s u hs
 have HN:Hid (∀W (s:Ty),w.grownBy W none→s.name.size≤maxLen→E3 L s→Calls Tryz.prog 332 #[.pointer (some ⟨b,0,none⟩), .agg #[.int .i64 s.kind, .string s.name]] W fun e w'=>e= .returned (.agg #[.int .i64 (M0 L s).kind, .string (M0 L s).name])∧W.grownBy w' none):=
  fun W s hg hs hk=>b5J W lim b L p cap m1 m2 m3 q (h.out.keep hg hl) (Nat.le_trans hl hg.size) s hs (fun h2 _=>by have:=hk.2;rw[if_pos (.inl h2)]at this;exact this)
 have HZ:Hid (∀s:Ty,E3 L s→s.name.size≤maxLen→(M0 L s).name.size≤maxLen):=fun s hs hz=>by
  unfold M0;split
  ·exact(by decide:D4.size≤maxLen)
  ·split
   ·rename_i h2;have h3:=hs.2;rw[if_pos (.inl h2.1)]at h3;obtain⟨i,hi⟩:=h3;show(b5 L s.name).size≤maxLen;unfold b5;rw[hi];exact(h.out.kls.names i (L4 hi).1).2
   ·exact(by decide:C3.size≤maxLen)
 clear h hl;have HG0:Hid (w.grownBy (((w.alloc (.cells #[.int .i64 t.kind, .string t.name] 98)).alloc (.cells #[.int .i64 o.kind, .string o.name] 98)).alloc (.cells #[.int .i64 0, .string ⟨#[]⟩] 98)) none):=A1 (A1 (A2 _ _ _) (A2 _ _ _)) (A2 _ _ _);have HB0:Hid (A3 (((w.alloc (.cells #[.int .i64 t.kind, .string t.name] 98)).alloc (.cells #[.int .i64 o.kind, .string o.name] 98)).alloc (.cells #[.int .i64 0, .string ⟨#[]⟩] 98)) w.heap.size #[.int .i64 t.kind, .string t.name] 98):=((A3.new w #[.int .i64 t.kind, .string t.name] 98).keep (A2 _ _ none) A7).keep (A2 _ _ none) A7
 have HB1:Hid (A3 (((w.alloc (.cells #[.int .i64 t.kind, .string t.name] 98)).alloc (.cells #[.int .i64 o.kind, .string o.name] 98)).alloc (.cells #[.int .i64 0, .string ⟨#[]⟩] 98)) (w.heap.size+1) #[.int .i64 o.kind, .string o.name] 98):=by
  have:=(A3.new (w.alloc (.cells #[.int .i64 t.kind, .string t.name] 98)) #[.int .i64 o.kind, .string o.name] 98).keep (A2 _ (.cells #[.int .i64 0, .string ⟨#[]⟩] 98) none) A7;rw[World.size_alloc]at this;exact this
 have HB2:Hid (A3 (((w.alloc (.cells #[.int .i64 t.kind, .string t.name] 98)).alloc (.cells #[.int .i64 o.kind, .string o.name] 98)).alloc (.cells #[.int .i64 0, .string ⟨#[]⟩] 98)) (w.heap.size+2) #[.int .i64 0, .string ⟨#[]⟩] 98):=by
  have:=A3.new ((w.alloc (.cells #[.int .i64 t.kind, .string t.name] 98)).alloc (.cells #[.int .i64 o.kind, .string o.name] 98)) #[.int .i64 0, .string ⟨#[]⟩] 98;simp only[World.size_alloc]at this;exact this
 by_cases hu:D0 L t o=true
 ·have HJ:Hid (a0U L t o=o):=by unfold Hid a0U;rw[if_pos hu]
  rw[HJ.out]
  have HU1:Hid (Calls Tryz.prog 295 #[.pointer (some ⟨b,0,none⟩), .agg #[.int .i64 t.kind, .string t.name], .agg #[.int .i64 o.kind, .string o.name]] (((w.alloc (.cells #[.int .i64 t.kind, .string t.name] 98)).alloc (.cells #[.int .i64 o.kind, .string o.name] 98)).alloc (.cells #[.int .i64 0, .string ⟨#[]⟩] 98)) fun e w'=>e= .returned (.bool true)∧((((w.alloc (.cells #[.int .i64 t.kind, .string t.name] 98)).alloc (.cells #[.int .i64 o.kind, .string o.name] 98)).alloc (.cells #[.int .i64 0, .string ⟨#[]⟩] 98))).grownBy w' none):=by
   have:=HU.out _ t o HG0.out hts;rw[hu]at this;exact this
  clear hu ht ho hts hos;go_enter Tryz.func319,Tryz.ntmps319;go_wp2_with (go_at_call 295;refine HU1.out.mono ?_)
  rintro e w1 ⟨rfl,hg1⟩;have hb2:=HB1.out.keep hg1 A7;have c0:=hb2.cell 0 _ rfl;have c1:=hb2.cell 1 _ rfl;have hb1:=HB2.out.keep hg1 A7;have r0:=hb1.cell 0 _ rfl;have r1:=hb1.cell 1 _ rfl;have z0:=hb1.frozen 0;have z1:=hb1.frozen 1;go_wp2_with fail
  all_goals
   have hb6:A3 _ (w.heap.size+1+1) #[(.int .i64 o.kind),(.string o.name)] 98:=(hb1.set 0 (.int .i64 o.kind)).set 1 (.string o.name);have hg6:=C7 (A1 HG0.out hg1) (A1 (A6 w1 ⟨w.heap.size+1+1,0,none⟩ (.int .i64 o.kind)) (A6 _ ⟨w.heap.size+1+1,1,none⟩ (.string o.name))) (fun k e=>by cases e;exact .inl (by show w.heap.size≤w.heap.size+1+1;omega));generalize (w1.setCell ⟨w.heap.size+1+1,0,none⟩ (.int .i64 o.kind)).setCell ⟨w.heap.size+1+1,1,none⟩ (.string o.name)=W6 at hb6 hg6⊢;have q0:=hb6.c0;have q1:=hb6.c1;exact bodyPost_ret (v:= .agg #[(.int .i64 o.kind),(.string o.name)]) (by simp[results,Tryz.results319,go_sem,q0,q1]) rfl ⟨rfl,hg6⟩
 ·have hu':D0 L t o=false:=by simpa using hu
  have HJ:Hid (a1x L (N1 L t+1) t o=a0U L t o):=by unfold Hid a0U;rw[if_neg hu]
  obtain⟨J,hJ⟩:∃J,J=a0U L t o:=⟨_,rfl⟩
  rw[←hJ]at HJ⊢;clear hJ
  have HU1:Hid (Calls Tryz.prog 295 #[.pointer (some ⟨b,0,none⟩), .agg #[.int .i64 t.kind, .string t.name], .agg #[.int .i64 o.kind, .string o.name]] (((w.alloc (.cells #[.int .i64 t.kind, .string t.name] 98)).alloc (.cells #[.int .i64 o.kind, .string o.name] 98)).alloc (.cells #[.int .i64 0, .string ⟨#[]⟩] 98)) fun e w'=>e= .returned (.bool false)∧((((w.alloc (.cells #[.int .i64 t.kind, .string t.name] 98)).alloc (.cells #[.int .i64 o.kind, .string o.name] 98)).alloc (.cells #[.int .i64 0, .string ⟨#[]⟩] 98))).grownBy w' none):=by
   have:=HU.out _ t o HG0.out hts;rw[hu']at this;exact this
  have HT:Hid (E3 L t∧t.name.size≤maxLen∧o.name.size≤maxLen):=⟨ht,hts,hos⟩
  clear hu hu' ht ho hts hos;go_enter Tryz.func319,Tryz.ntmps319;go_wp2_with (go_at_call 295;refine HU1.out.mono ?_)
  rintro e w1 ⟨rfl,hg1⟩;go_wp2_with fail
  go_loopw [] (fun wr=>∃(k:Nat) (c:Ty),a1x L k c o=J∧N1 L c<k∧E3 L c∧c.name.size≤maxLen∧A3 wr w.heap.size #[.int .i64 c.kind, .string c.name] 98∧A3 wr (w.heap.size+1) #[.int .i64 o.kind, .string o.name] 98∧A3 wr (w.heap.size+2) #[.int .i64 0, .string ⟨#[]⟩] 98∧w.grownBy wr none) (fun wr=>muT L w.heap.size wr)
  case atStart=>exact⟨_,t,HJ.out,Nat.lt_succ_self _,HT.out.1,HT.out.2.1,HB0.out.keep hg1 A7,HB1.out.keep hg1 A7,HB2.out.keep hg1 A7,A1 HG0.out hg1⟩
  case round=>
   obtain⟨k,c,hcl,hrk,hok,hcs,hbc,hbo,hbz,hgr⟩:=hrel;have HB1c:=A0 hbo;have HB2c:=A0 hbz;have HB0c:=A0 hbc;have HGR:=A0 hgr;have HC:Hid (a1x L k c o=J∧N1 L c<k∧E3 L c∧c.name.size≤maxLen):=⟨hcl,hrk,hok,hcs⟩
   have c0:=hbc.cell 0 _ rfl;have c1:=hbc.cell 1 _ rfl;have o0:=hbo.cell 0 _ rfl;have o1:=hbo.cell 1 _ rfl;clear hcl hrk hok hcs hbc hbo hbz hgr;by_cases hu:D0 L o c=true
   ·have hcJ:Hid (c=J):=by
     obtain⟨h1,h2,-,-⟩:=HC.out;obtain⟨k',rfl⟩:∃k',k=k'+1:=⟨k-1,by omega⟩
     unfold a1x at h1;rw[if_pos hu]at h1;exact h1
    have HU2:Hid (Calls Tryz.prog 295 #[.pointer (some ⟨b,0,none⟩), .agg #[.int .i64 o.kind, .string o.name], .agg #[.int .i64 c.kind, .string c.name]] wr fun e w'=>e= .returned (.bool true)∧wr.grownBy w' none):=by
     have:=HU.out _ o c HGR.out HT.out.2.2;rw[hu]at this;exact this
    clear hu;go_wp2_with (go_at_call 295;refine HU2.out.mono ?_)
    rintro e w2 ⟨rfl,hg2⟩;have hb0:=HB0c.out.keep hg2 A7;have d0:=hb0.cell 0 _ rfl;have d1:=hb0.cell 1 _ rfl;have hb1:=HB2c.out.keep hg2 A7;have r0:=hb1.cell 0 _ rfl;have r1:=hb1.cell 1 _ rfl;have z0:=hb1.frozen 0;have z1:=hb1.frozen 1;go_wp2_with fail
    all_goals
     have hb6:A3 _ (w.heap.size+1+1) #[(.int .i64 c.kind),(.string c.name)] 98:=(hb1.set 0 (.int .i64 c.kind)).set 1 (.string c.name);have hg6:=C7 (A1 HGR.out hg2) (A1 (A6 w2 ⟨w.heap.size+1+1,0,none⟩ (.int .i64 c.kind)) (A6 _ ⟨w.heap.size+1+1,1,none⟩ (.string c.name))) (fun k e=>by cases e;exact .inl (by show w.heap.size≤w.heap.size+1+1;omega));generalize (w2.setCell ⟨w.heap.size+1+1,0,none⟩ (.int .i64 c.kind)).setCell ⟨w.heap.size+1+1,1,none⟩ (.string c.name)=W6 at hb6 hg6⊢;have q0:=hb6.c0;have q1:=hb6.c1;exact bodyPost_ret (v:= .agg #[(.int .i64 c.kind),(.string c.name)]) (by simp[results,Tryz.results319,go_sem,q0,q1]) rfl ⟨by rw[hcJ.out],hg6⟩
   ·have hu':D0 L o c=false:=by simpa using hu
    have HC2:Hid (∃k',a1x L k' (M0 L c) o=J∧N1 L (M0 L c)<k'∧E3 L (M0 L c)∧(M0 L c).name.size≤maxLen∧N1 L (M0 L c)<N1 L c):=by
     obtain⟨h1,h2,h3,h4⟩:=HC.out;obtain⟨k',rfl⟩:∃k',k=k'+1:=⟨k-1,by omega⟩
     unfold a1x at h1;rw[if_neg hu]at h1
     have h0:c.kind≠0:=fun e=>by
      apply hu;unfold D0;simp[e]
     have:=hW.next_rank h3 h0;exact⟨k',h1,by omega,hW.next_ok h3,HZ.out c h3 h4,this⟩
    have HU2:Hid (Calls Tryz.prog 295 #[.pointer (some ⟨b,0,none⟩), .agg #[.int .i64 o.kind, .string o.name], .agg #[.int .i64 c.kind, .string c.name]] wr fun e w'=>e= .returned (.bool false)∧wr.grownBy w' none):=by
     have:=HU.out _ o c HGR.out HT.out.2.2;rw[hu']at this;exact this
    clear hu hu';go_wp2_with (go_at_call 295;refine HU2.out.mono ?_)
    rintro e w2 ⟨rfl,hg2⟩;have hb0:=HB0c.out.keep hg2 A7;have d0:=hb0.cell 0 _ rfl;have d1:=hb0.cell 1 _ rfl;go_wp2_with (go_at_call 332;refine(HN.out _ c (A1 HGR.out hg2) HC.out.2.2.2 HC.out.2.2.1).mono ?_)
    rintro e w3 ⟨rfl,hg3⟩;obtain⟨nc,hnc⟩:∃nc,nc=M0 L c:=⟨_,rfl⟩
    rw[←hnc]at HC2⊢;clear hnc;have hb3:=hb0.keep hg3 A7;have e0:=hb3.cell 0 _ rfl;have e1:=hb3.cell 1 _ rfl;have z0:=hb3.frozen 0;have z1:=hb3.frozen 1;have HB3:=A0 hb3;clear hb3 hb0;go_wp2_with fail
    have hg23:=A1 hg2 hg3;have hs:w3.grownBy ((w3.setCell ⟨w.heap.size,0,none⟩ (.int .i64 nc.kind)).setCell ⟨w.heap.size,1,none⟩ (.string nc.name)) (some w.heap.size):=A1 (A6 w3 ⟨w.heap.size,0,none⟩ _) (A6 _ ⟨w.heap.size,1,none⟩ _);have n0:A3 ((w3.setCell ⟨w.heap.size,0,none⟩ (.int .i64 nc.kind)).setCell ⟨w.heap.size,1,none⟩ (.string nc.name)) w.heap.size #[.int .i64 nc.kind, .string nc.name] 98:=(HB3.out.set 0 _).set 1 _;have n1:=(HB1c.out.keep hg23 A7).keep hs (by simp);have n2:=(HB2c.out.keep hg23 A7).keep hs (by simp);have n3:=C7 (A1 HGR.out hg23) hs (fun k e=>by cases e;exact .inl (Nat.le_refl _))
    have HM:Hid (muT L w.heap.size ((w3.setCell ⟨w.heap.size,0,none⟩ (.int .i64 nc.kind)).setCell ⟨w.heap.size,1,none⟩ (.string nc.name))<muT L w.heap.size wr):=by
     unfold Hid;rw[b1o n0,b1o HB0c.out];obtain⟨k',-,-,-,-,h5⟩:=HC2.out;exact h5
    clear c0 c1 o0 o1 d0 d1 e0 e1 z0 z1;go_roundw
    case rel=>
     obtain⟨k',g1,g2,g3,g4,g5⟩:=HC2.out;exact⟨k',nc,g1,g2,g3,g4,n0,n1,n2,n3⟩
    case measure=>exact HM.out
def a4W(w:World)(a:Option Addr)(tk:List Ty):Prop:=(a=none∧tk=[])∨∃g,a=some ⟨g,0,none⟩∧∀j,j<tk.length→w.cell? ⟨g,j*2,none⟩=some (.int .i64 (tk.getD j B6).kind)∧w.cell? ⟨g,j*2+1,none⟩=some (.string (tk.getD j B6).name)
theorem a4W.of{base n k:Nat}{a:Option Addr}{tk:List Ty}(h:w.ownsRow base 98 2 (.slice a n k) tk.length (tk.flatMap C1)):a4W w a tk:=by
 rcases Nat.eq_zero_or_pos tk.length with e|e
 ·have:=List.eq_nil_of_length_eq_zero e;subst this;rcases h.2 with⟨h1,-⟩|⟨g,cap,cur,hv,-⟩
  ·injection h1 with h1 _ _
   exact .inl ⟨h1,rfl⟩
  ·injection hv with hv _ _
   exact .inr ⟨g,hv,fun j hj=>by simp at hj⟩
 ·obtain⟨g,cap,hv,-,hg⟩:=h.form e;injection hv with hv _ _
  refine .inr ⟨g,hv,fun j hj=> ?_⟩;subst hv
  have h0:=h.cells (g:=g) rfl (j*2) (.int .i64 (tk.getD j B6).kind) (by
   have:=a0z C1 2 (fun _=>rfl) tk j hj 0 (by omega);rw[Nat.add_zero]at this;rw[this];simp[C1,hj])
  have h1:=h.cells (g:=g) rfl (j*2+1) (.string (tk.getD j B6).name) (by
   have:=a0z C1 2 (fun _=>rfl) tk j hj 1 (by omega);rw[this];simp[C1,hj])
  exact⟨by rcases Nat.eq_zero_or_pos (j*2)with e2|e2<;>simpa[Addr.add_lit]using h0,by simpa[Addr.add_lit]using h1⟩
set_option maxRecDepth 100000 in
set_option maxHeartbeats 40000000 in
theorem c1c(w:World)(b:Nat)(a:Int)(cs ms:ByteArray)(g n k:Nat)(hn:0<n)(hn2:n≤65536)(kd:Nat)(hc:w.cell? ⟨g,0,none⟩=some (.int .i64 kd)):
 Calls Tryz.prog 296 #[.pointer (some ⟨b,0,none⟩), .agg #[.int .i64 3, .int .i64 a, .string cs, .string ms], .slice (some ⟨g,0,none⟩) n k] w fun e w'=>e= .returned (.bool (decide (kd≠0)))∧w.grownBy w' none:=by
 have HG0:Hid (w.grownBy (w.alloc (.cells #[.int .i64 3, .int .i64 a, .string cs, .string ms] 120)) none):=A2 _ _ _;have c0:=HG0.out.cell hc A7;by_cases hk:(kd:Int)=0
 ·have e:decide (kd≠0)=false:=by simp;omega
  rw[e];obtain rfl:kd=0:=by omega
  clear e hk;go_enter Tryz.func296,Tryz.ntmps296;go_wp2_with fail
  all_goals exact bodyPost_ret (v:= .bool false) (by simp[results,Tryz.results296,go_sem]) rfl ⟨rfl,HG0.out⟩
 ·have e:decide (kd≠0)=true:=by simp;omega
  rw[e];have hk2:¬kd=0:=by omega
  go_enter Tryz.func296,Tryz.ntmps296;go_wp2_with fail
  all_goals exact bodyPost_ret (v:= .bool true) (by simp[results,Tryz.results296,go_sem,hk,hk2]) rfl ⟨rfl,HG0.out⟩
set_option maxRecDepth 100000 in
set_option maxHeartbeats 40000000 in
theorem c0t(w:World)(b:Nat)(a:Int)(cs ms:ByteArray)(g n k:Nat)(hn:0<n)(hn2:n≤65536)(kd:Nat)(hc:w.cell? ⟨g,0,none⟩=some (.int .i64 kd)):
 Calls Tryz.prog 296 #[.pointer (some ⟨b,0,none⟩), .agg #[.int .i64 23, .int .i64 a, .string cs, .string ms], .slice (some ⟨g,0,none⟩) n k] w fun e w'=>e= .returned (.bool (decide (kd≠2)))∧w.grownBy w' none:=by
 have HG0:Hid (w.grownBy (w.alloc (.cells #[.int .i64 23, .int .i64 a, .string cs, .string ms] 120)) none):=A2 _ _ _;have c0:=HG0.out.cell hc A7;by_cases hk:(kd:Int)=2
 ·have e:decide (kd≠2)=false:=by simp;omega
  rw[e];obtain rfl:kd=2:=by omega
  clear e hk;go_enter Tryz.func296,Tryz.ntmps296;go_wp2_with fail
  all_goals exact bodyPost_ret (v:= .bool false) (by simp[results,Tryz.results296,go_sem]) rfl ⟨rfl,HG0.out⟩
 ·have e:decide (kd≠2)=true:=by simp;omega
  rw[e];have hk2:¬kd=2:=by omega
  go_enter Tryz.func296,Tryz.ntmps296;go_wp2_with fail
  all_goals exact bodyPost_ret (v:= .bool true) (by simp[results,Tryz.results296,go_sem,hk,hk2]) rfl ⟨rfl,HG0.out⟩
set_option maxRecDepth 100000 in
set_option maxHeartbeats 40000000 in
theorem c0s(w:World)(b:Nat)(a:Int)(cs ms:ByteArray)(g n k:Nat)(hn:0<n)(hn2:n≤65536)(t0:Ty)(ht:t0.kind=5→t0.name=⟨#[]⟩)(hc:w.cell? ⟨g,0,none⟩=some (.int .i64 t0.kind))(hc1:w.cell? ⟨g,1,none⟩=some (.string t0.name)):
 Calls Tryz.prog 296 #[.pointer (some ⟨b,0,none⟩), .agg #[.int .i64 26, .int .i64 a, .string cs, .string ms], .slice (some ⟨g,0,none⟩) n k] w fun e w'=>e= .returned (.bool (a2b t0).isSome)∧w.grownBy w' none:=by
 have HG0:Hid (w.grownBy (w.alloc (.cells #[.int .i64 26, .int .i64 a, .string cs, .string ms] 120)) none):=A2 _ _ _;have c0:=HG0.out.cell hc A7;have c1:=HG0.out.cell hc1 A7;have HE:=A0 (fun W=>a6C W t0 ht);unfold a3h at HE;cases he:a2b t0 with
 |none=>
  rw[he]at HE;clear he ht hc hc1;go_enter Tryz.func296,Tryz.ntmps296;go_wp2_with (go_at_call 271;refine(HE.out _).mono ?_;rintro e w1 ⟨hg1,rfl⟩)
  all_goals try go_wp2_with fail
  all_goals exact bodyPost_ret (v:= .bool false) (by simp[results,Tryz.results296,go_sem]) rfl ⟨rfl,A1 (A1 HG0.out hg1) (A2 _ _ _)⟩
 |some u=>
  rw[he]at HE;clear he ht hc hc1;go_enter Tryz.func296,Tryz.ntmps296;go_wp2_with (go_at_call 271;refine(HE.out _).mono ?_;rintro e w1 ⟨hg1,rfl⟩)
  all_goals exact bodyPost_ret (v:= .bool true) (by simp[results,Tryz.results296,go_sem]) rfl ⟨rfl,A1 (A1 HG0.out hg1) (A2 _ _ _)⟩
set_option maxRecDepth 100000 in
set_option maxHeartbeats 40000000 in
theorem c0q(w:World)(b:Nat)(a:Int)(cs ms:ByteArray)(g n k:Nat)(hn:2<n)(hn2:n≤65536)(t0 t2:Ty)(ht:t0.kind=5→t0.name=⟨#[]⟩)(hc:w.cell? ⟨g,0,none⟩=some (.int .i64 t0.kind))(hc1:w.cell? ⟨g,1,none⟩=some (.string t0.name))(hd:w.cell? ⟨g,4,none⟩=some (.int .i64 t2.kind))(hd1:w.cell? ⟨g,5,none⟩=some (.string t2.name))(L:List Cl)(HU:Hid (∀W (u:Ty),w.grownBy W none→Calls Tryz.prog 295 #[.pointer (some ⟨b,0,none⟩), .agg #[.int .i64 t2.kind, .string t2.name], .agg #[.int .i64 u.kind, .string u.name]] W fun e w'=>e= .returned (.bool (D0 L t2 u))∧W.grownBy w' none)):
 Calls Tryz.prog 296 #[.pointer (some ⟨b,0,none⟩), .agg #[.int .i64 27, .int .i64 a, .string cs, .string ms], .slice (some ⟨g,0,none⟩) n k] w fun e w'=>e= .returned (.bool (match a2b t0 with|none=>false|some e=>decide (e.kind=5)||D0 L t2 e))∧w.grownBy w' none:=by
 have HG0:Hid (w.grownBy (w.alloc (.cells #[.int .i64 27, .int .i64 a, .string cs, .string ms] 120)) none):=A2 _ _ _;have c0:=HG0.out.cell hc A7;have c1:=HG0.out.cell hc1 A7;have HE:=A0 (fun W=>a6C W t0 ht);unfold a3h at HE;cases he:a2b t0 with
 |none=>
  rw[he]at HE;dsimp only at HE⊢;clear he ht hc hc1 hd hd1 HU;go_enter Tryz.func296,Tryz.ntmps296;go_upto_region 11 with(go_at_call 271;refine(HE.out _).mono ?_;rintro e w1 ⟨hg1,rfl⟩)
  have hgA:w.grownBy (w1.alloc (.cells #[.int .i64 0, .string ⟨#[]⟩] 98)).drew none:=A1 (A1 (A1 HG0.out hg1) (A2 _ _ _)) (B8 _ _);refine wp_region_held_drew (S:=(fun w'=>True)) (by kernel_rfl) trivial (fun hHeld=> ?_);refine A4 0 ?_;refine A4 1 ?_;refine wpAnyH_take (i:=2) (v:=undef) rfl (by kernel_rfl) (by kernel_rfl) (by kernel_rfl) (fun _ _ _ h=>h) (Or.inr ⟨by rfl,rfl⟩) (by assumption) ?r4;try simp only[Act.put,lz]
  refine wpAnyH_take (i:=3) (v:=undef) rfl (by kernel_rfl) (by kernel_rfl) (by kernel_rfl) (fun _ _ _ h=>h) (Or.inr ⟨by rfl,rfl⟩) (by assumption) ?r5;try simp only[Act.put,lz]
  refine wpAnyH_take (i:=4) (v:=undef) rfl (by kernel_rfl) (by kernel_rfl) (by kernel_rfl) (fun _ _ _ h=>h) (Or.inr ⟨by rfl,rfl⟩) (by assumption) ?r6;try simp only[Act.put,lz]
  refine wpAnyH_take (i:=5) (v:=undef) rfl (by kernel_rfl) (by kernel_rfl) (by kernel_rfl) (fun _ _ _ h=>h) (Or.inr ⟨by rfl,rfl⟩) (by assumption) ?r7;try simp only[Act.put,lz]
  refine wpAnyH_take (i:=6) (v:=undef) rfl (by kernel_rfl) (by kernel_rfl) (by kernel_rfl) (fun _ _ _ h=>h) (Or.inr ⟨by rfl,rfl⟩) (by assumption) ?r8;try simp only[Act.put,lz]
  refine wpAnyH_take (i:=7) (v:=undef) rfl (by kernel_rfl) (by kernel_rfl) (by kernel_rfl) (fun _ _ _ h=>h) (Or.inr ⟨by rfl,rfl⟩) (by assumption) ?r9;try simp only[Act.put,lz]
  refine wpAnyH_take (i:=8) (v:=undef) rfl (by kernel_rfl) (by kernel_rfl) (by kernel_rfl) (fun _ _ _ h=>h) (Or.inr ⟨by rfl,rfl⟩) (by assumption) ?r10;try simp only[Act.put,lz]
  refine wpAnyH_take (i:=9) (v:=undef) rfl (by kernel_rfl) (by kernel_rfl) (by kernel_rfl) (fun _ _ _ h=>h) (Or.inr ⟨by rfl,rfl⟩) (by assumption) ?r11;try simp only[Act.put,lz]
  refine wpAnyH_take (i:=10) (v:=undef) rfl (by kernel_rfl) (by kernel_rfl) (by kernel_rfl) (fun _ _ _ h=>h) (Or.inr ⟨by rfl,rfl⟩) (by assumption) ?r12;try simp only[Act.put,lz]
  refine wpAnyH_take (i:=11) (v:=undef) rfl (by kernel_rfl) (by kernel_rfl) (by kernel_rfl) (fun _ _ _ h=>h) (Or.inr ⟨by rfl,rfl⟩) (by assumption) ?r13;try simp only[Act.put,lz]
  refine wpAnyH_take (i:=12) (v:=undef) rfl (by kernel_rfl) (by kernel_rfl) (by kernel_rfl) (fun _ _ _ h=>h) (Or.inr ⟨by rfl,rfl⟩) (by assumption) ?r14;try simp only[Act.put,lz]
  refine A4 13 ?_;refine A4 14 ?_;refine wpAnyH_done (by kernel_rfl) ?_ _;go_wp2_with fail
  all_goals exact bodyPost_ret (v:= .bool false) (by simp[results,Tryz.results296,go_sem]) rfl ⟨rfl,hgA⟩
 |some u=>
  rw[he]at HE;dsimp only at HE⊢;clear he ht hc hc1;by_cases h5:(u.kind:Int)=5
  ·have e:(decide (u.kind=5)||D0 L t2 u)=true:=by
    have:u.kind=5:=by omega
    simp[this]
   rw[e];have h55:((u.kind:Int)==5)=true:=by simp[h5]
   obtain⟨uk,un⟩:=u;obtain rfl:uk=5:=by dsimp only at h5;omega
   clear h5 e h55;dsimp only at HE;go_enter Tryz.func296,Tryz.ntmps296;go_upto_region 11 with(go_at_call 271;refine(HE.out _).mono ?_;rintro e w1 ⟨hg1,rfl⟩)
   have hq:=(A3.new w1 #[.int .i64 5, .string un] 98).keep (B8 _ none) A7;have Q0:=hq.cell 0 _ rfl;have Q1:=hq.cell 1 _ rfl;have hgA:w.grownBy (w1.alloc (.cells #[.int .i64 5, .string un] 98)).drew none:=A1 (A1 (A1 HG0.out hg1) (A2 _ _ _)) (B8 _ _);have Q2:=hgA.cell hd A7;have Q3:=hgA.cell hd1 A7;clear hq;refine wp_region_held_drew (S:=(fun w'=>w'.cell? ⟨w1.heap.size,0,none⟩=some (.int .i64 5)∧w'.cell? ⟨w1.heap.size,1,none⟩=some (.string un)∧w'.cell? ⟨g,4,none⟩=some (.int .i64 t2.kind)∧w'.cell? ⟨g,5,none⟩=some (.string t2.name))) (by kernel_rfl) (⟨Q0,Q1,Q2,Q3⟩) (fun hHeld=> ?_);refine A4 0 ?_;refine A4 1 ?_;refine A4 2 ?_;refine A4 3 ?_;refine A4 4 ?_;refine A4 5 ?_;refine wpAnyH_take (i:=6) (v:=undef) rfl (by kernel_rfl) (by kernel_rfl) (by kernel_rfl) (fun _ _ _ h=>h) (Or.inr ⟨by rfl,rfl⟩) (by assumption) ?r24;try simp only[Act.put,lz]
   refine wpAnyH_take (i:=7) (v:=undef) rfl (by kernel_rfl) (by kernel_rfl) (by kernel_rfl) (fun _ _ _ h=>h) (Or.inr ⟨by rfl,rfl⟩) (by assumption) ?r25;try simp only[Act.put,lz]
   refine wpAnyH_take (i:=8) (v:=undef) rfl (by kernel_rfl) (by kernel_rfl) (by kernel_rfl) (fun _ _ _ h=>h) (Or.inr ⟨by rfl,rfl⟩) (by assumption) ?r26;try simp only[Act.put,lz]
   refine wpAnyH_take (i:=9) (v:=undef) rfl (by kernel_rfl) (by kernel_rfl) (by kernel_rfl) (fun _ _ _ h=>h) (Or.inr ⟨by rfl,rfl⟩) (by assumption) ?r27;try simp only[Act.put,lz]
   refine wpAnyH_take (i:=10) (v:=undef) rfl (by kernel_rfl) (by kernel_rfl) (by kernel_rfl) (fun _ _ _ h=>h) (Or.inr ⟨by rfl,rfl⟩) (by assumption) ?r28;try simp only[Act.put,lz]
   refine wpAnyH_take (i:=11) (v:=undef) rfl (by kernel_rfl) (by kernel_rfl) (by kernel_rfl) (fun _ _ _ h=>h) (Or.inr ⟨by rfl,rfl⟩) (by assumption) ?r29;try simp only[Act.put,lz]
   refine A4 12 ?_;refine A4 13 ?_;refine A4 14 ?_;refine wpAnyH_done (by kernel_rfl) ?_ _;go_wp2_with fail
   all_goals exact bodyPost_ret (v:= .bool true) (by simp[results,Tryz.results296,go_sem]) rfl ⟨rfl,hgA⟩
  ·have e:(decide (u.kind=5)||D0 L t2 u)=D0 L t2 u:=by
    have:¬u.kind=5:=by omega
    simp[this]
   rw[e];have h55:((u.kind:Int)==5)=false:=by simp[h5]
   have hnI:(2:Int)<(n:Int):=by omega
   clear e;go_enter Tryz.func296,Tryz.ntmps296;go_upto_region 11 with(go_at_call 271;refine(HE.out _).mono ?_;rintro e w1 ⟨hg1,rfl⟩)
   have hq:=(A3.new w1 #[.int .i64 u.kind, .string u.name] 98).keep (B8 _ none) A7;have Q0:=hq.cell 0 _ rfl;have Q1:=hq.cell 1 _ rfl;have hgA:w.grownBy (w1.alloc (.cells #[.int .i64 u.kind, .string u.name] 98)).drew none:=A1 (A1 (A1 HG0.out hg1) (A2 _ _ _)) (B8 _ _);have Q2:=hgA.cell hd A7;have Q3:=hgA.cell hd1 A7;clear hq;refine wp_region_held_drew (S:=(fun w'=>w'.cell? ⟨w1.heap.size,0,none⟩=some (.int .i64 u.kind)∧w'.cell? ⟨w1.heap.size,1,none⟩=some (.string u.name)∧w'.cell? ⟨g,4,none⟩=some (.int .i64 t2.kind)∧w'.cell? ⟨g,5,none⟩=some (.string t2.name))) (by kernel_rfl) (⟨Q0,Q1,Q2,Q3⟩) (fun hHeld=> ?_);refine A4 0 ?_;refine A4 1 ?_;refine A4 2 ?_;refine A4 3 ?_;refine A4 4 ?_;refine A4 5 ?_;refine A4 6 ?_;refine A4 7 ?_;refine A4 8 ?_;refine A4 9 ?_;refine A4 10 ?_;refine wpAnyH_ready (rs:=[11]) (by kernel_rfl) (by simp) ?_;refine AllReadyH.cons rfl (fun K hK=> ?_) AllReadyH.nil;go_simp
   go_wp2_with (go_at_call 295;refine(HU.out _ u hgA).mono ?_;rintro e w2 ⟨rfl,hg2⟩)
   refine hK.out _ _ ?_ (fun hHeld=> ?_)
   case refine_1=>exact⟨hg2.cell Q0 A7,hg2.cell Q1 A7,hg2.cell Q2 A7,hg2.cell Q3 A7⟩
   try clear hK K
   try simp only[Act.put,lz]
   refine A4 12 ?_;refine A4 13 ?_;refine A4 14 ?_;refine wpAnyH_done (by kernel_rfl) ?_ _;go_wp2_with fail
   all_goals exact bodyPost_ret (v:= .bool (D0 L t2 u)) (by simp[results,Tryz.results296,go_sem]) rfl ⟨rfl,A1 hgA hg2⟩
set_option maxRecDepth 100000 in
set_option maxHeartbeats 40000000 in
theorem b8z(w:World)(b:Nat)(a:Int)(cs ms:ByteArray)(op:Nat)(v:Value)(h3:¬(op:Int)=3)(h23:¬(op:Int)=23)(h26:¬(op:Int)=26)(h27:¬(op:Int)=27):
 Calls Tryz.prog 296 #[.pointer (some ⟨b,0,none⟩), .agg #[.int .i64 op, .int .i64 a, .string cs, .string ms],v] w fun e w'=>e= .returned (.bool true)∧w.grownBy w' none:=by
 have HG0:Hid (w.grownBy (w.alloc (.cells #[.int .i64 op, .int .i64 a, .string cs, .string ms] 120)) none):=A2 _ _ _;go_enter Tryz.func296,Tryz.ntmps296;go_wp2_with fail
 all_goals exact bodyPost_ret (v:= .bool true) (by simp[results,Tryz.results296,go_sem]) rfl ⟨rfl,HG0.out⟩
theorem b2l(w:World)(lim b:Nat)(L:List Cl)(p:Addr)(cap m1 m2 m3:Nat)(q:Nat→Qs)(h:Hid (Lk w lim b L p cap m1 m2 m3 q))(hl:lim≤w.heap.size)(i:In)(tk:List Ty)(ta:Option Addr)(k:Nat)(hr:a4W w ta tk)(hsz:tk.length≤65536)(hN:∀t∈tk,t.name.size≤maxLen∧(t.kind=5→t.name=⟨#[]⟩))(h1:i.op=3∨i.op=23∨i.op=26→0<tk.length)(h3:i.op=27→2<tk.length):
 Calls Tryz.prog 296 #[.pointer (some ⟨b,0,none⟩), .agg #[.int .i64 i.op, .int .i64 i.a, .string i.cls, .string i.mem], .slice ta tk.length k] w fun e w'=>e= .returned (.bool (o8 L i tk))∧w.grownBy w' none:=by
 obtain⟨op,a,cs,ms⟩:=i;dsimp only at h1 h3⊢
 have row:0<tk.length→∃g,ta=some ⟨g,0,none⟩∧∀j,j<tk.length→w.cell? ⟨g,j*2,none⟩=some (.int .i64 (tk.getD j B6).kind)∧w.cell? ⟨g,j*2+1,none⟩=some (.string (tk.getD j B6).name):=fun hp=>by
  rcases hr with⟨-,h2⟩|h2
  ·subst h2;simp at hp
  ·exact h2
 have hmem:∀j,j<tk.length→tk.getD j B6∈tk:=fun j hj=>by simp[hj]
 by_cases e3:op=3
 ·subst e3;have hp:=h1 (.inl rfl);obtain⟨g,rfl,hc⟩:=row hp;exact c1c w b a cs ms g _ k hp hsz _ (hc 0 hp).1
 ·by_cases e23:op=23
  ·subst e23;have hp:=h1 (.inr (.inl rfl));obtain⟨g,rfl,hc⟩:=row hp;exact c0t w b a cs ms g _ k hp hsz _ (hc 0 hp).1
  ·by_cases e26:op=26
   ·subst e26;have hp:=h1 (.inr (.inr rfl));obtain⟨g,rfl,hc⟩:=row hp;exact c0s w b a cs ms g _ k hp hsz _ (hN _ (hmem 0 hp)).2 (hc 0 hp).1 (hc 0 hp).2
   ·by_cases e27:op=27
    ·subst e27;have hp:=h3 rfl;obtain⟨g,rfl,hc⟩:=row (by omega);have h0:=hc 0 (by omega);have h2:=hc 2 hp;exact c0q w b a cs ms g _ k hp hsz _ (tk.getD 2 B6) (hN _ (hmem 0 (by omega))).2 h0.1 h0.2 h2.1 h2.2 L (fun W u hW=>a6O W lim b L p cap m1 m2 m3 q (h.out.keep hW hl) (Nat.le_trans hl hW.size) _ u (hN _ (hmem 2 hp)).1)
    ·have:o8 L ⟨op,a,cs,ms⟩ tk=true:=by simp[o8,e3,e23,e26,e27]
     rw[this];exact b8z w b a cs ms op _ (by omega) (by omega) (by omega) (by omega)
structure a1s(L:List Cl)(i:In):Prop where
 ok:a3l L i
 few:(O0 L i).params.length≤1000
 okin:T5 i
theorem a8m(t:Ty):(a0L t).length≤1:=by
 unfold a0L;by_cases c:t.kind=0
 ·rw[if_pos c];exact Nat.le_of_ble_eq_true rfl
 ·rw[if_neg c];exact Nat.le_refl _
variable {i:In}
theorem a9V{m:Me}(h:a1s L i):G5 L m i≤1001:=by
 unfold G5 F3;have hf:=h.few;by_cases c:i.op=3∨i.op=4∨i.op=5
 ·rw[if_pos c];exact Nat.le_of_ble_eq_true rfl
 rw[if_neg c];clear c;by_cases c:i.op=6
 ·rw[if_pos c];exact Nat.le_of_ble_eq_true rfl
 rw[if_neg c];clear c;by_cases c:(7≤i.op∧i.op≤11)∨i.op=14
 ·rw[if_pos c];exact Nat.le_of_ble_eq_true rfl
 rw[if_neg c];clear c;by_cases c:i.op=13∨i.op=21∨i.op=22∨i.op=31
 ·rw[if_pos c];exact Nat.le_of_ble_eq_true rfl
 rw[if_neg c];clear c;by_cases c:i.op=15
 ·rw[if_pos c];exact Nat.le_of_ble_eq_true rfl
 rw[if_neg c];clear c;by_cases c:i.op=17
 ·rw[if_pos c];exact Nat.le_of_ble_eq_true rfl
 rw[if_neg c];clear c;by_cases c:i.op=18
 ·rw[if_pos c];exact Nat.le_of_ble_eq_true rfl
 rw[if_neg c];clear c;by_cases c:i.op=19
 ·rw[if_pos c];simp only[List.length_cons];omega
 rw[if_neg c];clear c;by_cases c:i.op=20
 ·rw[if_pos c];exact Nat.le_trans (a8m _) (by omega)
 rw[if_neg c];clear c;by_cases c:i.op=23∨i.op=28∨i.op=29
 ·rw[if_pos c];exact Nat.le_of_ble_eq_true rfl
 rw[if_neg c];clear c;by_cases c:i.op=24
 ·rw[if_pos c];exact Nat.le_of_ble_eq_true rfl
 rw[if_neg c];clear c;by_cases c:i.op=25
 ·rw[if_pos c];exact Nat.le_of_ble_eq_true rfl
 rw[if_neg c];clear c;by_cases c:i.op=26
 ·rw[if_pos c];exact Nat.le_of_ble_eq_true rfl
 rw[if_neg c];clear c;by_cases c:i.op=27
 ·rw[if_pos c];exact Nat.le_of_ble_eq_true rfl
 rw[if_neg c];clear c;by_cases c:i.op=30
 ·rw[if_pos c];exact Nat.le_of_ble_eq_true rfl
 rw[if_neg c];clear c;exact Nat.le_of_ble_eq_true rfl
theorem b0M:P1 L i≤2:=by
 unfold P1 C4;by_cases c:i.op=0∨(7≤i.op∧i.op≤11)∨i.op=23∨i.op=24∨i.op=29
 ·rw[if_pos c];exact Nat.le_of_ble_eq_true rfl
 rw[if_neg c];clear c;by_cases c:i.op=1
 ·rw[if_pos c];exact Nat.le_of_ble_eq_true rfl
 rw[if_neg c];clear c;by_cases c:i.op=2∨i.op=26
 ·rw[if_pos c];exact Nat.le_of_ble_eq_true rfl
 rw[if_neg c];clear c;by_cases c:i.op=5∨i.op=6
 ·rw[if_pos c];exact Nat.le_of_ble_eq_true rfl
 rw[if_neg c];clear c;by_cases c:i.op=16∨i.op=28
 ·rw[if_pos c];exact Nat.le_of_ble_eq_true rfl
 rw[if_neg c];clear c;by_cases c:i.op=17
 ·rw[if_pos c];exact Nat.le_of_ble_eq_true rfl
 rw[if_neg c];clear c;by_cases c:i.op=19
 ·rw[if_pos c];exact Nat.le_trans (a8m _) (by omega)
 rw[if_neg c];clear c;by_cases c:i.op=21
 ·rw[if_pos c];exact Nat.le_of_ble_eq_true rfl
 rw[if_neg c];clear c;by_cases c:i.op=22
 ·rw[if_pos c];exact Nat.le_of_ble_eq_true rfl
 rw[if_neg c];clear c;exact Nat.le_of_ble_eq_true rfl
theorem b0C(h:V7 i=true):P1 L i=0:=by
 unfold V7 at h;have:i.op=20∨i.op=30:=by simpa using h
 unfold P1 C4;rcases this with e|e<;>simp[e]
theorem b8y(k:Int)(n:ByteArray)(w:World):(Instr.field 98 (.agg #[.int .i64 k, .string n]) 0).run Tryz.prog w= .ok (.int .i64 k) w:=by kernel_rfl
theorem b7S(p:Addr)(a b:Nat):(p.add a).add b=p.add (a+b):=by
 unfold Addr.add;by_cases h:a=0
 ·subst h;simp
 ·by_cases h2:b=0
  ·subst h2;simp
  ·simp[h,h2,Nat.add_assoc]
theorem a8R:∀{a b:List Ty},a.length=b.length→(∀r,r<a.length→D0 L (a.getD r B6) (b.getD r B6)=true)→a1n L a b=true
 | [],[],_,_=>rfl
 | [],_::_,h,_=>by simp at h
 |_::_,[],h,_=>by simp at h
 |x::a,y::b,h,hu=>by
  have h0:=hu 0 (by simp);simp only[List.getD_cons_zero]at h0;simp only[a1n,h0,Bool.true_and];exact a8R (by simpa using h) (fun r hr=>by have:=hu (r+1) (by simp;omega);simpa using this)
theorem a8E{L:List Cl}:∀{a b:List Ty} (r:Nat),r<a.length→r<b.length→D0 L (a.getD r B6) (b.getD r B6)=false→a1n L a b=false
 | [],_,r,h,_,_=>by simp at h
 |_::_,[],r,_,h,_=>by simp at h
 |x::a,y::b,0,_,_,hu=>by
  simp only[List.getD_cons_zero]at hu;simp[a1n,hu]
 |x::a,y::b,r+1,h1,h2,hu=>by
  have:=a8E (L:=L) (a:=a) (b:=b) r (by simpa using h1) (by simpa using h2) (by simpa using hu);simp[a1n,this]
set_option maxRecDepth 100000 in
set_option maxHeartbeats 40000000 in
theorem b3M(w:World)(lim b:Nat)(L:List Cl)(p:Addr)(cap m1 m2 m3:Nat)(q:Nat→Qs)(h:Hid (Lk w lim b L p cap m1 m2 m3 q))(hl:lim≤w.heap.size)(m:Me)(pa ca ha:Option Addr)(pk ck hk:Nat)(i:In)(hi:a1s L i)(fv:Value)(hfv:fv= .func (.func 253) #[] #[])(ty:Ty→Ty)(xs ys:List (Ty))(sa la:Option Addr)(sk lk:Nat)(l2:Nat)(hl2:l2≤w.heap.size)(hs:Hid (C0 w l2 2 C1 sa xs))(hly:Hid (C0 w l2 2 C1 la ys))
 (hsn:xs.length≤1000) (hyn:ys.length≤1000) (hsk:xs.length≤sk) (hsl:xs.length≤m.stack) (hms:m.stack≤1000) (hml:m.locals≤1000)
 (HTO:Hid (∀x,x∈xs∨x∈ys→(ty x).name.size≤maxLen∧((ty x).kind=5→(ty x).name=⟨#[]⟩)∧∀W,w.grownBy W none→Calls Tryz.prog 253 #[.agg #[.int .i64 (x).kind, .string (x).name]] W fun e w'=>e= .returned (.agg #[.int .i64 (ty x).kind, .string (ty x).name])∧W.grownBy w' none)) (hop2:i.op=2→i.a.toNat<ys.length):
 Calls Tryz.prog 252 #[.pointer (some ⟨b,0,none⟩), .agg (mV m pa pk ca ck ha hk), .agg #[.int .i64 i.op, .int .i64 i.a, .string i.cls, .string i.mem], .slice sa xs.length sk, .slice la ys.length lk,fv] w fun e w'=>e= .returned (.bool (j9 L m i (xs.map ty) (ys.map ty)))∧w.grownBy w' none:=by
 subst hfv;have HG0:Hid (w.grownBy ((w.alloc (.cells (mV m pa pk ca ck ha hk) 102)).alloc (.cells #[.int .i64 i.op, .int .i64 i.a, .string i.cls, .string i.mem] 120)) none):=A1 (A2 _ _ _) (A2 _ _ _);have HE:=A0 (fun W hW=>a8D W lim b L p cap m1 m2 m3 q (h.out.keep hW hl) (Nat.le_trans hl hW.size) m pa ca ha pk ck hk i hi.ok)
 have HU:Hid (∀W (s u:Ty),w.grownBy W none→s.name.size≤maxLen→Calls Tryz.prog 295 #[.pointer (some ⟨b,0,none⟩), .agg #[.int .i64 s.kind, .string s.name], .agg #[.int .i64 u.kind, .string u.name]] W fun e w'=>e= .returned (.bool (D0 L s u))∧W.grownBy w' none):=
  fun W s u hg hs=>a6O W lim b L p cap m1 m2 m3 q (h.out.keep hg hl) (Nat.le_trans hl hg.size) s u hs
 have HF:Hid (∀W (tk:List Ty) (ta:Option Addr) (k:Nat),w.grownBy W none→a4W W ta tk→tk.length≤65536→(∀t∈tk,t.name.size≤maxLen∧(t.kind=5→t.name=⟨#[]⟩))→(i.op=3∨i.op=23∨i.op=26→0<tk.length)→(i.op=27→2<tk.length)→Calls Tryz.prog 296 #[.pointer (some ⟨b,0,none⟩), .agg #[.int .i64 i.op, .int .i64 i.a, .string i.cls, .string i.mem], .slice ta tk.length k] W fun e w'=>e= .returned (.bool (o8 L i tk))∧W.grownBy w' none):=
  fun W tk ta k hg h1 h2 h3 h4 h5=>b2l W lim b L p cap m1 m2 m3 q (h.out.keep hg hl) (Nat.le_trans hl hg.size) i tk ta k h1 h2 h3 h4 h5
 have HMb:=A0 (fun W (hW:((w.alloc (.cells (mV m pa pk ca ck ha hk) 102)).alloc (.cells #[.int .i64 i.op, .int .i64 i.a, .string i.cls, .string i.mem] 120)).grownBy W none)=>((A3.new w (mV m pa pk ca ck ha hk) 102).keep (A2 _ _ none) A7).keep hW A7)
 have HIb:Hid (∀W,((w.alloc (.cells (mV m pa pk ca ck ha hk) 102)).alloc (.cells #[.int .i64 i.op, .int .i64 i.a, .string i.cls, .string i.mem] 120)).grownBy W none→A3 W (w.heap.size+1) #[.int .i64 i.op, .int .i64 i.a, .string i.cls, .string i.mem] 120):=fun W hW=>by
  have:=A3.new (w.alloc (.cells (mV m pa pk ca ck ha hk) 102)) #[.int .i64 i.op, .int .i64 i.a, .string i.cls, .string i.mem] 120;rw[World.size_alloc]at this;exact this.keep hW A7
 have htn:G5 L m i≤1001:=a9V hi;have hpn:P1 L i≤2:=b0M;have hend:V7 i=true→P1 L i=0:=b0C;have hoki:=hi.okin
 have HL3:Hid (i.op=3∨i.op=23∨i.op=26→0<G5 L m i):=fun e=>by
  unfold G5 F3;rcases e with e|e|e<;>simp[e]
 have HL27:Hid (i.op=27→2<G5 L m i):=fun e=>by
  unfold G5 F3;simp[e]
 unfold j9 b1j a7S;rw[List.length_map];obtain⟨TT,hTT⟩:∃TT,TT=F3 L m i:=⟨_,rfl⟩
 obtain⟨PP,hPP⟩:∃PP,PP=C4 L i:=⟨_,rfl⟩
 have htt:G5 L m i=TT.length:=by rw[hTT];rfl
 have hpp:P1 L i=PP.length:=by rw[hPP];rfl
 unfold a6m at HE;rw[←hTT,←hPP]at HE;rw[←hTT];rw[htt]at htn HL3 HL27⊢;rw[hpp]at hpn hend⊢;clear hTT hPP htt hpp h hl hi;obtain⟨tn,htn0⟩:∃tn,tn=TT.length:=⟨_,rfl⟩
 obtain⟨pn,hpn0⟩:∃pn,pn=PP.length:=⟨_,rfl⟩
 have HTN:=A0 htn0;rw[←htn0]at htn HL3 HL27 HE⊢;rw[←hpn0]at hpn hend HE⊢;clear htn0 hpn0;obtain⟨n,hn0⟩:∃n,n=xs.length:=⟨_,rfl⟩
 have HN:=A0 hn0;rw[←hn0]at hsn hsk hsl⊢;clear hn0;obtain⟨eb,heb⟩:∃eb,eb=V7 i:=⟨_,rfl⟩
 rw[←heb]at hend HE;clear heb;have HPP:=A0 hend;clear hend;obtain⟨ans,hans⟩:∃ans,ans=(decide (tn≤n)&&decide (n-tn+pn≤m.stack)&&(if i.op=2 then decide (((ys.map ty).getD i.a.toNat B6).kind≠0)else a1n L ((xs.map ty).drop (n-tn)) TT&&o8 L i ((xs.map ty).drop (n-tn)))):=⟨_,rfl⟩
 have HANS:=A0 hans;rw[←hans];clear hans;go_enter Tryz.func252,Tryz.ntmps252;have hqm:=(HMb.out _ (G1 _ _)).cell 4 _ rfl;go_wp2_with (go_at_call 197;refine(HE.out _ HG0.out).mono ?_)
 rintro e w1 ⟨hg1,v1,rfl,ta,tk,ua,uk,rfl,hot,hou⟩;have M4:=(HMb.out _ hg1).cell 4 _ rfl;have hv1:=(HIb.out _ hg1).lt;have hv0:=Nat.lt_of_succ_lt hv1;clear hqm;have HBH:=A0 (fun W=>a9q W ta ua tn tk pn uk n m.stack eb (by omega) (by omega) (by omega) (by omega));by_cases hroom:tn≤n∧n-tn+pn≤m.stack
 ·have hbv:∃bh,y8 tn pn n m.stack eb= .tuple #[bh, .bool true]:=by
   unfold y8;cases eb with
   |true=>exact⟨_,by simp[hroom.1];rfl⟩
   |false=>exact⟨_,by simp[hroom.1,show(n:Int)-tn+pn≤m.stack by omega];rfl⟩
  obtain⟨bh,hbh⟩:=hbv;rw[hbh]at HBH;have hres:(decide (tn≤n)&&decide (n-tn+pn≤m.stack))=true:=by simp[hroom]
  clear hbh;have htle:=hroom.1;clear hroom;go_upto_region 5 with(go_at_call 275;refine(HBH.out _).mono ?_;rintro e w2 ⟨rfl,hg2⟩)
  have hW2:=A1 (A1 (A1 HG0.out hg1) (A2 _ _ _)) hg2;have HW2:=A0 hW2;have hgw:=A1 (A1 hg1 (A2 _ _ _)) hg2;have HGW:=A0 hgw;have I0:=(HIb.out _ hgw).cell 0 _ rfl;have I1:=(HIb.out _ hgw).cell 1 _ rfl;by_cases h2:i.op=2
  ·have h2i:(i.op:Int)=2:=by omega
   obtain⟨k,hk⟩:∃k:Nat,i.a=(k:Int):=⟨i.a.toNat,by have:=hoki.2 (by omega);omega⟩
   have hkl:k<ys.length:=by have:=hop2 h2;rw[hk]at this;simpa using this
   obtain⟨pl,rfl,-,hcl⟩:=hly.out.keep hW2 k hkl;have L0:w2.cell? (pl.add (k*2))=some (.int .i64 (ys[k]).kind):=hcl 0 _ rfl;have L1:w2.cell? ⟨(pl.add (k*2)).block,(pl.add (k*2)).off+1,none⟩=some (.string (ys[k]).name):=by rw[B9 pl (k*2) 0];exact hcl 1 _ rfl
   have hT:=(HTO.out (ys[k]) (.inr (List.getElem_mem hkl))).2.2;have HT:=A0 hT
   have hA:Hid (ans=decide ((ty (ys[k])).kind≠0)):=by
    unfold Hid;rw[HANS.out,hres,Bool.true_and,if_pos h2,hk];simp[hkl]
   have hkI:(k:Int)<(ys.length:Int):=by omega
   generalize ty (ys[k])=t at HT hA;generalize ys[k]=y at L0 L1 HT;obtain⟨y1,y2⟩:=y;dsimp only at L0 L1 HT;clear hcl hT hres h2 hop2 hoki;rw[hk]at I1;have hfd:=b8y;by_cases hk0:(t.kind:Int)=0
   ·have hk0n:t.kind=0:=by omega
    obtain⟨tk0,tn0⟩:=t;dsimp only at hk0n;subst hk0n;clear hk0;go_wp2_with (go_at_call 253;refine(HT.out _ HW2.out).mono ?_;rintro e w3 ⟨rfl,hg3⟩)
    all_goals exact bodyPost_ret (v:= .bool false) (by simp[results,Tryz.results252,go_sem]) rfl ⟨by rw[hA.out];simp,A1 HW2.out hg3⟩
   ·have hk0n:¬t.kind=0:=by omega
    go_wp2_with (go_at_call 253;refine(HT.out _ HW2.out).mono ?_;rintro e w3 ⟨rfl,hg3⟩)
    all_goals exact bodyPost_ret (v:= .bool true) (by simp[results,Tryz.results252,go_sem,hk0,hk0n]) rfl ⟨by rw[hA.out];simp[hk0n],A1 HW2.out hg3⟩
  ·have h2i:¬(i.op:Int)=2:=by omega
   have h2b:((i.op:Int)==2)=false:=by simp[h2i]
   obtain⟨s,hs0⟩:∃s,s=n-tn:=⟨_,rfl⟩
   have hsI:(n:Int)-(tn:Int)=(s:Int):=by omega
   have hst:n-s=tn:=by omega
   have hsle:s≤n:=by omega
   have hskI:s≤sk:=by omega
   have HA:Hid (ans=(a1n L ((xs.map ty).drop s) TT&&o8 L i ((xs.map ty).drop s))):=by
    unfold Hid;rw[HANS.out,hres,Bool.true_and,if_neg h2,hs0]
   have HSN:Hid (s+tn=xs.length):=by unfold Hid;rw[←HN.out];omega
   have hE:=(A3.new w1 #[.slice ta tn tk, .slice ua pn uk, .bool eb] 315).keep hg2 A7;have HEb:=A0 hE;have E0:=hE.cell 0 _ rfl;have hot2:=A0 ((hot.kept (A2 _ _ none) (by cases hv:(Value.slice ta tn tk).ownBlock<;>simp)).kept hg2 (by cases hv:(Value.slice ta tn tk).ownBlock<;>simp));clear hs0 hres hE hou hoki hop2 I1;cases sa with
   |none=>
    have hn0:n=0:=by
     rw[HN.out];cases hxs:xs with
     |nil=>rfl
     |cons x xs'=>
      obtain⟨p',e',-⟩:=hs.out 0 (by rw[hxs];simp);cases e'
    subst hn0;have I2:=(HIb.out _ HGW.out).cell 2 _ rfl;have I3:=(HIb.out _ HGW.out).cell 3 _ rfl;have I1:=(HIb.out _ HGW.out).cell 1 _ rfl;have htz:tn=0:=by omega
    subst htz;have hTn:=List.eq_nil_of_length_eq_zero HTN.out.symm
    have hA:Hid (ans=o8 L i []):=by
     unfold Hid;rw[HA.out,hTn];have:(xs.map ty).drop s=[]:=List.eq_nil_of_length_eq_zero (by rw[List.length_drop,List.length_map,←HSN.out];omega);rw[this];rfl
    go_wp2_with fail
    go_loopw [16,56] (fun tv c wr=>tv= .slice none 0 0∧c= .int .i64 0∧wr=w2) (fun _ _ _=>0)
    case atStart=>exact⟨rfl,rfl,rfl⟩
    case round=>
     obtain⟨rfl,rfl,hwr⟩:=hrel;subst hwr;go_wp2_with (go_at_call 296;refine(HF.out _ [] none 0 HW2.out (.inl ⟨rfl,rfl⟩) (Nat.zero_le _) (fun t ht=>by cases ht) (fun e=>absurd (HL3.out e) (Nat.lt_irrefl 0)) (fun e=>absurd (HL27.out e) (Nat.not_lt_zero 2))).mono ?_;rintro e w8 ⟨rfl,hg8⟩)
     all_goals exact bodyPost_ret (v:= .bool (o8 L i [])) (by simp[results,Tryz.results252,go_sem]) rfl ⟨by rw[hA.out],A1 HW2.out hg8⟩
   |some p0=>
    by_cases hcap:sk=s
    ·have hcap':=hcap;have I2:=(HIb.out _ HGW.out).cell 2 _ rfl;have I3:=(HIb.out _ HGW.out).cell 3 _ rfl;have I1:=(HIb.out _ HGW.out).cell 1 _ rfl;have htz:tn=0:=by omega
     subst htz;have hTn:=List.eq_nil_of_length_eq_zero HTN.out.symm
     have hA:Hid (ans=o8 L i []):=by
      unfold Hid;rw[HA.out,hTn];have:(xs.map ty).drop s=[]:=List.eq_nil_of_length_eq_zero (by rw[List.length_drop,List.length_map,←HSN.out];omega);rw[this];rfl
     go_wp2_with fail
     go_loopw [16,56] (fun tv c wr=>tv= .slice none 0 0∧c= .int .i64 0∧wr=w2) (fun _ _ _=>0)
     case atStart=>exact⟨rfl,rfl,rfl⟩
     case round=>
      obtain⟨rfl,rfl,hwr⟩:=hrel;subst hwr;go_wp2_with (go_at_call 296;refine(HF.out _ [] none 0 HW2.out (.inl ⟨rfl,rfl⟩) (Nat.zero_le _) (fun t ht=>by cases ht) (fun e=>absurd (HL3.out e) (Nat.lt_irrefl 0)) (fun e=>absurd (HL27.out e) (Nat.not_lt_zero 2))).mono ?_;rintro e w8 ⟨rfl,hg8⟩)
      all_goals exact bodyPost_ret (v:= .bool (o8 L i [])) (by simp[results,Tryz.results252,go_sem]) rfl ⟨by rw[hA.out],A1 HW2.out hg8⟩
    ·have hadd:∀j:Nat,(p0.add (s*2)).add (j*2)=p0.add ((s+j)*2):=fun j=>by rw[b7S,Nat.add_mul]
     have HX:Hid (∀W,w.grownBy W none→∀j (hj:s+j<xs.length),W.cell? ((p0.add (s*2)).add (j*2))=some (.int .i64 (xs[s+j]).kind)∧W.cell? ⟨((p0.add (s*2)).add (j*2)).block,((p0.add (s*2)).add (j*2)).off+1,none⟩=some (.string (xs[s+j]).name)):=fun W hW j hj=>by
      obtain⟨p',e',-,hc⟩:=hs.out.keep hW (s+j) hj;cases e';rw[hadd];exact⟨hc 0 _ rfl,by rw[B9 p0 ((s+j)*2) 0];exact hc 1 _ rfl⟩
     clear hadd hs;obtain⟨inf,ii0,iz0,iz1,iz2⟩:=info_parts a4K;obtain⟨zt,hzt⟩:∃zt,zt=(xs.map ty).drop s:=⟨_,rfl⟩
     have hzl:zt.length=tn:=by rw[hzt,List.length_drop,List.length_map,←HSN.out];omega
     have HZL:=A0 hzl
     have HZ:Hid (∀r (hr:s+r<xs.length),zt.getD r B6=ty (xs[s+r])):=fun r hr=>by
      rw[hzt,List.getD_eq_getElem?_getD,List.getElem?_drop,List.getElem?_map,List.getElem?_eq_getElem hr];rfl
     have HZM:Hid (∀t∈zt,t.name.size≤maxLen∧(t.kind=5→t.name=⟨#[]⟩)):=fun t ht=>by
      rw[hzt]at ht;obtain⟨x,hx,rfl⟩:=List.mem_map.1 (List.mem_of_mem_drop ht);have:=HTO.out x (.inl hx);exact⟨this.1,this.2.1⟩
     have HA2:Hid (ans=(a1n L zt TT&&o8 L i zt)):=by unfold Hid;rw[HA.out,hzt]
     clear hzt HA hzl;go_wp2_with fail
     go_loopw [16,56] (fun tv c wr=>∃(j:Nat) (a':Option Addr) (k':Nat),c= .int .i64 j∧tv= .slice a' j k'∧j≤tn∧wr.ownsRow w2.heap.size 98 2 (.slice a' j k') j ((zt.take j).flatMap C1)∧(∀r,r<j→D0 L (zt.getD r B6) (TT.getD r B6)=true)∧w2.grownBy wr none) (fun _ c _=>tn-(intOf c).toNat)
     case atStart=>exact⟨0,none,0,rfl,rfl,Nat.zero_le _,by simpa using World.ownsRow_nil _ _ _ _,fun r hr=>absurd hr (Nat.not_lt_zero r),G1 _ _⟩
     case round=>
      obtain⟨j,a',k',rfl,rfl,hj,hown,hall,hgr⟩:=hrel;have HOWN:=A0 hown;have HALL:=A0 hall;have HG2:=A0 hgr;have HGR:=A0 (A1 HW2.out hgr);have E0r:=hgr.cell E0 A7;clear hown hall hgr E0;have E0:=E0r;clear E0r;by_cases hlt:j<tn
      ·have hjx:s+j<xs.length:=by rw[←HSN.out];omega
       have hX:=HX.out wr HGR.out j hjx;obtain⟨X0,X1⟩:=hX;have hTO:=HTO.out (xs[s+j]) (.inl (List.getElem_mem hjx));have HZJ:=A0 (HZ.out j hjx);obtain⟨xt,hxt⟩:∃xt,xt=ty (xs[s+j]):=⟨_,rfl⟩
       rw[←hxt]at hTO HZJ;have HTJ:=A0 hTO.2.2;have hxs:=hTO.1;clear hTO hxt;generalize xs[s+j]=x at X0 X1 HTJ;obtain⟨x1,x2⟩:=x;dsimp only at X0 X1 HTJ;obtain⟨gt,gcap,hgt,-,-⟩:=hot2.out.form (by omega);injection hgt with hgt hgt2 hgt3
       have hotr:=hot2.out.kept HG2.out (by cases hv:(Value.slice ta tn tk).ownBlock<;>simp);obtain⟨yt,hyt⟩:∃yt,yt=TT.getD j B6:=⟨_,rfl⟩
       have HYT:=A0 hyt;have hjT:j<TT.length:=by rw[←HTN.out];exact hlt
       have Y0:wr.cell? ⟨gt,j*2,none⟩=some (.int .i64 yt.kind):=by
        have h5:=a0z C1 2 (fun _=>rfl) TT j hjT 0 (by omega);have h6:=hotr.cells (g:=gt) (by rw[hgt];rfl) (j*2) (.int .i64 yt.kind) (by rw[Nat.add_zero]at h5;rw[h5,hyt];simp[C1,hjT]);rcases Nat.eq_zero_or_pos (j*2)with e2|e2<;>simpa[Addr.add_lit]using h6
       have Y1:wr.cell? ⟨gt,j*2+1,none⟩=some (.string yt.name):=by
        have h5:=a0z C1 2 (fun _=>rfl) TT j hjT 1 (by omega);have h6:=hotr.cells (g:=gt) (by rw[hgt];rfl) (j*2+1) (.string yt.name) (by rw[h5,hyt];simp[C1,hjT]);simpa[Addr.add_lit]using h6
       clear hyt hotr hgt2 hgt3;subst hgt;have hgB:w.grownBy (wr.alloc (.cells #[.int .i64 ((⟨x1,x2⟩:Ty)).kind, .string ((⟨x1,x2⟩:Ty)).name] 98)) none:=A1 HGR.out (A2 _ _ _);have hjI:(j:Int)<(tn:Int):=by omega
       by_cases hu:D0 L xt yt=true
       ·have HUJ:Hid (∀W,w.grownBy W none→Calls Tryz.prog 295 #[.pointer (some ⟨b,0,none⟩), .agg #[.int .i64 xt.kind, .string xt.name], .agg #[.int .i64 yt.kind, .string yt.name]] W fun e w'=>e= .returned (.bool true)∧W.grownBy w' none):=fun W hW=>by
         have:=HU.out W xt yt hW hxs;rw[hu]at this;exact this
        have HUA:Hid (∀r,r<j+1→D0 L (zt.getD r B6) (TT.getD r B6)=true):=fun r hr=>by
         by_cases e:r=j
         ·subst e;rw[HZJ.out,←HYT.out];exact hu
         ·exact HALL.out r (by omega)
        clear hu;go_upto_region 12 with(go_at_call 253;refine(HTJ.out _ hgB).mono ?_;rintro e w4 ⟨rfl,hg4⟩)
        have hgr4:wr.grownBy (w4.alloc (.cells #[.int .i64 xt.kind, .string xt.name] 98)).drew none:=A1 (A1 (A1 (A2 _ _ none) hg4) (A2 _ _ _)) (B8 _ _);have hgA:=A1 HGR.out hgr4;have hq:=(A3.new w4 #[.int .i64 xt.kind, .string xt.name] 98).keep (B8 _ none) A7;have Q0:=hq.cell 0 _ rfl;have Q1:=hq.cell 1 _ rfl;have Q2:=hgr4.cell E0 A7;have Q3:=hgr4.cell Y0 A7;have Q4:=hgr4.cell Y1 A7;clear hq;refine wp_region_held_drew (S:=(fun w'=>w'.cell? ⟨w4.heap.size,0,none⟩=some (.int .i64 xt.kind)∧w'.cell? ⟨w4.heap.size,1,none⟩=some (.string xt.name)∧w'.cell? ⟨w1.heap.size,0,none⟩=some (.slice (some ⟨gt,0,none⟩) tn tk)∧w'.cell? ⟨gt,j*2,none⟩=some (.int .i64 yt.kind)∧w'.cell? ⟨gt,j*2+1,none⟩=some (.string yt.name))) (by kernel_rfl) (⟨Q0,Q1,Q2,Q3,Q4⟩) (fun hHeld=> ?_);refine A4 0 ?_;refine A4 1 ?_;refine A4 2 ?_;refine A4 3 ?_;refine A4 4 ?_;refine A4 5 ?_;refine A4 6 ?_;refine wpAnyH_ready (rs:=[7]) (by kernel_rfl) (by simp) ?_;refine AllReadyH.cons rfl (fun K hK=> ?_) AllReadyH.nil;go_simp
        go_wp2_with (go_at_call 295;refine(HUJ.out _ hgA).mono ?_;rintro e w5 ⟨rfl,hg5⟩)
        refine hK.out _ _ ?_ (fun hHeld=> ?_)
        case refine_1=>exact⟨hg5.cell Q0 A7,hg5.cell Q1 A7,hg5.cell Q2 A7,hg5.cell Q3 A7,hg5.cell Q4 A7⟩
        try clear hK K
        try simp only[Act.put,lz]
        refine A4 8 ?_;refine wpAnyH_done (by kernel_rfl) ?_ _;have hgr5:=A1 hgr4 hg5;have r0:=hg5.cell Q0 A7;have r1:=hg5.cell Q1 A7;have hw5:=(A1 HG2.out (A1 hgr4 hg5)).size;have HO5:Hid ((w5.alloc (.cells #[.int .i64 xt.kind, .string xt.name] 98)).ownsRow w2.heap.size 98 2 (.slice a' j k') j ((zt.take j).flatMap C1)):=(HOWN.out.kept hgr5 (by cases hv:(Value.slice a' j k').ownBlock<;>simp)).kept (A2 _ _ none) (by cases hv:(Value.slice a' j k').ownBlock<;>simp)
        have htk:(zt.take (j+1)).flatMap C1=(zt.take j).flatMap C1++ [.int .i64 xt.kind, .string xt.name]:=by
         have hjz:j<zt.length:=by rw[HZL.out];exact hlt
         have hz:zt[j]=xt:=by have:=HZJ.out;simpa[hjz]using this
         rw[List.take_succ_eq_append_getElem hjz,hz,List.flatMap_append];rfl
        go_wp2_with (at_builtin;go_loud (refine b2c rfl _ _ 96 rfl w2.heap.size 98 inf _ 2 24 Tryz.underlying96 ii0 iz0 iz1 iz2 rfl (by decide) a' j k' ((zt.take j).flatMap C1) rfl HO5.out (some ⟨w5.heap.size,0,none⟩) 1 1 [.int .i64 xt.kind, .string xt.name] rfl rfl (fun jj u hu=>⟨_,rfl,O5 w5 _ _ jj u hu⟩) (by simp[Value.oneCell']) (by unfold maxLen;omega) (by omega) (Nat.le_trans hw5 (A2 w5 _ none).size) ?_;intro a7 k7 w7 hown7 hg7))
        have hg57:=C7 (A1 (A1 HG2.out hgr5) (A2 _ _ _)) hg7 (fun k e=> .inl (K9 HO5.out e).1);go_roundw
        case rel=>exact⟨j+1,a7,k7,by go_num,rfl,by omega,by rw[htk];exact hown7,HUA.out,hg57⟩
        case measure=>simp[intOf];omega
       ·have hu':D0 L xt yt=false:=by simpa using hu
        have HUJ:Hid (∀W,w.grownBy W none→Calls Tryz.prog 295 #[.pointer (some ⟨b,0,none⟩), .agg #[.int .i64 xt.kind, .string xt.name], .agg #[.int .i64 yt.kind, .string yt.name]] W fun e w'=>e= .returned (.bool false)∧W.grownBy w' none):=fun W hW=>by
         have:=HU.out W xt yt hW hxs;rw[hu']at this;exact this
        have hA:Hid (ans=false):=by
         unfold Hid;rw[HA2.out,a8E j (by rw[HZL.out];exact hlt) hjT (by rw[HZJ.out,←HYT.out];exact hu')];rfl
        clear hu hu';go_upto_region 12 with(go_at_call 253;refine(HTJ.out _ hgB).mono ?_;rintro e w4 ⟨rfl,hg4⟩)
        have hgr4:wr.grownBy (w4.alloc (.cells #[.int .i64 xt.kind, .string xt.name] 98)).drew none:=A1 (A1 (A1 (A2 _ _ none) hg4) (A2 _ _ _)) (B8 _ _);have hgA:=A1 HGR.out hgr4;have hq:=(A3.new w4 #[.int .i64 xt.kind, .string xt.name] 98).keep (B8 _ none) A7;have Q0:=hq.cell 0 _ rfl;have Q1:=hq.cell 1 _ rfl;have Q2:=hgr4.cell E0 A7;have Q3:=hgr4.cell Y0 A7;have Q4:=hgr4.cell Y1 A7;clear hq;refine wp_region_held_drew (S:=(fun w'=>w'.cell? ⟨w4.heap.size,0,none⟩=some (.int .i64 xt.kind)∧w'.cell? ⟨w4.heap.size,1,none⟩=some (.string xt.name)∧w'.cell? ⟨w1.heap.size,0,none⟩=some (.slice (some ⟨gt,0,none⟩) tn tk)∧w'.cell? ⟨gt,j*2,none⟩=some (.int .i64 yt.kind)∧w'.cell? ⟨gt,j*2+1,none⟩=some (.string yt.name))) (by kernel_rfl) (⟨Q0,Q1,Q2,Q3,Q4⟩) (fun hHeld=> ?_);refine A4 0 ?_;refine A4 1 ?_;refine A4 2 ?_;refine A4 3 ?_;refine A4 4 ?_;refine A4 5 ?_;refine A4 6 ?_;refine wpAnyH_ready (rs:=[7]) (by kernel_rfl) (by simp) ?_;refine AllReadyH.cons rfl (fun K hK=> ?_) AllReadyH.nil;go_simp
        go_wp2_with (go_at_call 295;refine(HUJ.out _ hgA).mono ?_;rintro e w5 ⟨rfl,hg5⟩)
        refine hK.out _ _ ?_ (fun hHeld=> ?_)
        case refine_1=>exact⟨hg5.cell Q0 A7,hg5.cell Q1 A7,hg5.cell Q2 A7,hg5.cell Q3 A7,hg5.cell Q4 A7⟩
        try clear hK K
        try simp only[Act.put,lz]
        refine A4 8 ?_;refine wpAnyH_done (by kernel_rfl) ?_ _;go_wp2_with fail
        all_goals exact bodyPost_ret (v:= .bool false) (by simp[results,Tryz.results252,go_sem]) rfl ⟨by rw[hA.out],A1 hgA hg5⟩
      ·have hjn:j=tn:=by omega
       subst hjn
       have hA:Hid (ans=o8 L i zt):=by
        unfold Hid;rw[HA2.out,a8R (by rw[HZL.out,←HTN.out]) (fun r hr=>HALL.out r (by rw[HZL.out]at hr;exact hr))];rfl
       have hown2:=HOWN.out;rw[List.take_of_length_le (by rw[HZL.out];exact Nat.le_refl _)]at hown2
       have HFB:Hid (Calls Tryz.prog 296 #[.pointer (some ⟨b,0,none⟩), .agg #[.int .i64 i.op, .int .i64 i.a, .string i.cls, .string i.mem], .slice a' j k'] wr fun e w'=>e= .returned (.bool (o8 L i zt))∧wr.grownBy w' none):=by
        have h8:=a4W.of (base:=w2.heap.size) (n:=j) (k:=k') (by rw[HZL.out];exact hown2);have:=HF.out wr zt a' k' HGR.out h8 (by rw[HZL.out];omega) HZM.out (by rw[HZL.out];exact HL3.out) (by rw[HZL.out];exact HL27.out);rw[HZL.out]at this;exact this
       have I0r:=(HIb.out _ (A1 HGW.out HG2.out)).cell 0 _ rfl;have I1r:=(HIb.out _ (A1 HGW.out HG2.out)).cell 1 _ rfl;have I2r:=(HIb.out _ (A1 HGW.out HG2.out)).cell 2 _ rfl;have I3r:=(HIb.out _ (A1 HGW.out HG2.out)).cell 3 _ rfl;go_wp2_with (go_at_call 296;refine HFB.out.mono ?_;rintro e w8 ⟨rfl,hg8⟩)
       all_goals exact bodyPost_ret (v:= .bool (o8 L i zt)) (by simp[results,Tryz.results252,go_sem]) rfl ⟨by rw[hA.out],A1 HGR.out hg8⟩
 ·have hbv:∃bh,y8 tn pn n m.stack eb= .tuple #[bh, .bool false]:=by
   unfold y8;cases eb with
   |true=>
    have:=HPP.out rfl;exact⟨_,by simp[show¬tn≤n by omega];rfl⟩
   |false=>exact⟨_,by
    have:(decide (tn≤n)&&decide ((n:Int)-tn+pn≤m.stack))=false:=by simp;omega
    simp only[this];rfl⟩
  obtain⟨bh,hbh⟩:=hbv;rw[hbh]at HBH;have hres:(decide (tn≤n)&&decide (n-tn+pn≤m.stack))=false:=by simp;omega
  have hW1:w.grownBy (w1.alloc (.cells #[.slice ta tn tk, .slice ua pn uk, .bool eb] 315)) none:=A1 (A1 HG0.out hg1) (A2 _ _ _);have hA:Hid (ans=false):=by unfold Hid;rw[HANS.out,hres,Bool.false_and]
  clear hbh hroom hres;go_wp2_with (go_at_call 275;refine(HBH.out _).mono ?_;rintro e w2 ⟨rfl,hg2⟩)
  all_goals exact bodyPost_ret (v:= .bool false) (by simp[results,Tryz.results252,go_sem]) rfl ⟨by rw[hA.out],A1 hW1 hg2⟩
end Kx
end Go.Proofs.YtdhophglnhcjbaaGreatDoor
