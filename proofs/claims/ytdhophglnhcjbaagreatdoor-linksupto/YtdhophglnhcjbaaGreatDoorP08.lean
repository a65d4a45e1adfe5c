/- P08: a part of the proof that the last text tells. -/
import Derived.Test.YtdhophglnhcjbaaGreatDoorP07
set_option linter.all false
namespace Go.Proofs.YtdhophglnhcjbaaGreatDoor
open Go.RowKit Cf
variable {b c k m n:Nat}
theorem b6K(h:(2147483648:Int)≤m)(hm:m<256^4):wrap64 ((m:Int)-4294967296)=T8 4 m:=by
 have h1:2147483648≤m:=by omega
 unfold wrap64 T8;rw[if_pos ⟨rfl,h1⟩];omega
theorem b4f(h:¬(2147483648:Int)≤m)(_:m<256^4):(m:Int)=T8 4 m:=by
 have h1:¬2147483648≤m:=by omega
 unfold T8;rw[if_neg (fun hh=>h1 hh.2)]
set_option maxRecDepth 100000 in
set_option maxHeartbeats 12000000 in
theorem b7K(w:World)(b:Nat)(f:ByteArray)(pv:Value)(s:Except Er St)(h:Hid (D9 w b f pv s)):
 Calls Tryz.prog 175 #[.pointer (some ⟨b,0,none⟩)] w (G9 w b f pv (C6 s (O3 f)) a8d):=by
 rw[b8E h.out.inv];have hbl:=h.out.lt;have hpl:=h.out.poolLt (Nat.le_refl _);go_enter Tryz.func175,Tryz.ntmps175;go_wp2_with (go_at_call 114;refine G9.bind (X3 _ b f pv s 1 (h.out.keep0 (A2 _ _ _)) (by omega)) ?_)
 rintro n v w1 H1 rfl hs1 hg1;try dsimp only
 have hG1:=(A3.new w _ _).keep hg1 (by simp;omega);have HG1:Hid (A3 w1 w.heap.size #[.int .i64 0, .int .i64 0, .string ⟨#[]⟩, .string ⟨#[]⟩] 120):=hG1;have hlt1:=hG1.lt;have hg01:=A0 (A1 (A2 _ _ _) hg1);have hb1:b<w1.heap.size:=by omega
 have hpl1:=hs1.out.poolLt (Nat.le_refl _);clear hG1;have g0:=HG1.out.cell 0 (.int .i64 0) rfl;have g1:=HG1.out.cell 1 (.int .i64 0) rfl;have g2:=HG1.out.cell 2 (.string ⟨#[]⟩) rfl;have g3:=HG1.out.cell 3 (.string ⟨#[]⟩) rfl;have z0:=HG1.out.frozen 0;have z1:=HG1.out.frozen 1;have z2:=HG1.out.frozen 2;have z3:=HG1.out.frozen 3;by_cases h32:32≤n
 ·rcases hr:C6 s (A9 f 1)with er|⟨n',st1⟩
  all_goals
   rw[hr]at H1 hs1;have HR:Hid (C6 s (A9 f 1)=_):=hr;clear hr
  ·obtain⟨c4,ne4⟩:=hs1.out.err;obtain⟨a,c1,ha⟩:=hs1.out.errAt;go_wp2_with (go_at_call 115;refine(a8J _ b f pv er _ _ (hs1.out.keep0 (A2 _ _ _))).mono ?_;rintro e w4 ⟨rfl,rfl⟩)
   refine bodyPost_ret (v:= .agg #[.int .i64 n, .int .i64 0, .string ⟨#[]⟩, .string ⟨#[]⟩]) (a5P _ _ w.heap.size _ _ _ _ _ rfl (((((HG1.out.set 0 _).set 1 _).set 2 _).set 3 _).keep (A2 _ _ none) (by simp))) rfl ?_;exact .err (er:=er) ⟨n,0,⟨#[]⟩,⟨#[]⟩⟩ (by rw[HR.out];rfl) (A1 (x8 hg01.out (Nat.le_refl _)) (A2 _ _ _)) rfl ((hs1.out.keep (j3 (g:=w.heap.size)) (by simp;omega) (.inr hpl)).keep0 (A2 _ _ _))
  ·have hn:=H1.out n' st1 rfl;subst hn;have HC:=a1L HR.out;have hn256:=HC.1;obtain⟨hI,hE⟩:=hs1.out;have HI:=A0 hI;obtain⟨-,c1,-,-,c4,-,-,-,-,-,-⟩:=hE.cells0;clear hE hI H1
   have HW:Hid (wrap64 ((st1.at_:Int)-1)=((st1.at_-1:Nat):Int)):=by
    have:=HC.2;have:=HI.out.at_;have:=HI.out.fits;unfold Hid wrap64;omega
   go_wp2_with fail
   rw[HW.out];refine(t7 _ b f _ _ 3 (st1.at_-1) (hs1.out.keep0 (A2 _ _ _)) (by omega)).mono ?_;rintro e w4 ⟨rfl,hg4,hs4⟩;have hG4:=(HG1.out.keep (A2 _ _ none) (by simp)).keep hg4 (by simp;omega);have HG4:=A0 hG4;have hT4:=(A3.new w1 #[.int .i64 n', .int .i64 0, .string ⟨#[]⟩, .string ⟨#[]⟩] 120).keep hg4 (by simp;omega);have g0:=hG4.cell 0 (.int .i64 0) rfl;have g1:=hG4.cell 1 (.int .i64 0) rfl;have g2:=hG4.cell 2 (.string ⟨#[]⟩) rfl;have g3:=hG4.cell 3 (.string ⟨#[]⟩) rfl;have z0:=hG4.frozen 0;have z1:=hG4.frozen 1;have z2:=hG4.frozen 2;have z3:=hG4.frozen 3;have t0:=hT4.cell 0 (.int .i64 n') rfl;have t1:=hT4.cell 1 (.int .i64 0) rfl;have t2:=hT4.cell 2 (.string ⟨#[]⟩) rfl;have t3:=hT4.cell 3 (.string ⟨#[]⟩) rfl;have hg5:=A1 (A1 hg01.out (A2 _ _ _)) hg4;clear hG4 hT4 hg4;go_wp2_with fail
   refine bodyPost_ret (v:= .agg #[.int .i64 n', .int .i64 0, .string ⟨#[]⟩, .string ⟨#[]⟩]) (a5P _ _ w.heap.size _ _ _ _ _ rfl ((((HG4.out.set 0 _).set 1 _).set 2 _).set 3 _)) rfl ?_;exact .err (er:=(3,st1.at_-1)) ⟨n',0,⟨#[]⟩,⟨#[]⟩⟩ (by rw[HR.out];simp[D6,h32]) (x8 hg5 (Nat.le_refl _)) rfl (D9.keep hs4 (j3 (g:=w.heap.size)) (by simp;omega) (.inr hpl))
 ·obtain⟨L,hL⟩:∃L,L=a5X n:=⟨_,rfl⟩
  have HL:=A0 hL;have HLL:Hid (L.data.toList=O2 n):=by unfold Hid;rw[hL];rfl
  have hLsz:Hid (L.size=(O2 n).length):=by unfold Hid;rw[hL];rfl
  clear hL;go_wp2_with (go_at_call 258;refine(a8y n _).mono ?_;rintro e w4 ⟨rfl,rfl⟩;rw[←HL.out])
  have hls:=b0Y n;have HLS:Hid _:=hls;clear hls
  go_loopw [5] (fun i wr=>∃(k:Nat) (x:In) (s2:Except Er St),k≤L.size∧i= .int .i64 k∧x.op=n∧A3 wr w1.heap.size #[.int .i64 n, .int .i64 x.a, .string x.cls, .string x.mem] 120∧
   A3 wr w.heap.size #[.int .i64 0, .int .i64 0, .string ⟨#[]⟩, .string ⟨#[]⟩] 120∧D9 wr b f pv s2∧w.grownBy wr (some b)∧
   Tot f (C6 s (A9 f 1)) n k x s2) (fun i _=>L.size-(intOf i).toNat)
  case atStart=>
   refine⟨0,⟨n,0,⟨#[]⟩,⟨#[]⟩⟩,E6 (C6 s (A9 f 1)),Nat.zero_le _,rfl,rfl,A3.new _ _ _,HG1.out.keep (A2 _ _ none) (by simp),hs1.out.keep0 (A2 _ _ _),A1 hg01.out (A2 _ _ _),?_⟩;exact Tot.start H1.out h32
  case round=>
   obtain⟨k,x,s2,hk,rfl,hxn,hT,hG,hs2,hgr,htot⟩:=hrel;have HT:=A0 hT;have HG:=A0 hG;have HXN:=A0 hxn;have hL2:L.size≤2:=by have:=hLsz.out;have:=b0s n;omega
   have HS:=A0 hs2;have hg:=A0 hgr;have HR:=A0 htot;have hT0:=HT.out.cell 0 (.int .i64 n) rfl;clear hT hG hxn hs2 hgr htot g0 g1 g2 g3 z0 z1 z2 z3;have hend:s2=s2:=rfl;cases s2 with
   |error er=>
    obtain⟨c4,ne4⟩:=HS.out.err;have g0:=HG.out.cell 0 (.int .i64 0) rfl;have g1:=HG.out.cell 1 (.int .i64 0) rfl;have g2:=HG.out.cell 2 (.string ⟨#[]⟩) rfl;have g3:=HG.out.cell 3 (.string ⟨#[]⟩) rfl;have z0:=HG.out.frozen 0;have z1:=HG.out.frozen 1;have z2:=HG.out.frozen 2;have z3:=HG.out.frozen 3;have t1:=HT.out.cell 1 (.int .i64 x.a) rfl;have t2:=HT.out.cell 2 (.string x.cls) rfl;have t3:=HT.out.cell 3 (.string x.mem) rfl;go_wp2_with fail
    all_goals
     refine bodyPost_ret (v:= .agg #[.int .i64 n, .int .i64 x.a, .string x.cls, .string x.mem]) (a5P _ _ w.heap.size _ _ _ _ _ rfl ((((HG.out.set 0 _).set 1 _).set 2 _).set 3 _)) rfl ?_;exact .err (er:=er) ⟨n,x.a,x.cls,x.mem⟩ HR.out (x8 hg.out (Nat.le_refl _)) rfl (D9.keep HS.out (j3 (g:=w.heap.size)) (by simp;omega) (.inr hpl))
   |ok st2=>
    have c4:=HS.out.2.cells0.2.2.2.2.1;by_cases hlt:k<L.size
    ·have HCL:=HLS.out (L.data[k]) (by rw[←HLL.out];simp);have hLk:(L[k]'hlt)=L.data[k]:=rfl;have hcs:(L[k]'hlt).toNat=(L.data[k]).toNat:=rfl;rcases HCL with hc|hc|hc|hc|hc
     all_goals
      rw[hc]at hcs;have HC:Hid (L.data[k]=_):=hc;simp only[UInt8.reduceToNat]at hcs;clear hc hLk
     ·go_wp2_with (go_at_call 114;refine G9.bind (X3 wr b f pv (.ok st2) 1 HS (by omega)) ?_)
      rintro m v w4 H4 rfl hs4 hg4;try dsimp only
      have hT4:=HT.out.keep hg4 (by simp;omega);have HT4:=A0 hT4;have HG4:=A0 (HG.out.keep hg4 (by simp;omega));have t1:=hT4.cell 1 (.int .i64 x.a) rfl;have y1:=hT4.frozen 1;have hg5:=A0 (A1 hg.out hg4);clear hT4 hg4;go_wp2_with fail
      go_roundw
      case rel=>exact⟨k+1,{x with a:=m},E6 (A9 f 1 st2),hlt,by go_num,HXN.out,HT4.out.set 1 _,HG4.out.keep (A6 _ ⟨w1.heap.size,1,none⟩ _) (by simp;omega),hs4.out.keep (A6 _ ⟨w1.heap.size,1,none⟩ _) (by simp;omega) (.inr hpl1),a8 hg5.out (by omega) 1 _,a3s HLL hlt HC.out HR.out (b8j H4.out)⟩
      case measure=>simp[intOf];omega
     ·go_wp2_with (go_at_call 114;refine G9.bind (X3 wr b f pv (.ok st2) 2 HS (by omega)) ?_)
      rintro m v w4 H4 rfl hs4 hg4;try dsimp only
      have hT4:=HT.out.keep hg4 (by simp;omega);have HT4:=A0 hT4;have HG4:=A0 (HG.out.keep hg4 (by simp;omega));have t1:=hT4.cell 1 (.int .i64 x.a) rfl;have y1:=hT4.frozen 1;have hg5:=A0 (A1 hg.out hg4);clear hT4 hg4;go_wp2_with fail
      go_roundw
      case rel=>exact⟨k+1,{x with a:=m},E6 (A9 f 2 st2),hlt,by go_num,HXN.out,HT4.out.set 1 _,HG4.out.keep (A6 _ ⟨w1.heap.size,1,none⟩ _) (by simp;omega),hs4.out.keep (A6 _ ⟨w1.heap.size,1,none⟩ _) (by simp;omega) (.inr hpl1),a8 hg5.out (by omega) 1 _,a3s HLL hlt HC.out HR.out (b6Y H4.out)⟩
      case measure=>simp[intOf];omega
     ·go_wp2_with (go_at_call 114;refine G9.bind (X3 wr b f pv (.ok st2) 4 HS (by omega)) ?_)
      rintro m v w4 H4 rfl hs4 hg4;try dsimp only
      have hT4:=HT.out.keep hg4 (by simp;omega);have HT4:=A0 hT4;have HG4:=A0 (HG.out.keep hg4 (by simp;omega));have t1:=hT4.cell 1 (.int .i64 x.a) rfl;have y1:=hT4.frozen 1;have hg5:=A0 (A1 hg.out hg4);clear hT4 hg4;by_cases hbig:(2147483648:Int)≤m
      ·go_wp2_with fail
       go_roundw
       case rel=>exact⟨k+1,{x with a:=wrap64 ((m:Int)-4294967296)},E6 (A9 f 4 st2),hlt,by go_num,HXN.out,(HT4.out.set 1 _).set 1 _,(HG4.out.keep (A6 _ ⟨w1.heap.size,1,none⟩ _) (by simp;omega)).keep (A6 _ ⟨w1.heap.size,1,none⟩ _) (by simp;omega),(hs4.out.keep (A6 _ ⟨w1.heap.size,1,none⟩ _) (by simp;omega) (.inr hpl1)).keep (A6 _ ⟨w1.heap.size,1,none⟩ _) (by simp;omega) (.inr hpl1),a8 (a8 hg5.out (by omega) 1 _) (by omega) 1 _,a3s HLL hlt HC.out HR.out (b0h H4.out (b6K hbig))⟩
       case measure=>simp[intOf];omega
      ·go_wp2_with fail
       go_roundw
       case rel=>exact⟨k+1,{x with a:=m},E6 (A9 f 4 st2),hlt,by go_num,HXN.out,HT4.out.set 1 _,HG4.out.keep (A6 _ ⟨w1.heap.size,1,none⟩ _) (by simp;omega),hs4.out.keep (A6 _ ⟨w1.heap.size,1,none⟩ _) (by simp;omega) (.inr hpl1),a8 hg5.out (by omega) 1 _,a3s HLL hlt HC.out HR.out (b0h H4.out (b4f hbig))⟩
       case measure=>simp[intOf];omega
     ·go_wp2_with (go_at_call 117;refine G9.bind (a2t wr b f pv (.ok st2) HS) ?_)
      rintro m v w4 H4 rfl hs4 hg4;try dsimp only
      have hT4:=HT.out.keep hg4 (by simp;omega);have HT4:=A0 hT4;have HG4:=A0 (HG.out.keep hg4 (by simp;omega));have t1:=hT4.cell 2 (.string x.cls) rfl;have y1:=hT4.frozen 2;have hg5:=A0 (A1 hg.out hg4);clear hT4 hg4;go_wp2_with fail
      go_roundw
      case rel=>exact⟨k+1,{x with cls:=m},E6 (name f st2),hlt,by go_num,HXN.out,HT4.out.set 2 _,HG4.out.keep (A6 _ ⟨w1.heap.size,2,none⟩ _) (by simp;omega),hs4.out.keep (A6 _ ⟨w1.heap.size,2,none⟩ _) (by simp;omega) (.inr hpl1),a8 hg5.out (by omega) 2 _,a3s HLL hlt HC.out HR.out (b8i H4.out)⟩
      case measure=>simp[intOf];omega
     ·go_wp2_with (go_at_call 117;refine G9.bind (a2t wr b f pv (.ok st2) HS) ?_)
      rintro m v w4 H4 rfl hs4 hg4;try dsimp only
      have hT4:=HT.out.keep hg4 (by simp;omega);have HT4:=A0 hT4;have HG4:=A0 (HG.out.keep hg4 (by simp;omega));have t1:=hT4.cell 3 (.string x.mem) rfl;have y1:=hT4.frozen 3;have hg5:=A0 (A1 hg.out hg4);clear hT4 hg4;go_wp2_with fail
      go_roundw
      case rel=>exact⟨k+1,{x with mem:=m},E6 (name f st2),hlt,by go_num,HXN.out,HT4.out.set 3 _,HG4.out.keep (A6 _ ⟨w1.heap.size,3,none⟩ _) (by simp;omega),hs4.out.keep (A6 _ ⟨w1.heap.size,3,none⟩ _) (by simp;omega) (.inr hpl1),a8 hg5.out (by omega) 3 _,a3s HLL hlt HC.out HR.out (b6Z H4.out)⟩
      case measure=>simp[intOf];omega
    ·have g0:=HG.out.cell 0 (.int .i64 0) rfl;have g1:=HG.out.cell 1 (.int .i64 0) rfl;have g2:=HG.out.cell 2 (.string ⟨#[]⟩) rfl;have g3:=HG.out.cell 3 (.string ⟨#[]⟩) rfl;have z0:=HG.out.frozen 0;have z1:=HG.out.frozen 1;have z2:=HG.out.frozen 2;have z3:=HG.out.frozen 3;have t1:=HT.out.cell 1 (.int .i64 x.a) rfl;have t2:=HT.out.cell 2 (.string x.cls) rfl;have t3:=HT.out.cell 3 (.string x.mem) rfl;go_wp2_with fail
     refine bodyPost_ret (v:= .agg #[.int .i64 n, .int .i64 x.a, .string x.cls, .string x.mem]) (a5P _ _ w.heap.size _ _ _ _ _ rfl ((((HG.out.set 0 _).set 1 _).set 2 _).set 3 _)) rfl ?_;have hk':k=(O2 n).length:=by have:=hLsz.out;omega
     exact .ok ⟨n,x.a,x.cls,x.mem⟩ (st:=st2) (Tot.done HR.out hk' HXN.out) (x8 hg.out (Nat.le_refl _)) rfl (D9.keep HS.out (j3 (g:=w.heap.size)) (by simp;omega) (.inr hpl))
variable {α:Type}
def C8(s:Except Er St)(p:St→R α)(a:α)(s':Except Er St):Prop:=
 (∀a' st,C6 s p= .ok (a',st)→a'=a)∧E6 (C6 s p)=s'
variable {s:Except Er St}
theorem C8.then{β:Type}{s1 s2:Except Er St}{p:St→R α}{m:α→St→R β}{a:α}{c:β}(h:C8 s p a s1)(h1:C8 s1 (m a) c s2):C8 s (fun st=>D6 (p st) m) c s2:=by
 obtain⟨ha,rfl⟩:=h;obtain⟨hc,rfl⟩:=h1;cases s with
 |error er=>exact⟨(fun _ _ e=>by cases e),rfl⟩
 |ok st=>
  unfold C8;cases hp:p st with
  |error er=>
   have e1:C6 (Except.ok st) p= .error er:=hp;rw[e1];simp only[C6,hp,D6];exact⟨(fun _ _ e=>by cases e),rfl⟩
  |ok q=>
   obtain⟨a',st1⟩:=q;have e1:C6 (Except.ok st) p= .ok (a',st1):=hp;rw[e1]at hc ha⊢;cases ha a' st1 rfl;simp only[C6,hp,D6];exact⟨hc,rfl⟩
theorem C8.pure(s:Except Er St)(a:α):C8 s (fun st=> .ok (a,st)) a s:=by
 cases s with
 |error er=>exact⟨(fun _ _ e=>by cases e),rfl⟩
 |ok st=>exact⟨fun _ _ e=>by cases e;rfl,rfl⟩
variable {w:World}
variable {f:ByteArray}
variable {pv:Value}
theorem C8.ends{s':Except Er St}{p:St→R α}{val:World→Value→α→Prop}{v:Value}{w':World}{a:α}
 (h:C8 s p a s') (hg:w.grownBy w' (some b)) (hv:val w' v a) (hs:D9 w' b f pv s'):G9 w b f pv (C6 s p) val (.returned v) w':=
 ⟨hg,v,a,rfl,hv,h.1,by rw[h.2];exact hs⟩
def K3(f:ByteArray)(c:Nat)(p:St→R α)(s:Except Er St)(n k:Nat)(xs:List α)(s2:Except Er St):Prop:=
 match s2 with
 | .ok st2=>∃st1,C6 s (A9 f c)= .ok (n,st1)∧o4 p n st1 k xs st2
 | .error er=>C6 s (D5 f c p)= .error er
theorem a9G(f:ByteArray)(c:Nat)(p:St→R α):D5 f c p=fun st=>D6 (A9 f c st) (D7 p):=by
 funext st
 unfold D5 D6;cases A9 f c st<;>rfl
theorem a7p(f:ByteArray)(c:Nat)(p:St→R α)(s:Except Er St):C6 s (D5 f c p)=D6 (C6 s (A9 f c)) (D7 p):=by
 rw[a9G,a5K]
theorem K3.start{p:St→R α}(h:∀a' st,C6 s (A9 f c)= .ok (a',st)→a'=n):K3 f c p s n 0 [] (E6 (C6 s (A9 f c))):=by
 cases hr:C6 s (A9 f c)with
 |error er=>show C6 s (D5 f c p)= .error er;rw[a7p,hr];rfl
 |ok q=>obtain⟨a',st1⟩:=q;cases h a' st1 hr;exact⟨st1,hr, .start _ _ _⟩
variable {st2:St}
theorem K3.step{p:St→R α}{xs:List α}{a:α}{s3:Except Er St}(h:K3 f c p s n k xs (.ok st2))(hk:k<n)(ha:C8 (.ok st2) p a s3):K3 f c p s n (k+1) (xs++ [a]) s3:=by
 obtain⟨st1,h1,h2⟩:=h;obtain⟨h3,rfl⟩:=ha;cases hp:p st2 with
 |error er=>
  have e1:C6 (Except.ok st2) p= .error er:=hp;rw[e1];show C6 s (D5 f c p)= .error er;rw[a7p,h1];exact h2.fail hk hp
 |ok q=>
  obtain⟨a',st3⟩:=q;have e1:C6 (Except.ok st2) p= .ok (a',st3):=hp;cases h3 a' st3 e1;rw[e1];exact⟨st1,h1,h2.step hk hp⟩
theorem K3.done{p:St→R α}{xs:List α}(h:K3 f c p s n n xs (.ok st2)):C8 s (D5 f c p) xs (.ok st2):=by
 obtain⟨st1,h1,h2⟩:=h;have e:C6 s (D5 f c p)= .ok (xs,st2):=by rw[a7p,h1];exact h2.done
 unfold C8;rw[e];exact⟨fun _ _ e=>by cases e;rfl,rfl⟩
theorem K3.err{p:St→R α}{xs:List α}{er:Er}(h:K3 f c p s n k xs (.error er)):C8 s (D5 f c p) xs (.error er):=by
 have e:C6 s (D5 f c p)= .error er:=h;unfold C8;rw[e];exact⟨(fun _ _ e=>by cases e),rfl⟩
theorem a6V(f:ByteArray):meth f=fun st=>D6 (name f st) fun n st1=>D6 (D5 f 1 (kind f) st1) fun ps st2=>D6 (kind f st2) fun rt st3=>D6 (A9 f 1 st3) fun so st4=>D6 (A9 f 1 st4) fun lo st5=>
 D6 (D5 f 2 (O3 f) st5) fun is st6=>D6 (D5 f 1 (V3 f) st6) fun hs st7=> .ok (⟨n,ps,rt,so,lo,is,hs⟩,st7):=by
 funext st
 unfold meth D6;cases name f st with
 |error er=>rfl
 |ok q=>
  obtain⟨n,st1⟩:=q;dsimp only;cases D5 f 1 (kind f) st1 with
  |error er=>rfl
  |ok q=>
   obtain⟨ps,st2⟩:=q;dsimp only;cases kind f st2 with
   |error er=>rfl
   |ok q=>
    obtain⟨rt,st3⟩:=q;dsimp only;cases A9 f 1 st3 with
    |error er=>rfl
    |ok q=>
     obtain⟨so,st4⟩:=q;dsimp only;cases A9 f 1 st4 with
     |error er=>rfl
     |ok q=>
      obtain⟨lo,st5⟩:=q;dsimp only;cases D5 f 2 (O3 f) st5 with
      |error er=>rfl
      |ok q=>
       obtain⟨is,st6⟩:=q;dsimp only;cases D5 f 1 (V3 f) st6<;>rfl
theorem a6u(f:ByteArray):V3 f=fun st=>D6 (A9 f 2 st) fun a st1=>D6 (A9 f 2 st1) fun b st2=>D6 (A9 f 2 st2) fun c st3=>D6 (name f st3) fun d st4=> .ok (⟨a,b,c,d⟩,st4):=by
 funext st
 unfold V3 D6;cases A9 f 2 st with
 |error er=>rfl
 |ok q=>
  obtain⟨n,st1⟩:=q;dsimp only;cases A9 f 2 st1 with
  |error er=>rfl
  |ok q=>
   obtain⟨ps,st2⟩:=q;dsimp only;cases A9 f 2 st2 with
   |error er=>rfl
   |ok q=>
    obtain⟨rt,st3⟩:=q;dsimp only;cases name f st3<;>rfl
def a4X(b G B:Nat)(t:Nat→Value):Act:=⟨#[.pointer (some ⟨b,0,none⟩),t 1, .pointer (some ⟨G,0,none⟩), .pointer (some ⟨B,0,none⟩),t 4,t 5,t 6,t 7,t 8,t 9,t 10,t 11,t 12,t 13,t 14,t 15,t 16,t 17,t 18,t 19,t 20,t 21,t 22,t 23,t 24,t 25,t 26,t 27,t 28,t 29,t 30,t 31,t 32,t 33,t 34,t 35,t 36,t 37,t 38,t 39,t 40,t 41,t 42,t 43,t 44,t 45,t 46,t 47,t 48,t 49,t 50,t 51,t 52,t 53,t 54,t 55,t 56,t 57,t 58,t 59,t 60,t 61,t 62,t 63,t 64,t 65,t 66,t 67,t 68,t 69,t 70,t 71,t 72,t 73,t 74,t 75,t 76,t 77,t 78,t 79,t 80,t 81,t 82,t 83,t 84,t 85,t 86,t 87,t 88,t 89,t 90,t 91,t 92,t 93,t 94,t 95,t 96,t 97,t 98,t 99,t 100],[]⟩
def MeJ(b G B:Nat)(R:World→Prop)(a:Act)(w:World):Prop:=R w∧∃t:Nat→Value,a=a4X b G B t
theorem MeJ.of{G B:Nat}{R:World→Prop}(a:Act)(h:a=a4X b G B (fun k=>a.tmps.getD k undef))(hR:R w):MeJ b G B R a w:=⟨hR,_,h⟩
theorem a1R{P:Program}{c:Code}{a:Act}{i:Nat}{J K:Act→World→Prop}{Q:Exit→Act→World→Prop}(hJ:∀a w,J a w→K a w)
 (h:c.wp P (Exit.inBlock i (Exit.then J (fun _ _ _=>False))) a w):c.wp P (Exit.inBlock i (Exit.then K Q)) a w:=by
 refine Code.wp_mono ?_ h;intro e a w he
 have key:∀e a w,Exit.then J (fun _ _ _=>False) e a w→Exit.then K Q e a w:=by
  intro e a w he;cases e<;>first|exact hJ _ _ he|exact he.elim
 revert he;cases e<;>simp only[Exit.inBlock]<;>intro he
 all_goals first
  |exact key _ _ _ he
  |(split at he<;>split<;>first|exact key _ _ _ he|contradiction)
theorem a5o{base e size:Nat}{l:Value}{cs:List Value}(hp:∀k,m≤k→pv.ownBlock≠some k)(ho:w.ownsRow base e size l n cs)(hm:m≤base):pv.ownBlock=none∨pv.ownBlock≠l.ownBlock:=by
 cases h:pv.ownBlock with
 |none=>exact .inl rfl
 |some g=>exact .inr (fun e=>hp g (Nat.le_trans hm (K9 ho e.symm).1) h)
structure MS(w:World)(b G B:Nat)(f:ByteArray)(pv:Value)(c:Array Value)(s:Except Er St)(wr:World):Prop where
 eye:D9 wr b f pv s
 me:A3 wr B c 102
 out:A3 wr G mZ 102
 grown:w.grownBy wr (some b)
section
variable{w wr w1:World}{b G B:Nat}{f:ByteArray}{pv:Value}{c:Array Value}{s s1:Except Er St}
theorem MS.setB(h:MS w b G B f pv c s wr)(hb:b≠B)(hG:G≠B)(hp:pv.ownBlock≠some B)(hB:w.heap.size≤B)(j:Nat)(v:Value):MS w b G B f pv (c.setIfInBounds j v) s (wr.setCell ⟨B,j,none⟩ v):=
 ⟨h.eye.keep (A6 _ ⟨B,j,none⟩ _) (by simpa using hb) (.inr hp),h.me.set j v,h.out.keep (A6 _ ⟨B,j,none⟩ _) (by simpa using hG),a8 h.grown hB j v⟩
theorem MS.step(h:MS w b G B f pv c s wr)(hg:wr.grownBy w1 (some b))(hs:D9 w1 b f pv s1)(hb:b≠B)(hG:b≠G):MS w b G B f pv c s1 w1:=
 ⟨hs,h.me.keep hg (by simpa using fun e=>hb e.symm),h.out.keep hg (by simpa using fun e=>hG e.symm),A1 h.grown hg⟩
end
theorem Z3{α:Type}{enc:α→List Value}{w w1:World}{base e size b:Nat}{v:Value}{xs:List α}(h:E5 base e size enc w v xs)(hg:w.grownBy w1 (some b))(hb:b<base):E5 base e size enc w1 v xs:=
 World.ownsRow.kept h hg (.inr (E9 h hb))
variable {f:ByteArray}
variable {s s1 s2 s3 s4:Except Er St}
theorem b2z{x y z:Nat}{d:ByteArray}(h1:C8 s (A9 f 2) x s1)(h2:C8 s1 (A9 f 2) y s2)(h3:C8 s2 (A9 f 2) z s3)(h4:C8 s3 (name f) d s4):C8 s (V3 f) ⟨x,y,z,d⟩ s4:=by
 rw[a6u];exact h1.then (h2.then (h3.then (h4.then (C8.pure _ _))))
theorem b5o{s5 s6 s7:Except Er St}{n:ByteArray}{ps:List Ty}{rt:Ty}{so lo:Nat}{is:List In}{hs:List Hd}(h1:C8 s (name f) n s1)(h2:C8 s1 (D5 f 1 (kind f)) ps s2)(h3:C8 s2 (kind f) rt s3)
 (h4:C8 s3 (A9 f 1) so s4) (h5:C8 s4 (A9 f 1) lo s5) (h6:C8 s5 (D5 f 2 (O3 f)) is s6) (h7:C8 s6 (D5 f 1 (V3 f)) hs s7):C8 s (meth f) ⟨n,ps,rt,so,lo,is,hs⟩ s7:=by
 rw[a6V];exact h1.then (h2.then (h3.then (h4.then (h5.then (h6.then (h7.then (C8.pure _ _)))))))
structure ML(w:World)(b G B:Nat)(f:ByteArray)(pv:Value)(c:Array Value)(ps:List Ty)(is:List In)(hs:List Hd)(lp lc lh:Value)(s:Except Er St)(wr:World):Prop where
 ms:MS w b G B f pv c s wr
 rp:E5 (B+1) 98 2 C1 wr lp ps
 rc:E5 (B+1) 120 4 L8 wr lc is
 rh:E5 (B+1) 202 4 M6 wr lh hs
section
variable{w wr w1:World}{b G B g:Nat}{f:ByteArray}{pv:Value}{c:Array Value}{ps:List Ty}{is:List In}{hs:List Hd}{lp lc lh:Value}{s s1:Except Er St}
theorem ML.step(h:ML w b G B f pv c ps is hs lp lc lh s wr)(hg:wr.grownBy w1 (some b))(he:D9 w1 b f pv s1)(hb:b<B)(hG:b≠G):ML w b G B f pv c ps is hs lp lc lh s1 w1:=
 ⟨h.ms.step hg he (by omega) hG,Z3 h.rp hg (by omega),Z3 h.rc hg (by omega),Z3 h.rh hg (by omega)⟩
theorem ML.beside(h:ML w b G B f pv c ps is hs lp lc lh s wr)(hg:wr.grownBy w1 (some g))(hb:b≠g)(hB:B≠g)(hG:G≠g)(hp:pv.ownBlock≠some g)(h1:lp.ownBlock≠some g)(h2:lc.ownBlock≠some g)(h3:lh.ownBlock≠some g)(hw:w.heap.size≤g):ML w b G B f pv c ps is hs lp lc lh s w1:=
 ⟨⟨h.ms.eye.keep hg (by simpa using hb) (.inr hp),h.ms.me.keep hg (by simpa using hB),h.ms.out.keep hg (by simpa using hG),C7 h.ms.grown hg (fun k e=> .inl (by cases e;exact hw))⟩,
   World.ownsRow.kept h.rp hg (.inr h1),World.ownsRow.kept h.rc hg (.inr h2),World.ownsRow.kept h.rh hg (.inr h3)⟩
theorem ML.fresh(h:ML w b G B f pv c ps is hs lp lc lh s wr)(hg:wr.grownBy w1 none):ML w b G B f pv c ps is hs lp lc lh s w1:=
 ⟨⟨h.ms.eye.keep0 hg,h.ms.me.keep hg (by simp),h.ms.out.keep hg (by simp),K2 h.ms.grown hg⟩,
   World.ownsRow.kept h.rp hg (by cases lp.ownBlock<;>simp),World.ownsRow.kept h.rc hg (by cases lc.ownBlock<;>simp),World.ownsRow.kept h.rh hg (by cases lh.ownBlock<;>simp)⟩
theorem ML.lies(h:ML w b G B f pv c ps is hs lp lc lh s wr)(hk:wr.heap.size≤g)(hp:∀k,B≤k→pv.ownBlock≠some k):B<g∧pv.ownBlock≠some g∧lp.ownBlock≠some g∧lc.ownBlock≠some g∧lh.ownBlock≠some g:=by
 have hB:=h.ms.me.lt;refine⟨by omega,hp g (by omega),fun e=> ?_,fun e=> ?_,fun e=> ?_⟩
 ·have:=(K9 h.rp e).2;omega
 ·have:=(K9 h.rc e).2;omega
 ·have:=(K9 h.rh e).2;omega
theorem ML.turn{hs':List Hd}{lh':Value}(h:ML w b G B f pv c ps is hs lp lc lh s wr)(hg:wr.grownBy w1 lh.ownBlock)(ho:E5 (B+1) 202 4 M6 w1 lh' hs')(hb:b<B)(hGB:G<B)(hw:w.heap.size≤B)(hp:∀k,B≤k→pv.ownBlock≠some k):ML w b G B f pv c ps is hs' lp lc lh' s w1:=
 ⟨⟨h.ms.eye.keep hg (fun e=>E9 h.rh (show b<B+1 by omega) e.symm) (a5o hp h.rh (by omega)),h.ms.me.keep hg (fun e=>E9 h.rh (show B<B+1 by omega) e.symm),h.ms.out.keep hg (fun e=>E9 h.rh (show G<B+1 by omega) e.symm),
  C7 h.ms.grown hg (fun k e=> .inl (by have:=(K9 h.rh e).1;omega))⟩,
   World.ownsRow.kept h.rp hg (a0u h.rp h.rh (by decide)),World.ownsRow.kept h.rc hg (a0u h.rc h.rh (by decide)),ho⟩
theorem ML.setB(h:ML w b G B f pv c ps is hs lp lc lh s wr)(hb:b≠B)(hG:G≠B)(hp:pv.ownBlock≠some B)(hB:w.heap.size≤B)(j:Nat)(v:Value):ML w b G B f pv (c.setIfInBounds j v) ps is hs lp lc lh s (wr.setCell ⟨B,j,none⟩ v):=
 ⟨h.ms.setB hb hG hp hB j v,Z3 h.rp (A6 _ ⟨B,j,none⟩ _) (Nat.lt_succ_self _),Z3 h.rc (A6 _ ⟨B,j,none⟩ _) (Nat.lt_succ_self _),Z3 h.rh (A6 _ ⟨B,j,none⟩ _) (Nat.lt_succ_self _)⟩
end
theorem b7f(W:World)(t:Array Value)(G:Nat)(x0 x1 x2 x3 x4 x5 x6 x7:Value)(T:TypeId)(ht:t.getD 2 undef= .pointer (some ⟨G,0,none⟩))(h:A3 W G #[x0,x1,x2,x3,x4,x5,x6,x7] T):(results Tryz.f119 t).run Tryz.prog W= .ok (.agg #[x0,x1,x2,x3,x4,x5,x6,x7]) W:=by
 have h0:=h.cell 0 x0 rfl;have h1:=h.cell 1 x1 rfl;have h2:=h.cell 2 x2 rfl;have h3:=h.cell 3 x3 rfl;have h4:=h.cell 4 x4 rfl;have h5:=h.cell 5 x5 rfl;have h6:=h.cell 6 x6 rfl;have h7:=h.cell 7 x7 rfl;rw[Array.getD_eq_getD_getElem?]at ht;simp[results,Tryz.results119,go_sem,ht,h0,h1,h2,h3,h4,h5,h6,h7]
variable {w w1:World}
variable {row:Option Nat}
theorem b7z(h:w.grownBy w1 row){g:Nat}(hg:w.heap.size≤g){i0 i1 i2 i3 i4 i5 i6 i7:Nat}{x0 x1 x2 x3 x4 x5 x6 x7:Value}:
 w.grownBy ((((((((w1.setCell ⟨g,i0,none⟩ x0).setCell ⟨g,i1,none⟩ x1).setCell ⟨g,i2,none⟩ x2).setCell ⟨g,i3,none⟩ x3).setCell ⟨g,i4,none⟩ x4).setCell ⟨g,i5,none⟩ x5).setCell ⟨g,i6,none⟩ x6).setCell ⟨g,i7,none⟩ x7) row:=x8 (x8 h hg) hg
set_option maxRecDepth 100000 in
set_option maxHeartbeats 2000000 in
theorem b3O(w:World)(b:Nat)(f:ByteArray)(pv:Value)(s:Except Er St)(h:Hid (D9 w b f pv s)):
 Calls Tryz.prog 119 #[.pointer (some ⟨b,0,none⟩)] w (G9 w b f pv (C6 s (meth f)) (b1K w.heap.size)):=by
 have hbl:=h.out.lt;have hpl:=h.out.poolLt (Nat.le_refl _);go_enter Tryz.func119,Tryz.ntmps119;go_wp2_with (go_at_call 117;refine G9.bind (a2t _ b f pv s (h.out.keep0 (A2 _ _ _))) ?_)
 rintro nm v w1 H1 rfl hs1 hg1;have hG1:Hid (A3 w1 w.heap.size mZ 102):=(A3.new w _ _).keep hg1 (by simp;omega);have hlt1:=hG1.out.lt;have hg01:=A0 (A1 (A2 _ _ _) hg1);have hb1:b<w1.heap.size:=by omega
 have S1:Hid (C8 s (name f) nm (E6 (C6 s (name f)))):=⟨H1.out,rfl⟩
 generalize E6 (C6 s (name f))=s1 at hs1 S1;clear H1 hg1;go_wp2_with (go_at_call 114;refine G9.bind (X3 _ b f pv s1 1 (hs1.out.keep0 (A2 _ _ _)) (by omega)) ?_)
 rintro n1 v w2 H2 rfl hs2 hg2;have hB2:Hid (A3 w2 w1.heap.size #[.string nm, .slice none 0 0, .int .i64 0, .string ⟨#[]⟩, .int .i64 0, .int .i64 0, .slice none 0 0, .slice none 0 0] 102):=(A3.new w1 _ _).keep hg2 (by simp;omega);have hG2:=A0 ((hG1.out.keep (A2 _ _ none) (by simp)).keep hg2 (by simp;omega));have hlt2:=hB2.out.lt;have hg02:=A0 (A1 (A1 hg01.out (A2 _ _ _)) hg2);have M2:Hid (K3 f 1 (kind f) s1 n1 0 [] (E6 (C6 s1 (A9 f 1)))):=K3.start H2.out;generalize E6 (C6 s1 (A9 f 1))=s2 at hs2 M2;have hpl1':=hs1.out.poolLt (Nat.le_refl _);have HPL:=A0 (fun k (hk:w1.heap.size≤k)=>hs1.out.poolLt hk);clear hg2 hG1 hs1;go_wp2_with fail
 have hbl1:=hb1
 have hpl1:pv.ownBlock≠some w1.heap.size:=by
  exact hpl1'
 refine a1R (J:=MeJ b w.heap.size w1.heap.size (fun wr=>∃(ps:List Ty) (s3:Except Er St) (l:Value),C8 s1 (D5 f 1 (kind f)) ps s3∧
  MS w b w.heap.size w1.heap.size f pv #[.string nm,l, .int .i64 0, .string ⟨#[]⟩, .int .i64 0, .int .i64 0, .slice none 0 0, .slice none 0 0] s3 wr∧E5 (w1.heap.size+1) 98 2 C1 wr l ps)) ?_ ?_
 ·rintro a wr ⟨⟨ps,s3,l,hsn3,hms,hrow⟩,t,rfl⟩;clear hs2 hB2 hG2 M2 H2 hlt2 hg02;obtain⟨al,kl,rfl⟩:=F1 hrow;have S3:=A0 hsn3;have HM3:=A0 hms;have HR3:=A0 hrow;have hbB:b≠w1.heap.size:=by omega
  have hbG:b≠w.heap.size:=by omega
  have hGB:w.heap.size≠w1.heap.size:=by omega
  have hle:w.heap.size≤w1.heap.size:=by omega
  clear hms hrow hsn3;dsimp only[a4X]
  go_wp2_with (first
   |(go_at_call 114
     have HM6a:Hid (MS w b w.heap.size w1.heap.size f pv #[.string nm, .slice al ps.length kl, .int .i64 rt.kind, .string rt.name, .int .i64 so, .int .i64 lo, .slice none 0 0, .slice none 0 0] s6 (w6.setCell ⟨w1.heap.size,5,none⟩ (.int .i64 lo))):=HM6.out.setB hbB hGB hpl1 hle 5 _;have HR6a:Hid (E5 (w1.heap.size+1) 98 2 C1 (w6.setCell ⟨w1.heap.size,5,none⟩ (.int .i64 lo)) (.slice al ps.length kl) ps):=Z3 HR6.out (A6 _ ⟨w1.heap.size,5,none⟩ _) (Nat.lt_succ_self _);refine G9.bind (X3 _ b f pv s6 2 HM6a.out.eye (by omega)) ?_;rintro n2 v w7 H7 rfl hs7 hg7;have HM7:=A0 (HM6a.out.step hg7 hs7.out hbB hbG);have HR7:=A0 (Z3 HR6a.out hg7 (by omega));clear hs7 hg7 HM6a HR6a HM6 HR6;try dsimp only)
   |(go_at_call 114
     have HM5a:Hid (MS w b w.heap.size w1.heap.size f pv #[.string nm, .slice al ps.length kl, .int .i64 rt.kind, .string rt.name, .int .i64 so, .int .i64 0, .slice none 0 0, .slice none 0 0] s5 (w5.setCell ⟨w1.heap.size,4,none⟩ (.int .i64 so))):=HM5.out.setB hbB hGB hpl1 hle 4 _;have HR5a:Hid (E5 (w1.heap.size+1) 98 2 C1 (w5.setCell ⟨w1.heap.size,4,none⟩ (.int .i64 so)) (.slice al ps.length kl) ps):=Z3 HR5.out (A6 _ ⟨w1.heap.size,4,none⟩ _) (Nat.lt_succ_self _);refine G9.bind (X3 _ b f pv s5 1 HM5a.out.eye (by omega)) ?_;rintro lo v w6 H6 rfl hs6 hg6;obtain⟨s6,hs6e⟩:∃s6,s6=E6 (C6 s5 (A9 f 1)):=⟨_,rfl⟩
     rw[←hs6e]at hs6;have S6:Hid (C8 s5 (A9 f 1) lo s6):=⟨H6.out,hs6e.symm⟩
     have HM6:=A0 (HM5a.out.step hg6 hs6.out hbB hbG);have HR6:=A0 (Z3 HR5a.out hg6 (by omega));have z5:=HM6.out.me.frozen 5;have d5:=HM6.out.me.cell 5 _ rfl;clear hs6e hs6 hg6 HM5a HR5a HM5 HR5 H6;try dsimp only)
   |(go_at_call 114
     have HM4a:Hid (MS w b w.heap.size w1.heap.size f pv #[.string nm, .slice al ps.length kl, .int .i64 rt.kind, .string rt.name, .int .i64 0, .int .i64 0, .slice none 0 0, .slice none 0 0] s4 ((w4.setCell ⟨w1.heap.size,2,none⟩ (.int .i64 rt.kind)).setCell ⟨w1.heap.size,3,none⟩ (.string rt.name))):=(HM4.out.setB hbB hGB hpl1 hle 2 _).setB hbB hGB hpl1 hle 3 _;have HR4a:Hid (E5 (w1.heap.size+1) 98 2 C1 ((w4.setCell ⟨w1.heap.size,2,none⟩ (.int .i64 rt.kind)).setCell ⟨w1.heap.size,3,none⟩ (.string rt.name)) (.slice al ps.length kl) ps):=Z3 (Z3 HR4.out (A6 _ ⟨w1.heap.size,2,none⟩ _) (Nat.lt_succ_self _)) (A6 _ ⟨w1.heap.size,3,none⟩ _) (Nat.lt_succ_self _);refine G9.bind (X3 _ b f pv s4 1 HM4a.out.eye (by omega)) ?_;rintro so v w5 H5 rfl hs5 hg5;obtain⟨s5,hs5e⟩:∃s5,s5=E6 (C6 s4 (A9 f 1)):=⟨_,rfl⟩
     rw[←hs5e]at hs5;have S5:Hid (C8 s4 (A9 f 1) so s5):=⟨H5.out,hs5e.symm⟩
     have HM5:=A0 (HM4a.out.step hg5 hs5.out hbB hbG);have HR5:=A0 (Z3 HR4a.out hg5 (by omega));have z4:=HM5.out.me.frozen 4;have d4:=HM5.out.me.cell 4 _ rfl;clear hs5e hs5 hg5 HM4a HR4a HM4 HR4 H5;try dsimp only)
   |(go_at_call 118
     refine G9.bind (a7b wr b f pv s3 HM3.out.eye) ?_;rintro rt v w4 H4 rfl hs4 hg4;obtain⟨s4,hs4e⟩:∃s4,s4=E6 (C6 s3 (kind f)):=⟨_,rfl⟩
     rw[←hs4e]at hs4;have S4:Hid (C8 s3 (kind f) rt s4):=⟨H4.out,hs4e.symm⟩
     have HM4:=A0 (HM3.out.step hg4 hs4.out hbB hbG);have HR4:=A0 (Z3 HR3.out hg4 (by omega));have z2:=HM4.out.me.frozen 2;have z3:=HM4.out.me.frozen 3;have d2:=HM4.out.me.cell 2 _ rfl;have d3:=HM4.out.me.cell 3 _ rfl;clear hs4e hs4 hg4 HM3 HR3 H4;try dsimp only))
  have HM7':Hid (K3 f 2 (O3 f) s6 n2 0 [] (E6 (C6 s6 (A9 f 2)))):=K3.start H7.out;obtain⟨s7,hs7e⟩:∃s7,s7=E6 (C6 s6 (A9 f 2)):=⟨_,rfl⟩
  rw[←hs7e]at HM7 HM7';clear hs7e H7 z2 z3 d2 d3 z4 d4 z5 d5
  refine a1R (J:=MeJ b w.heap.size w1.heap.size (fun wr=>∃(is:List In) (s3:Except Er St) (l:Value),C8 s6 (D5 f 2 (O3 f)) is s3∧
   MS w b w.heap.size w1.heap.size f pv #[.string nm, .slice al ps.length kl, .int .i64 rt.kind, .string rt.name, .int .i64 so, .int .i64 lo,l, .slice none 0 0] s3 wr∧E5 (w1.heap.size+1) 120 4 L8 wr (l) is∧E5 (w1.heap.size+1) 98 2 C1 wr (.slice al ps.length kl) ps)) ?_ ?_
  ·rintro a wr ⟨⟨is,s8,lc0,hsn8,hms,hrc,hrp⟩,t,rfl⟩;clear HM7 HM7' HR7;obtain⟨ac,kc,rfl⟩:=F1 hrc;have S8:=A0 hsn8;have HM8:Hid (ML w b w.heap.size w1.heap.size f pv #[.string nm, .slice al ps.length kl, .int .i64 rt.kind, .string rt.name, .int .i64 so, .int .i64 lo, .slice ac is.length kc, .slice none 0 0] ps is [] (.slice al ps.length kl) (.slice ac is.length kc) (.slice none 0 0) s8 wr):=⟨hms,hrp,hrc,World.ownsRow_nil _ _ _ _⟩
   clear hms hrc hrp hsn8;dsimp only[a4X];go_wp2_with (go_at_call 114;refine G9.bind (X3 _ b f pv s8 1 HM8.out.ms.eye (by omega)) ?_;rintro n3 v w9 H9 rfl hs9 hg9;have HM9:=A0 (HM8.out.step hg9 hs9.out hb1 hbG);have M9:Hid (K3 f 1 (V3 f) s8 n3 0 [] (E6 (C6 s8 (A9 f 1)))):=K3.start H9.out;clear hs9 hg9 H9 HM8;try dsimp only)
   obtain⟨s9,hs9e⟩:∃s9,s9=E6 (C6 s8 (A9 f 1)):=⟨_,rfl⟩
   rw[←hs9e]at HM9 M9;clear hs9e;refine a1R (J:=MeJ b w.heap.size w1.heap.size (fun wr=>∃(hs:List Hd) (s3:Except Er St) (l:Value),C8 s8 (D5 f 1 (V3 f)) hs s3∧ML w b w.heap.size w1.heap.size f pv #[.string nm, .slice al ps.length kl, .int .i64 rt.kind, .string rt.name, .int .i64 so, .int .i64 lo, .slice ac is.length kc,l] ps is hs (.slice al ps.length kl) (.slice ac is.length kc) (l) s3 wr)) ?_ ?_
   ·rintro a wr ⟨⟨hs,s11,lh,hsn11,hml⟩,t,rfl⟩;clear M9 HM9;obtain⟨ah,kh,rfl⟩:=F1 hml.rh;have S11:=A0 hsn11;have HS:=A0 hml;clear hml hsn11;dsimp only[a4X];have d0:=HS.out.ms.me.cell 0 _ rfl;have d1:=HS.out.ms.me.cell 1 _ rfl;have d2:=HS.out.ms.me.cell 2 _ rfl;have d3:=HS.out.ms.me.cell 3 _ rfl;have d4:=HS.out.ms.me.cell 4 _ rfl;have d5:=HS.out.ms.me.cell 5 _ rfl;have d6:=HS.out.ms.me.cell 6 _ rfl;have d7:=HS.out.ms.me.cell 7 _ rfl;have g0:=HS.out.ms.out.cell 0 _ rfl;have g1:=HS.out.ms.out.cell 1 _ rfl;have g2:=HS.out.ms.out.cell 2 _ rfl;have g3:=HS.out.ms.out.cell 3 _ rfl;have g4:=HS.out.ms.out.cell 4 _ rfl;have g5:=HS.out.ms.out.cell 5 _ rfl;have g6:=HS.out.ms.out.cell 6 _ rfl;have g7:=HS.out.ms.out.cell 7 _ rfl;have z0:=HS.out.ms.out.frozen 0;have z1:=HS.out.ms.out.frozen 1;have z2:=HS.out.ms.out.frozen 2;have z3:=HS.out.ms.out.frozen 3;have z4:=HS.out.ms.out.frozen 4;have z5:=HS.out.ms.out.frozen 5;have z6:=HS.out.ms.out.frozen 6;have z7:=HS.out.ms.out.frozen 7;go_wp2_with fail
    refine bodyPost_ret (v:= .agg #[.string nm, .slice al ps.length kl, .int .i64 rt.kind, .string rt.name, .int .i64 so, .int .i64 lo, .slice ac is.length kc, .slice ah hs.length kh]) (b7f _ _ w.heap.size _ _ _ _ _ _ _ _ _ rfl ((((((((HS.out.ms.out.set 0 _).set 1 _).set 2 _).set 3 _).set 4 _).set 5 _).set 6 _).set 7 _)) rfl ?_;have hfin:=b5o S1.out S3.out S4.out S5.out S6.out S8.out S11.out;refine hfin.ends (b7z HS.out.ms.grown (Nat.le_refl _)) ⟨_,rfl,_,_,_,rfl,?_,?_,?_,fun _ _=>trivial⟩ ?_
    ·exact S0 (World.ownsRow.kept HS.out.rp (a0R (g:=w.heap.size)) (.inr (E9 HS.out.rp (by omega)))) (by omega)
    ·exact S0 (World.ownsRow.kept HS.out.rc (a0R (g:=w.heap.size)) (.inr (E9 HS.out.rc (by omega)))) (by omega)
    ·exact S0 (World.ownsRow.kept HS.out.rh (a0R (g:=w.heap.size)) (.inr (E9 HS.out.rh (by omega)))) (by omega)
    ·exact HS.out.ms.eye.keep (a0R (g:=w.heap.size)) (by simp;omega) (.inr hpl)
   ·go_loopw [9] (fun i wr=>∃(k:Nat) (hs:List Hd) (s3:Except Er St) (l:Value),i= .int .i64 k∧k≤n3∧hs.length=k∧K3 f 1 (V3 f) s8 n3 k hs s3∧ML w b w.heap.size w1.heap.size f pv #[.string nm, .slice al ps.length kl, .int .i64 rt.kind, .string rt.name, .int .i64 so, .int .i64 lo, .slice ac is.length kc,l] ps is hs (.slice al ps.length kl) (.slice ac is.length kc) (l) s3 wr) (fun i _=>n3-(intOf i).toNat)
    case atStart=>exact⟨0,[],s9,_,rfl,Nat.zero_le _,rfl,M9.out,HM9.out⟩
    case round=>
     clear M9 HM9;obtain⟨k,hs,s10,l,rfl,hk,hlen,hmid,hml⟩:=hrel;have HM:=A0 hmid;have HS:=A0 hml;have HL:=A0 hlen;clear hmid hml hlen;cases s10 with
     |error er=>
      obtain⟨c4,ne4⟩:=HS.out.ms.eye.err;go_wp2_with fail
      all_goals exact MeJ.of _ rfl ⟨hs,_,l,HM.out.err,HS.out⟩
     |ok st3=>
      have c4:=HS.out.ms.eye.2.cells0.2.2.2.2.1;by_cases hlt:k<n3
      ·obtain⟨i,hi,hz0,hz1,hz2⟩:=info_parts b1b;have hn:n3<256:=by obtain⟨st1,h1,-⟩:=HM.out;exact(a1L h1).1
       have hll:hs.length<65536:=by have:=HL.out;omega
       have hx:=HS.out.lies (Nat.le_refl _) HPL.out;have HX:Hid _:=hx;have hBL:=hx.1;clear hx
       go_wp2_with (first
        |(go_at_call 117
          have HA3:Hid (ML w b w.heap.size w1.heap.size f pv #[.string nm, .slice al ps.length kl, .int .i64 rt.kind, .string rt.name, .int .i64 so, .int .i64 lo, .slice ac is.length kc,l] ps is hs (.slice al ps.length kl) (.slice ac is.length kc) (l) t3 (w12.setCell ⟨wr.heap.size,2,none⟩ (.int .i64 z))):=HS12.out.beside (g:=wr.heap.size) (A6 _ ⟨wr.heap.size,2,none⟩ _) (by omega) (by omega) (by omega) HX.out.2.1 HX.out.2.2.1 HX.out.2.2.2.1 HX.out.2.2.2.2 (by omega);have HU3:Hid (A3 (w12.setCell ⟨wr.heap.size,2,none⟩ (.int .i64 z)) wr.heap.size #[.int .i64 x, .int .i64 y, .int .i64 z, .string ⟨#[]⟩] 202):=HT12.out.set 2 _;refine G9.bind (a2t _ b f pv t3 HA3.out.ms.eye) ?_;rintro d v w13 H13 rfl hs13 hg13;obtain⟨t4,ht4⟩:∃t4,t4=E6 (C6 t3 (name f)):=⟨_,rfl⟩
          have hs13a:D9 w13 b f pv t4:=by rw[ht4];exact hs13.out
          have Q4:Hid (C8 t3 (name f) d t4):=⟨H13.out,ht4.symm⟩
          have HS13:=A0 (HA3.out.step hg13 hs13a hb1 hbG);have HT13:=A0 (HU3.out.keep hg13 (by simp;omega));have e0:=HT13.out.cell 0 _ rfl;have e1:=HT13.out.cell 1 _ rfl;have e2:=HT13.out.cell 2 _ rfl;have e3:=HT13.out.cell 3 _ rfl;have y3:=HT13.out.frozen 3;have d1:=HS13.out.ms.me.cell 7 l rfl;have z1:=HS13.out.ms.me.frozen 7;have hlt3:=HT13.out.lt;have HA4:Hid (ML w b w.heap.size w1.heap.size f pv #[.string nm, .slice al ps.length kl, .int .i64 rt.kind, .string rt.name, .int .i64 so, .int .i64 lo, .slice ac is.length kc,l] ps is hs (.slice al ps.length kl) (.slice ac is.length kc) (l) t4 (w13.setCell ⟨wr.heap.size,3,none⟩ (.string d))):=HS13.out.beside (g:=wr.heap.size) (A6 _ ⟨wr.heap.size,3,none⟩ _) (by omega) (by omega) (by omega) HX.out.2.1 HX.out.2.2.1 HX.out.2.2.2.1 HX.out.2.2.2.2 (by omega)
          have NC:Hid (∀j u,(M6 ⟨x,y,z,d⟩)[j]? =some u→((w13.setCell ⟨wr.heap.size,3,none⟩ (.string d)).alloc (.cells (M6 ⟨x,y,z,d⟩).toArray 202)).cell? ((⟨w13.heap.size,0,none⟩:Addr).add j)=some u):=by
           have:=O5 (w13.setCell ⟨wr.heap.size,3,none⟩ (.string d)) (M6 ⟨x,y,z,d⟩) 202;unfold Hid;simpa using this
          clear hg13 hs13 hs13a ht4 H13 HA3 HU3;try dsimp only)
        |(go_at_call 114
          have HA2:Hid (ML w b w.heap.size w1.heap.size f pv #[.string nm, .slice al ps.length kl, .int .i64 rt.kind, .string rt.name, .int .i64 so, .int .i64 lo, .slice ac is.length kc,l] ps is hs (.slice al ps.length kl) (.slice ac is.length kc) (l) t2 (w11.setCell ⟨wr.heap.size,1,none⟩ (.int .i64 y))):=HS11.out.beside (g:=wr.heap.size) (A6 _ ⟨wr.heap.size,1,none⟩ _) (by omega) (by omega) (by omega) HX.out.2.1 HX.out.2.2.1 HX.out.2.2.2.1 HX.out.2.2.2.2 (by omega);have HU2:Hid (A3 (w11.setCell ⟨wr.heap.size,1,none⟩ (.int .i64 y)) wr.heap.size #[.int .i64 x, .int .i64 y, .int .i64 0, .string ⟨#[]⟩] 202):=HT11.out.set 1 _;refine G9.bind (X3 _ b f pv t2 2 HA2.out.ms.eye (by omega)) ?_;rintro z v w12 H12 rfl hs12 hg12;obtain⟨t3,ht3⟩:∃t3,t3=E6 (C6 t2 (A9 f 2)):=⟨_,rfl⟩
          have hs12a:D9 w12 b f pv t3:=by rw[ht3];exact hs12.out
          have Q3:Hid (C8 t2 (A9 f 2) z t3):=⟨H12.out,ht3.symm⟩
          have HS12:=A0 (HA2.out.step hg12 hs12a hb1 hbG);have HT12:=A0 (HU2.out.keep hg12 (by simp;omega));have e2:=HT12.out.cell 2 _ rfl;have y2:=HT12.out.frozen 2;clear hg12 hs12 hs12a ht3 H12 HA2 HU2;try dsimp only)
        |(go_at_call 114
          have HA1:Hid (ML w b w.heap.size w1.heap.size f pv #[.string nm, .slice al ps.length kl, .int .i64 rt.kind, .string rt.name, .int .i64 so, .int .i64 lo, .slice ac is.length kc,l] ps is hs (.slice al ps.length kl) (.slice ac is.length kc) (l) t1 (w10.setCell ⟨wr.heap.size,0,none⟩ (.int .i64 x))):=HS10.out.beside (g:=wr.heap.size) (A6 _ ⟨wr.heap.size,0,none⟩ _) (by omega) (by omega) (by omega) HX.out.2.1 HX.out.2.2.1 HX.out.2.2.2.1 HX.out.2.2.2.2 (by omega);have HU1:Hid (A3 (w10.setCell ⟨wr.heap.size,0,none⟩ (.int .i64 x)) wr.heap.size #[.int .i64 x, .int .i64 0, .int .i64 0, .string ⟨#[]⟩] 202):=HT10.out.set 0 _;refine G9.bind (X3 _ b f pv t1 2 HA1.out.ms.eye (by omega)) ?_;rintro y v w11 H11 rfl hs11 hg11;obtain⟨t2,ht2⟩:∃t2,t2=E6 (C6 t1 (A9 f 2)):=⟨_,rfl⟩
          have hs11a:D9 w11 b f pv t2:=by rw[ht2];exact hs11.out
          have Q2:Hid (C8 t1 (A9 f 2) y t2):=⟨H11.out,ht2.symm⟩
          have HS11:=A0 (HA1.out.step hg11 hs11a hb1 hbG);have HT11:=A0 (HU1.out.keep hg11 (by simp;omega));have e1:=HT11.out.cell 1 _ rfl;have y1:=HT11.out.frozen 1;clear hg11 hs11 hs11a ht2 H11 HA1 HU1;try dsimp only)
        |(go_at_call 114
          have HA0:Hid (ML w b w.heap.size w1.heap.size f pv #[.string nm, .slice al ps.length kl, .int .i64 rt.kind, .string rt.name, .int .i64 so, .int .i64 lo, .slice ac is.length kc,l] ps is hs (.slice al ps.length kl) (.slice ac is.length kc) (l) (.ok st3) (wr.alloc (.cells #[.int .i64 0, .int .i64 0, .int .i64 0, .string ⟨#[]⟩] 202))):=HS.out.fresh (A2 _ _ none);have HU0:Hid (A3 (wr.alloc (.cells #[.int .i64 0, .int .i64 0, .int .i64 0, .string ⟨#[]⟩] 202)) wr.heap.size #[.int .i64 0, .int .i64 0, .int .i64 0, .string ⟨#[]⟩] 202):=A3.new _ _ _;refine G9.bind (X3 _ b f pv (.ok st3) 2 HA0.out.ms.eye (by omega)) ?_;rintro x v w10 H10 rfl hs10 hg10;obtain⟨t1,ht1⟩:∃t1,t1=E6 (C6 (.ok st3) (A9 f 2)):=⟨_,rfl⟩
          have hs10a:D9 w10 b f pv t1:=by rw[ht1];exact hs10.out
          have Q1:Hid (C8 (.ok st3) (A9 f 2) x t1):=⟨H10.out,ht1.symm⟩
          have HS10:=A0 (HA0.out.step hg10 hs10a hb1 hbG);have HT10:=A0 (HU0.out.keep hg10 (by simp;omega));have e0:=HT10.out.cell 0 _ rfl;have y0:=HT10.out.frozen 0;clear hg10 hs10 hs10a ht1 H10 HA0 HU0;try dsimp only)
        |(at_builtin
          go_loud (refine wpList_append_own _ rfl _ _ 100 rfl (w1.heap.size+1) 202 i _ 4 40 Tryz.underlying100 hi hz0 hz1 hz2 rfl (by decide) _ hs.length (hs.flatMap M6) rfl (World.ownsRow.alloc HA4.out.rh _) ⟨w13.heap.size,0,none⟩ 1 1 (M6 ⟨x,y,z,d⟩) rfl rfl NC.out (by simp[M6,Value.oneCell']) (t5 rfl hll) (by omega) (by simp;omega) ?_)))
       intro v' w14 hown hgrow _;obtain⟨a5,k5,rfl⟩:=F1 hown;have hgA:=A1 (A2 (w13.setCell ⟨wr.heap.size,3,none⟩ (.string d)) (.cells (M6 ⟨x,y,z,d⟩).toArray 202) _) hgrow
       have HO14:Hid (E5 (w1.heap.size+1) 202 4 M6 w14 (.slice a5 (hs.length+1) k5) (hs++ [⟨x,y,z,d⟩])):=by
        unfold E5 Hid;rw[List.length_append,←a2s];exact hown
       have HS14:=A0 (HA4.out.turn hgA HO14.out hb1 hlt1 hle HPL.out);have z1':=HS14.out.ms.me.frozen 7;have d1':=HS14.out.ms.me.cell 7 l rfl;clear hown hgrow hgA d1 z1 HA4 HO14 e0 e1 e2 e3 y0 y1 y2 y3;go_wp2_with fail
       go_roundw
       case rel=>
        have hsn:(hs++ [(⟨x,y,z,d⟩:Hd)]).length=k+1:=by have:=HL.out;simp;omega
        exact⟨k+1,hs++ [(⟨x,y,z,d⟩:Hd)],t4, .slice a5 (hs.length+1) k5,by go_num,hlt,hsn,K3.step HM.out hlt (b2z Q1.out Q2.out Q3.out Q4.out),HS14.out.setB hbB hGB hpl1 hle 7 (.slice a5 (hs.length+1) k5)⟩
       case measure=>simp[intOf];omega
      ·go_wp2_with fail
       have hk':k=n3:=by omega
       subst hk';exact MeJ.of _ rfl ⟨hs,_,l,K3.done HM.out,HS.out⟩
  ·go_loopw [7] (fun i wr=>∃(k:Nat) (is:List In) (s3:Except Er St) (l:Value),i= .int .i64 k∧k≤n2∧is.length=k∧K3 f 2 (O3 f) s6 n2 k is s3∧
    MS w b w.heap.size w1.heap.size f pv #[.string nm, .slice al ps.length kl, .int .i64 rt.kind, .string rt.name, .int .i64 so, .int .i64 lo,l, .slice none 0 0] s3 wr∧E5 (w1.heap.size+1) 120 4 L8 wr (l) is∧E5 (w1.heap.size+1) 98 2 C1 wr (.slice al ps.length kl) ps) (fun i _=>n2-(intOf i).toNat)
   case atStart=>exact⟨0,[],s7,_,rfl,Nat.zero_le _,rfl,HM7'.out,HM7.out,World.ownsRow_nil _ _ _ _,HR7.out⟩
   case round=>
    clear HM7' HM7 HR7;obtain⟨k,is,s8,l,rfl,hk,hlen,hmid,hms,hrow,hrp⟩:=hrel;have HM:=A0 hmid;have HS:=A0 hms;have HO:=A0 hrow;have HP:=A0 hrp;have HL:=A0 hlen;clear hmid hms hrow hlen hrp;cases s8 with
    |error er=>
     obtain⟨c4,ne4⟩:=HS.out.eye.err;go_wp2_with fail
     all_goals exact MeJ.of _ rfl ⟨is,_,l,HM.out.err,HS.out,HO.out,HP.out⟩
    |ok st3=>
     have c4:=HS.out.eye.2.cells0.2.2.2.2.1;by_cases hlt:k<n2
     ·obtain⟨i,hi,hz0,hz1,hz2⟩:=info_parts b1a;have hn:n2<65536:=by obtain⟨st1,h1,-⟩:=HM.out;exact(a1L h1).1
      have hne:l.ownBlock≠some b:=E9 HO.out (by omega);have hneB:l.ownBlock≠some w1.heap.size:=E9 HO.out (by omega);have hneG:l.ownBlock≠some w.heap.size:=E9 HO.out (by omega);have hll:is.length<65536:=by have:=HL.out;omega
      go_wp2_with (first
       |(go_at_call 175
         refine G9.bind (b7K wr b f pv (.ok st3) HS.out.eye) ?_;rintro x v w8 H8 rfl hs8 hg8;have HS8:=A0 (HS.out.step hg8 hs8.out hbB hbG);have HO8:=A0 (Z3 HO.out hg8 (by omega));have HP8:=A0 (Z3 HP.out hg8 (by omega));have d1:=HS8.out.me.cell 6 l rfl;have z1:=HS8.out.me.frozen 6;have hlt3:=HS8.out.me.lt
         have NC:Hid (∀j u,(L8 x)[j]? =some u→((w8.alloc (.cells (L8 x).toArray 120)).alloc (.cells (L8 x).toArray 120)).cell? ((⟨w8.heap.size+1,0,none⟩:Addr).add j)=some u):=by
          have:=O5 (w8.alloc (.cells (L8 x).toArray 120)) (L8 x) 120;unfold Hid;simpa using this
         clear hg8 hs8;try dsimp only)
       |(at_builtin
         go_loud (refine wpList_append_own _ rfl _ _ 99 rfl (w1.heap.size+1) 120 i _ 4 48 Tryz.underlying99 hi hz0 hz1 hz2 rfl (by decide) _ is.length (is.flatMap L8) rfl ((World.ownsRow.alloc HO8.out _).alloc _) ⟨w8.heap.size+1,0,none⟩ 1 1 (L8 x) rfl rfl NC.out (by simp[L8,Value.oneCell']) (t5 rfl hll) (by omega) (by simp;omega) ?_)))
      intro v' w9 hown hgrow _;obtain⟨a5,k5,rfl⟩:=F1 hown;have hgA:=A1 (A1 (A2 w8 (.cells (L8 x).toArray 120) _) (A2 _ (.cells (L8 x).toArray 120) _)) hgrow
      have HS9:Hid (MS w b w.heap.size w1.heap.size f pv #[.string nm, .slice al ps.length kl, .int .i64 rt.kind, .string rt.name, .int .i64 so, .int .i64 lo,l, .slice none 0 0] (E6 (C6 (.ok st3) (O3 f))) w9):=
       ⟨HS8.out.eye.keep hgA (fun e=>hne e.symm) (a5o HPL.out HO8.out (by omega)),HS8.out.me.keep hgA (fun e=>hneB e.symm),HS8.out.out.keep hgA (fun e=>hneG e.symm),C7 HS8.out.grown hgA (fun g hg=> .inl (by have:=(K9 HO8.out hg).1;omega))⟩
      have HO9:Hid (E5 (w1.heap.size+1) 120 4 L8 w9 (.slice a5 (is.length+1) k5) (is++ [x])):=by
       unfold E5 Hid;rw[List.length_append,←a2s];exact hown
      have HP9:Hid (E5 (w1.heap.size+1) 98 2 C1 w9 (.slice al ps.length kl) ps):=World.ownsRow.kept HP8.out hgA (a0u HP8.out HO8.out (by decide));have z1':=HS9.out.me.frozen 6;have d1':=HS9.out.me.cell 6 l rfl;clear hown hgrow hgA d1 z1 HS8 HO8 HP8;go_wp2_with fail
      go_roundw
      case rel=>
       have hsn:(is++ [x]).length=k+1:=by have:=HL.out;simp;omega
       exact⟨k+1,is++ [x],_,_,by go_num,hlt,hsn,K3.step HM.out hlt ⟨H8.out,rfl⟩,HS9.out.setB hbB hGB hpl1 hle 6 _,Z3 HO9.out (A6 _ ⟨w1.heap.size,6,none⟩ _) (Nat.lt_succ_self _),Z3 HP9.out (A6 _ ⟨w1.heap.size,6,none⟩ _) (Nat.lt_succ_self _)⟩
      case measure=>simp[intOf];omega
     ·go_wp2_with fail
      have hk':k=n2:=by omega
      subst hk';exact MeJ.of _ rfl ⟨is,_,l,K3.done HM.out,HS.out,HO.out,HP.out⟩
 ·go_loopw [5] (fun i wr=>∃(k:Nat) (ps:List Ty) (s3:Except Er St) (l:Value),i= .int .i64 k∧k≤n1∧ps.length=k∧K3 f 1 (kind f) s1 n1 k ps s3∧
   MS w b w.heap.size w1.heap.size f pv #[.string nm,l, .int .i64 0, .string ⟨#[]⟩, .int .i64 0, .int .i64 0, .slice none 0 0, .slice none 0 0] s3 wr∧E5 (w1.heap.size+1) 98 2 C1 wr l ps) (fun i _=>n1-(intOf i).toNat)
  case atStart=>exact⟨0,[],s2,_,rfl,Nat.zero_le _,rfl,M2.out,⟨hs2.out,hB2.out,hG2.out,hg02.out⟩,World.ownsRow_nil _ _ _ _⟩
  case round=>
   clear hs2 hB2 hG2 M2;obtain⟨k,ps,s3,l,rfl,hk,hlen,hmid,hms,hrow⟩:=hrel;have HM:=A0 hmid;have HE:=A0 hms.eye;have HB:=A0 hms.me;have HG:=A0 hms.out;have hgr:=A0 hms.grown;have HO:=A0 hrow;have HL:=A0 hlen;clear hmid hms hrow hlen;cases s3 with
   |error er=>
    obtain⟨c4,ne4⟩:=HE.out.err;go_wp2_with fail
    all_goals exact MeJ.of _ rfl ⟨ps,_,l,HM.out.err,⟨HE.out,HB.out,HG.out,hgr.out⟩,HO.out⟩
   |ok st3=>
    have c4:=HE.out.2.cells0.2.2.2.2.1;by_cases hlt:k<n1
    ·obtain⟨i,hi,hz0,hz1,hz2⟩:=info_parts a4K;have hn:n1<256:=by obtain⟨st1,h1,-⟩:=HM.out;exact(a1L h1).1
     have hne:l.ownBlock≠some b:=E9 HO.out (by omega);have hneB:l.ownBlock≠some w1.heap.size:=E9 HO.out (by omega);have hneG:l.ownBlock≠some w.heap.size:=E9 HO.out (by omega);have hll:ps.length<65536:=by have:=HL.out;omega
     go_wp2_with (first
      |(go_at_call 118
        refine G9.bind (a7b wr b f pv (.ok st3) HE) ?_;rintro x v w3 H3 rfl hs4 hg4;have hB4:=HB.out.keep hg4 (by simp;omega);have HB4:=A0 hB4;have HG4:=A0 (HG.out.keep hg4 (by simp;omega));have HO4:Hid (E5 (w1.heap.size+1) 98 2 C1 w3 l ps):=World.ownsRow.kept HO.out hg4 (.inr hne);have d1:=hB4.cell 1 l rfl;have z1:=hB4.frozen 1;have hlt3:=hB4.lt;have HG5:=A0 (A1 hgr.out hg4)
        have NC:Hid (∀j u,(C1 x)[j]? =some u→((w3.alloc (.cells (C1 x).toArray 98)).alloc (.cells (C1 x).toArray 98)).cell? ((⟨w3.heap.size+1,0,none⟩:Addr).add j)=some u):=by
         have:=O5 (w3.alloc (.cells (C1 x).toArray 98)) (C1 x) 98;unfold Hid;simpa using this
        clear hB4 hg4;try dsimp only)
      |(at_builtin
        go_loud (refine wpList_append_own _ rfl _ _ 96 rfl (w1.heap.size+1) 98 i _ 2 24 Tryz.underlying96 hi hz0 hz1 hz2 rfl (by decide) _ ps.length (ps.flatMap C1) rfl ((World.ownsRow.alloc HO4.out _).alloc _) ⟨w3.heap.size+1,0,none⟩ 1 1 (C1 x) rfl rfl NC.out (by simp[C1,Value.oneCell']) (t5 rfl hll) (by omega) (by simp;omega) ?_)))
     intro v' w4 hown hgrow _;obtain⟨a5,k5,rfl⟩:=F1 hown;have hgA:=A1 (A1 (A2 w3 (.cells (C1 x).toArray 98) _) (A2 _ (.cells (C1 x).toArray 98) _)) hgrow;have HB5:=A0 (HB4.out.keep hgA (fun e=>hneB e.symm));have HG6:=A0 (HG4.out.keep hgA (fun e=>hneG e.symm));have HE5:=A0 (hs4.out.keep hgA (fun e=>hne e.symm) (a5o HPL.out HO4.out (by omega)))
     have HO5:Hid (E5 (w1.heap.size+1) 98 2 C1 w4 (.slice a5 (ps.length+1) k5) (ps++ [x])):=by
      unfold E5 Hid;rw[List.length_append,←a2s];exact hown
     have HG7:=A0 (C7 HG5.out hgA (fun g hg=> .inl (by have:=(K9 HO4.out hg).1;omega)));have z1':=HB5.out.frozen 1;have d1':=HB5.out.cell 1 l rfl;clear hown hgrow hgA d1 z1;go_wp2_with fail
     go_roundw
     case rel=>
      have hsn:(ps++ [x]).length=k+1:=by have:=HL.out;simp;omega
      refine⟨k+1,ps++ [x],_,_,by go_num,hlt,hsn,K3.step HM.out hlt ⟨H3.out,rfl⟩,⟨HE5.out.keep (A6 _ ⟨w1.heap.size,1,none⟩ _) (by simp;omega) (.inr hpl1),HB5.out.set 1 _,HG6.out.keep (A6 _ ⟨w1.heap.size,1,none⟩ _) (by simp;omega),a8 HG7.out (by omega) 1 _⟩,World.ownsRow.kept HO5.out (A6 _ ⟨w1.heap.size,1,none⟩ _) (.inr (E9 HO5.out (Nat.lt_succ_self _)))⟩
     case measure=>simp[intOf];omega
    ·go_wp2_with fail
     have hk':k=n1:=by omega
     subst hk';exact MeJ.of _ rfl ⟨ps,_,l,K3.done HM.out,⟨HE.out,HB.out,HG.out,hgr.out⟩,HO.out⟩
variable {s:ByteArray}
variable {a k:Nat}
theorem b0k(hk:k<s.size)(ha:(s[k]'hk).toNat=a)(h:97≤a∧a≤122∨65≤a∧a≤90∨48≤a∧a≤57):j1 s.data[k]=true:=by
 rw[a6x,decide_eq_true_eq];have e:s.data[k].toNat=a:=ha;rw[e];exact h
theorem b0S(hk:k<s.size)(ha:(s[k]'hk).toNat=a)(h:¬(97≤a∧a≤122∨65≤a∧a≤90∨48≤a∧a≤57)):j1 s.data[k]=false:=by
 rw[a6x,decide_eq_false_iff_not];have e:s.data[k].toNat=a:=ha;rw[e];exact h
set_option maxHeartbeats 400000 in
theorem b3Q(s:ByteArray)(w:World)(hs:s.size≤2048):
 Calls Tryz.prog 173 #[.string s] w fun e w'=>e= .returned (.bool (F4 s))∧w=w':=by
 go_enter Tryz.func173,Tryz.ntmps173;go_wp2_with fail
 go_loop [3] (fun i=>∃k:Nat,k≤s.size∧i= .int .i64 k∧Hid (∀j (hj:j<s.size),j<k→j1 s.data[j]=true)) (fun i=>s.size-(intOf i).toNat)
 case atStart=>exact⟨0,by omega,rfl,fun j hj h=>by omega⟩
 case round=>
  obtain⟨k,hk,rfl,hall⟩:=hrel;by_cases hlt:k<s.size
  ·obtain⟨a,ha⟩:∃a,(s[k]'hlt).toNat=a:=⟨_,rfl⟩
   have HA:=A0 ha
   have hkey:Hid ((97≤a∧a≤122∨65≤a∧a≤90∨48≤a∧a≤57)→∀j (hj:j<s.size),j<k+1→j1 s.data[j]=true):=by
    intro h j hj hk;by_cases e:j=k
    ·subst e;exact b0k _ HA.out h
    ·exact hall.out j hj (by omega)
   have hend:Hid (s.size-(intOf (Value.int IntKind.i64 ((k:Int)+1))).toNat<s.size-(intOf (Value.int IntKind.i64 (k:Int))).toNat):=by unfold Hid;simp[intOf];omega
   by_cases hyes:97≤a∧a≤122∨65≤a∧a≤90∨48≤a∧a≤57
   ·have HY:=A0 hyes;clear hyes;go_wp2_with fail
    all_goals first
     |exact⟨⟨k+1,hlt,by go_num,hkey.out HY.out⟩,hend.out⟩
     |(exfalso;have:=HY.out;try simp only[Bool.not_eq_true',decide_eq_false_iff_not]at*
       omega)
   ·have HN:=A0 hyes;clear hyes;go_wp2_with fail
    all_goals first
     |(go_ret;exact⟨by rw[a6J k hlt (b0S _ HA.out HN.out)];rfl,rfl⟩)
     |(exfalso;have:=HN.out;try simp only[Bool.not_eq_false',decide_eq_true_eq]at*
       omega)
  ·go_wp2_with fail
   all_goals
    go_ret;refine⟨congrArg (fun x=>Ending.returned (.bool x)) ?_,rfl⟩
    have hA:s.data.toList.all j1=true:=by
     simp only[List.all_eq_true];intro c hc;obtain⟨j,hj,rfl⟩:=List.getElem_of_mem hc;exact hall.out j (by simpa using hj) (by simp at hj;have:s.data.size=s.size:=rfl;omega)
    simp only[F4,hA,Bool.and_true];by_cases q1:1≤s.size<;>by_cases q2:s.size≤12<;>simp[q1,q2]<;>omega
def b1G(w:World)(b:Nat)(f:ByteArray)(r:R (List Unit))(e:Ending)(w':World):Prop:=
 e= .returned (.tuple #[])∧w.grownBy w' (some b)∧∃pv,D9 w' b f pv (E6 r)
def a3e(w wr:World)(pv:Value)(k:Nat)(s:Except Er St):Prop:=∀st,s= .ok st→st.pool.length=k∧wr.ownsRow w.heap.size 9 1 pv st.pool.length (st.pool.map Value.string)
variable {l:List ByteArray}
theorem a9v{j:Nat}(hj:j<l.length){o0:Bool}{nm:ByteArray}:(o0&& !(l.take (j+1)).contains nm)=((o0&& !(l.take j).contains nm)&& !(l[j].toList==nm.toList)):=by
 haveI:=a6y
 rw[List.take_succ_eq_append_getElem hj,Bool.eq_iff_iff];have:(l[j].toList==nm.toList)=true↔l[j]=nm:=⟨t8,fun e=>by rw[e];simp⟩
 simp only[Bool.and_eq_true,Bool.not_eq_true',←Bool.not_eq_true,List.contains_iff_mem,List.mem_append,List.mem_singleton,this,eq_comm (a:=nm)];rw[not_or,and_assoc]
theorem Ey.setNames{w2:World}{b base:Nat}{f:ByteArray}{pv pv':Value}{e p:Nat}{names:List ByteArray}{t:Int}(h:Ey w b f pv a names t e p)(h1:w.grownBy w1 none)(h2:w1.grownBy w2 row)(hr:row≠some b)
 (ho:w2.ownsRow base 9 1 pv' l.length (l.map Value.string)) (hb:b<base) (hl:l.length≤255):Ey (w2.setCell ⟨b,2,none⟩ pv') b f pv' a l t e p:=
 ⟨((h.blk.keep h1 (by simp)).keep h2 (fun e=>hr e.symm)).set 2 _,(S0 ho (by omega)).kept (A6 w2 ⟨b,2,none⟩ pv') (.inr (E9 ho hb)),h.fits,h.at_,hl,h.lo,h.hi⟩
set_option maxRecDepth 100000 in
set_option maxHeartbeats 1000000 in
theorem b6f(w:World)(b:Nat)(f:ByteArray)(st:St)(h:Hid (D9 w b f (.slice none 0 0) (.ok st)))(h0:st.pool=[]):
 Calls Tryz.prog 116 #[.pointer (some ⟨b,0,none⟩)] w (b1G w b f (D5 f 1 (K0 f) st)):=by
 have hbl:=h.out.lt;have H0:=A0 h0;clear h0;go_enter Tryz.func116,Tryz.ntmps116;go_wp2_with (go_at_call 114;refine G9.bind (X3 w b f _ (.ok st) 1 h (by omega)) ?_)
 rintro n v w1 H1 rfl hs1 hg1;have M1:Hid (K3 f 1 (K0 f) (.ok st) n 0 [] (E6 (C6 (.ok st) (A9 f 1)))):=K3.start H1.out;have HG1:=A0 hg1
 have HN:Hid (a3e w w1 (.slice none 0 0) 0 (E6 (C6 (.ok st) (A9 f 1)))):=by
  intro st1 e
  have hp:st1.pool=[]:=by
   cases hr:A9 f 1 st with
   |error er=>rw[show C6 (Except.ok st) (A9 f 1)= .error er from hr]at e;cases e
   |ok q=>
    obtain⟨a,st2⟩:=q;rw[show C6 (Except.ok st) (A9 f 1)= .ok (a,st2)from hr]at e;cases e;rw[(O6 hr).1];exact H0.out
  rw[hp];exact⟨rfl,World.ownsRow_nil _ _ _ _⟩
 obtain⟨s1,hs1e⟩:∃s1,s1=E6 (C6 (.ok st) (A9 f 1)):=⟨_,rfl⟩
 rw[←hs1e]at hs1 M1 HN;clear hs1e hg1 H1;go_wp2_with fail
 go_loopw [3] (fun i wr=>∃(k:Nat) (xs:List Unit) (s2:Except Er St) (pv:Value),i= .int .i64 k∧k≤n∧K3 f 1 (K0 f) (.ok st) n k xs s2∧D9 wr b f pv s2∧a3e w wr pv k s2∧w.grownBy wr (some b)) (fun i _=>n-(intOf i).toNat)
 case atStart=>exact⟨0,[],s1,_,rfl,Nat.zero_le _,M1.out,hs1.out,HN.out,HG1.out⟩
 case round=>
  clear hs1 M1 HN HG1;obtain⟨k,xs,s2,pv,rfl,hk,hmid,hey,hna,hgr⟩:=hrel;have HM:=A0 hmid;have HE:=A0 hey;have HN:=A0 hna;have HG:=A0 hgr;clear hmid hey hna hgr;cases s2 with
  |error er=>
   obtain⟨c4,ne4⟩:=HE.out.err;go_wp2_with fail
   all_goals
    go_end0;exact⟨rfl,HG.out,pv,by rw[show D5 f 1 (K0 f) st= .error er from HM.out];exact HE.out⟩
  |ok st2=>
   obtain⟨-,c1,-,-,c4,-,-,-,-,-,-⟩:=HE.out.2.cells0;by_cases hlt:k<n
   ·have hn:n<256:=by obtain⟨st1,h1,-⟩:=HM.out;exact(a1L h1).1
    go_wp2_with (go_at_call 114;refine G9.bind (X3 wr b f pv (.ok st2) 1 HE (by omega)) ?_)
    rintro m v w3 H3 rfl hs3 hg3;try dsimp only
    have HG3:=A0 (A1 HG.out hg3)
    have HN3:Hid (a3e w w3 pv k (.ok st2)):=by
     intro st' e;obtain⟨h1,h2⟩:=HN.out st' e;exact⟨h1,World.ownsRow.kept h2 hg3 (.inr (E9 h2 hbl))⟩
    clear hg3 c1 c4 HG HN HE;cases hr:A9 f 1 st2 with
    |error er=>
     have HS3:Hid (D9 w3 b f pv (.error er)):=by
      have:=hs3.out;rw[show C6 (Except.ok st2) (A9 f 1)= .error er from hr]at this;exact this
     have HME:Hid (K3 f 1 (K0 f) (.ok st) n (k+1) (xs++ [()]) (.error er)):=HM.out.step hlt (by
      have e:C6 (Except.ok st2) (K0 f)= .error er:=a5W (by simp only[V2,hr]);unfold C8;rw[e];exact⟨(fun _ _ e=>by cases e),rfl⟩)
     clear hr hs3 H3;obtain⟨c4,ne4⟩:=HS3.out.err
     obtain⟨c1,c0⟩:(∃a:Nat,w3.cell? ⟨b,1,none⟩=some (.int .i64 a))∧w3.cell? ⟨b,0,none⟩=some (.string f):=by
      obtain⟨h1,a,names,t,h2⟩:=HS3.out;exact⟨⟨a,h2.cells.2.1⟩,h2.cells.1⟩
     obtain⟨a1,c1⟩:=c1;have ne5:((er.1:Int)==0)=false:=by simpa using ne4
     go_wp2_with fail
     go_quiet (fail)
     have HS3':Hid (D9 (w3.drewN nq) b f pv (.error er)):=HS3.out.keep0 (F0 _ _ _);go_wp2_with fail
     all_goals
      go_end0;exact⟨rfl,A1 HG3.out (F0 _ _ _),pv,by rw[show D5 f 1 (K0 f) st= .error er from HME.out];exact HS3'.out⟩
    |ok q=>
     obtain⟨m',st3⟩:=q;have hm:=H3.out m' st3 hr;subst hm;have HR:=A0 hr
     have HS3:Hid (D9 w3 b f pv (.ok st3)):=by
      have:=hs3.out;rw[show C6 (Except.ok st2) (A9 f 1)= .ok (m',st3)from hr]at this;exact this
     have hm256:m'<256:=(O6 hr).2;have hp23:Hid (st3.pool=st2.pool):=by unfold Hid;rw[(O6 hr).1]
     have hat:=HS3.out.1.at_;have hfz:=HS3.out.1.fits;clear hr hs3 H3;obtain⟨c0,c1,c2,-,c4,-,f1,f2,-,-,-⟩:=HS3.out.2.cells0;by_cases hfit:st3.at_+m'≤f.size
     ·go_wp2_with fail
      go_quiet (fail)
      have HS4:Hid (D9 (w3.drewN nq) b f pv (.ok st3)):=HS3.out.keep0 (F0 _ _ _);have HG4:Hid (w.grownBy (w3.drewN nq) (some b)):=A1 HG3.out (F0 _ _ _);have HN4:Hid (a3e w (w3.drewN nq) pv k (.ok st2)):=fun st' e=>⟨(HN3.out st' e).1,World.ownsRow.kept (HN3.out st' e).2 (F0 _ _ none) (by cases pv.ownBlock<;>simp)⟩
      generalize w3.drewN nq=w4 at HS4 HG4 HN4⊢;clear HS3 HG3 HN3 c0 c1 c2 c4 f1 f2;obtain⟨c0,c1,c2,-,c4,-,f1,f2,-,-,-⟩:=HS4.out.2.cells0;go_wp2_with fail
      go_quiet (fail)
      have HS5:Hid (D9 (w4.drewN nq) b f pv (.ok st3)):=HS4.out.keep0 (F0 _ _ _);have HG5:Hid (w.grownBy (w4.drewN nq) (some b)):=A1 HG4.out (F0 _ _ _);have HN5:Hid (a3e w (w4.drewN nq) pv k (.ok st2)):=fun st' e=>⟨(HN4.out st' e).1,World.ownsRow.kept (HN4.out st' e).2 (F0 _ _ none) (by cases pv.ownBlock<;>simp)⟩
      generalize w4.drewN nq=w5 at HS5 HG5 HN5⊢;clear HS4 HG4 HN4 c0 c1 c2 c4 f1 f2;obtain⟨c0,c1,c2,-,c4,-,f1,f2,-,-,-⟩:=HS5.out.2.cells0;obtain⟨nm,hnm⟩:∃nm,nm=f.extract st3.at_ (st3.at_+m'):=⟨_,rfl⟩
      rw[←hnm];have HNM:=A0 hnm;have hnl:nm.size≤2048:=by rw[hnm];simp;omega
      clear hnm;go_wp2_with (go_at_call 173;refine(b3Q nm _ hnl).mono ?_)
      rintro e w6 ⟨rfl,hw6⟩;try dsimp only
      rw[show((st3.at_:Int)+(m':Int))=((st3.at_+m':Nat):Int)by omega]at hw6
      have HS6:Hid (D9 w6 b f pv (.ok {st3 with at_:=st3.at_+m'})):=by
       rw[←hw6];exact⟨⟨HS5.out.1.fits,hfit,HS5.out.1.used,HS5.out.1.pool⟩,HS5.out.2.setAt _ hfit⟩
      have HG6:Hid (w.grownBy w6 (some b)):=by rw[←hw6];exact A1 HG5.out (A6 _ ⟨b,1,none⟩ _)
      have HL:=A0 ((HN5.out st2 rfl).1)
      have HO6:Hid (w6.ownsRow w.heap.size 9 1 pv st2.pool.length (st2.pool.map Value.string)):=by
       rw[←hw6];have:=(HN5.out st2 rfl).2;exact this.kept (A6 _ ⟨b,1,none⟩ _) (.inr (E9 this hbl))
      clear HS5 HG5 HN5 hw6 c0 c1 c2 c4 f1 f2;obtain⟨-,-,c2,-,-,-,-,f2,-,-,-⟩:=HS6.out.2.cells0;obtain⟨a0,k0,rfl⟩:=F1 HO6.out
      have HC:Hid (∀j,j<st2.pool.length→∃g,a0=some ⟨g,0,none⟩∧w6.cell? ⟨g,j,none⟩=some (.string (st2.pool.getD j ByteArray.empty))):=by
       intro j hj;rcases a2X HO6.out with⟨-,h2⟩|⟨g,cap,h1,-,hc⟩
       ·rw[h2]at hj;cases hj
       ·exact⟨g,by injection h1,hc j hj⟩
      have hlb:st2.pool.length<256:=by have:=HL.out;omega
      obtain⟨o0,ho0⟩:∃o0,o0=F4 nm:=⟨_,rfl⟩
      rw[←ho0];have HO0:=A0 ho0;clear ho0;go_wp2_with fail
      go_loopw [7,8] (fun o i wr=>∃j:Nat,j≤st2.pool.length∧i= .int .i64 j∧o= .bool (o0&& !(st2.pool.take j).contains nm)∧w6.grownBy wr none) (fun _ i _=>st2.pool.length-(intOf i).toNat)
      case atStart=>exact⟨0,Nat.zero_le _,rfl,by simp,G1 _ _⟩
      case round=>
       obtain⟨j,hj,rfl,rfl,hgw⟩:=hrel;have HW:=A0 hgw;have HS7:=A0 (HS6.out.keep0 hgw);have HO7:=A0 (World.ownsRow.kept HO6.out hgw (by cases (Value.slice a0 st2.pool.length k0).ownBlock<;>simp));clear hgw c2 f2;obtain⟨-,-,c2,-,-,-,-,f2,-,-,-⟩:=HS7.out.2.cells0;by_cases hjl:j<st2.pool.length
       ·obtain⟨g,rfl,-⟩:=HC.out j hjl
        have hcj:wr.cell? ⟨g,j,none⟩=some (.string (st2.pool.getD j ByteArray.empty)):=by
         rcases a2X HO7.out with⟨h2,-⟩|⟨g',cap,h1,-,hc⟩
         ·cases h2
         ·cases h1;exact hc j hjl
        obtain⟨o1,ho1⟩:∃o1,o1=(o0&& !(st2.pool.take j).contains nm):=⟨_,rfl⟩
        rw[←ho1];have HO1:=A0 ho1;clear ho1;cases o1
        ·go_wp2_with fail
         exact⟨⟨j+1,hjl,by go_num,by rw[a9v hjl,←HO1.out];rfl,HW.out⟩,by simp[intOf];omega⟩
        ·go_wp2_with fail
         exact⟨⟨j+1,hjl,by go_num,by rw[a9v hjl,←HO1.out];rfl,HW.out⟩,by simp[intOf];omega⟩
       ·have hje:j=st2.pool.length:=by omega
        obtain⟨o1,ho1⟩:∃o1,o1=(o0&& !(st2.pool.take j).contains nm):=⟨_,rfl⟩
        rw[←ho1]
        have HO1:Hid (o1=(F4 nm&& !st2.pool.contains nm)):=by
         unfold Hid;rw[ho1,hje,List.take_length,HO0.out]
        clear ho1 hje;obtain⟨i,hi,hz0,hz1,hz2⟩:=info_parts a5G;have hne:=E9 HO7.out hbl;have hbr:=HS7.out.lt;have hwr:=A0 (K2 HG6.out HW.out);have hsw:=hwr.out.size;cases o1
        ·go_wp2_with (first
          |(go_at_call 115
            refine(t7 _ b f _ _ 4 st2.at_ HS7 (by omega)).mono ?_;rintro e w7 ⟨rfl,hg7,hs7⟩;have HO8:=A0 (World.ownsRow.kept HO7.out hg7 (.inr hne));have HG7:=A0 (A1 hwr.out hg7);have HE7:Hid (∃a names t,Ey w7 b f (.slice a0 st2.pool.length k0) a names t (4:Nat) st2.at_):=hs7.2;have hb7:=D9.lt hs7;have hs7w:=HG7.out.size;have d2:w7.cell? ⟨b,2,none⟩=some (.slice a0 st2.pool.length k0):=by obtain⟨a,names,t,hE⟩:=hs7.2;exact hE.cells.2.2.1
            have e2:w7.frozen? ⟨b,2,none⟩=false:=by obtain⟨a,names,t,hE⟩:=hs7.2;exact hE.blk.frozen 2
            clear hs7 hg7;try dsimp only)
          |(at_builtin
            go_loud (refine wpList_append_own _ rfl _ _ 22 rfl w.heap.size 9 i _ 1 16 Tryz.underlying22 hi hz0 hz1 hz2 rfl (by decide) _ st2.pool.length (st2.pool.map Value.string) rfl (World.ownsRow.alloc HO8.out _) ⟨w7.heap.size,0,none⟩ 1 1 [.string nm] rfl rfl (O5 w7 [.string nm] 9) (by simp[Value.oneCell']) (t5 rfl (by omega)) (by omega) (by simp;omega) ?_)))
         intro v' w8 hown hgrow _;obtain⟨a5,k5,rfl⟩:=F1 hown;have hgA:=A1 (A2 w7 (.cells #[.string nm] 9) _) hgrow
         have hown':w8.ownsRow w.heap.size 9 1 (.slice a5 (st2.pool.length+1) k5) (st2.pool++ [nm]).length ((st2.pool++ [nm]).map Value.string):=by
          simpa using hown
         have hl255:(st2.pool++ [nm]).length≤255:=by have:=HL.out;simp;omega
         have HS8:Hid (D9 (w8.setCell ⟨b,2,none⟩ (.slice a5 (st2.pool.length+1) k5)) b f (.slice a5 (st2.pool.length+1) k5) (.error (4,st2.at_))):=by
          obtain⟨a,names,t,hE⟩:=HE7.out;exact⟨by simp,a,_,t,hE.setNames (A2 _ _ _) hgrow hne hown' hbl hl255⟩
         have HG8:=A0 (C7 HG7.out hgA (fun g hg=> .inl (K9 HO8.out hg).1));have HN8:Hid (a3e w (w8.setCell ⟨b,2,none⟩ (.slice a5 (st2.pool.length+1) k5)) (.slice a5 (st2.pool.length+1) k5) (k+1) (.error (4,st2.at_))):=fun st' e=>by cases e
         have HM8:Hid (K3 f 1 (K0 f) (.ok st) n (k+1) (xs++ [()]) (.error (4,st2.at_))):=HM.out.step hlt (by
          have e:C6 (Except.ok st2) (K0 f)= .error (4,st2.at_):=a5W (by simp only[V2,HR.out,hfit,if_true,←HNM.out,←HO1.out,Bool.false_eq_true,if_false]);unfold C8;rw[e];exact⟨(fun _ _ e=>by cases e),rfl⟩)
         have c2':=(hgA.cell_far ⟨b,2,none⟩ (by simp;omega) (fun e=>hne e.symm)).trans d2;have f2':=(hgA.frozen_far ⟨b,2,none⟩ (by simp;omega) (fun e=>hne e.symm)).trans e2;clear hown hown' hgrow hgA c2 f2 hl255 d2 e2;go_wp2_with fail
         go_roundw
         case rel=>exact⟨k+1,xs++ [()],_,_,by go_num,hlt,HM8.out,HS8.out,HN8.out,A1 HG8.out (A6 _ ⟨b,2,none⟩ _)⟩
         case measure=>simp[intOf];omega
        ·go_wp2_with (at_builtin;go_loud (refine wpList_append_own _ rfl _ _ 22 rfl w.heap.size 9 i _ 1 16 Tryz.underlying22 hi hz0 hz1 hz2 rfl (by decide) _ st2.pool.length (st2.pool.map Value.string) rfl (World.ownsRow.alloc HO7.out _) ⟨wr.heap.size,0,none⟩ 1 1 [.string nm] rfl rfl (O5 wr [.string nm] 9) (by simp[Value.oneCell']) (t5 rfl (by omega)) (by omega) (by simp;omega) ?_))
         intro v' w8 hown hgrow _;obtain⟨a5,k5,rfl⟩:=F1 hown;have hgA:=A1 (A2 wr (.cells #[.string nm] 9) _) hgrow
         have hown':w8.ownsRow w.heap.size 9 1 (.slice a5 (st2.pool.length+1) k5) (st3.pool++ [nm]).length ((st3.pool++ [nm]).map Value.string):=by
          rw[hp23.out];simpa using hown
         have hpl:st3.pool.length=k:=by rw[hp23.out];exact HL.out
         have hl255:(st3.pool++ [nm]).length≤255:=by rw[hp23.out];have:=HL.out;simp;omega
         have HS8:Hid (D9 (w8.setCell ⟨b,2,none⟩ (.slice a5 (st2.pool.length+1) k5)) b f (.slice a5 (st2.pool.length+1) k5) (.ok {st3 with at_:=st3.at_+m',pool:=st3.pool++ [nm]})):=
          ⟨⟨HS7.out.1.fits,hfit,by have:st3.used≤st3.pool.length:=HS7.out.1.used;simp;omega,by simp;omega⟩,HS7.out.2.setNames (A2 _ _ _) hgrow hne hown' hbl hl255⟩
         have HG8:=A0 (C7 hwr.out hgA (fun g hg=> .inl (K9 HO7.out hg).1))
         have HN8:Hid (a3e w (w8.setCell ⟨b,2,none⟩ (.slice a5 (st2.pool.length+1) k5)) (.slice a5 (st2.pool.length+1) k5) (k+1) (.ok {st3 with at_:=st3.at_+m',pool:=st3.pool++ [nm]})):=by
          intro st' e;cases e;exact⟨by simp;omega,hown'.kept (A6 w8 ⟨b,2,none⟩ _) (.inr (E9 hown' hbl))⟩
         have HM8:Hid (K3 f 1 (K0 f) (.ok st) n (k+1) (xs++ [()]) (.ok {st3 with at_:=st3.at_+m',pool:=st3.pool++ [nm]})):=HM.out.step hlt (by
          have e:C6 (Except.ok st2) (K0 f)= .ok ((),{st3 with at_:=st3.at_+m',pool:=st3.pool++ [nm]}):=b0N (st1:={st3 with at_:=st3.at_+m'}) (by simp only[V2,HR.out,hfit,if_true,←HNM.out,←HO1.out]);unfold C8;rw[e];exact⟨(fun _ _ e=>by cases e;rfl),rfl⟩)
         have c2':=(hgA.cell_far ⟨b,2,none⟩ (by simp;omega) (fun e=>hne e.symm)).trans c2;have f2':=(hgA.frozen_far ⟨b,2,none⟩ (by simp;omega) (fun e=>hne e.symm)).trans f2;clear hown hown' hgrow hgA c2 f2 hl255 hpl;go_wp2_with fail
         go_roundw
         case rel=>exact⟨k+1,xs++ [()],_,_,by go_num,hlt,HM8.out,HS8.out,HN8.out,A1 HG8.out (A6 _ ⟨b,2,none⟩ _)⟩
         case measure=>simp[intOf];omega
     ·go_wp2_with fail
      go_quiet (fail)
      have HS4:Hid (D9 (w3.drewN nq) b f pv (.ok st3)):=HS3.out.keep0 (F0 _ _ _);go_wp2_with (go_at_call 115;refine(t7 _ b f pv _ 2 f.size HS4 (by omega)).mono ?_)
      rintro e w4 ⟨rfl,hg4,hs4⟩;try dsimp only
      have HS5:Hid (D9 w4 b f pv (.error (2,f.size))):=hs4;have HG5:=A0 (A1 (A1 HG3.out (F0 _ _ _)) hg4)
      have HME:Hid (K3 f 1 (K0 f) (.ok st) n (k+1) (xs++ [()]) (.error (2,f.size))):=HM.out.step hlt (by
       have e:C6 (Except.ok st2) (K0 f)= .error (2,f.size):=a5W (by simp only[V2,HR.out,hfit,if_false]);unfold C8;rw[e];exact⟨(fun _ _ e=>by cases e),rfl⟩)
      obtain⟨c4',-⟩:=hs4.err;clear hg4 hs4 c0 c1 c2 c4 f1 f2;go_wp2_with fail
      go_end0;exact⟨rfl,HG5.out,pv,by rw[show D5 f 1 (K0 f) st= .error (2,f.size)from HME.out];exact HS5.out⟩
   ·go_wp2_with fail
    go_end0;have hk':k=n:=by omega
    subst hk';have:=(K3.done HM.out).2;exact⟨rfl,HG.out,pv,by rw[show E6 (D5 f 1 (K0 f) st)= .ok st2 from this];exact HE.out⟩
end Go.Proofs.YtdhophglnhcjbaaGreatDoor
