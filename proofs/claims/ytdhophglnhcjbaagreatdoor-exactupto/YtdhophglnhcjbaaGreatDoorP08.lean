/- P08: a part of the proof that the last text tells. -/
import Derived.Test.YtdhophglnhcjbaaGreatDoorP05
set_option linter.all false
set_option maxRecDepth 100000
set_option maxHeartbeats 40000000
open Go.Proofs.Tryz
namespace Go.Proofs.YtdhophglnhcjbaaGreatDoor
section
theorem a0f{P:Prop}(h:P:=by
 go_upto_region 5 with fail
 refine wp_region_held_drew (S:=(fun w'=>w'.cell? ⟨t,2,none⟩=some (.slice (some ⟨tg,0,none⟩) n n)∧w'.cell? ⟨tg,a,none⟩=some (.slice (some ⟨g a,0,none⟩) lr lr)∧w'.cell? ⟨w.heap.size,0,none⟩=some (.int .i64 U.kind)∧w'.cell? ⟨w.heap.size,1,none⟩=some (.string U.name))) (by kernel_rfl) HS5.out (fun hHeld=> ?_);refine A4 0 ?_;refine A4 1 ?_;refine A4 2 ?_;refine A4 3 ?_;refine A4 4 ?_;refine A4 5 ?_;refine A4 6 ?_;refine A4 7 ?_;refine A4 8 ?_;refine A4 9 ?_;refine T6 10 fun K hK=> ?_;obtain⟨-,-,g3,g4,g5,g6⟩:=HRC.out W4.drew (A1 HG4.out (B6 _ _));obtain⟨-,-,g3',g4',g5',g6'⟩:=HRC.out W4 HG4.out;go_simp
 refine hK.out _ _ ?_ (fun hHeld=> ?_)
 case refine_1=>
  have hgs:W4.grownBy ((W4.setCell ⟨g a,j*2,none⟩ (.int .i64 U.kind)).setCell ⟨g a,j*2+1,none⟩ (.string U.name)) (some (g a)):=A1 (A9 _ ⟨g a,j*2,none⟩ _) (A9 _ ⟨g a,j*2+1,none⟩ _);exact⟨hgs.cell HS5.out.1 (fun e=>HNE.out.1 (Option.some.inj e)),hgs.cell HS5.out.2.1 (fun e=>HNE.out.2.1 (Option.some.inj e)),hgs.cell HS5.out.2.2.1 (fun e=>HNE.out.2.2 (Option.some.inj e)),hgs.cell HS5.out.2.2.2 (fun e=>HNE.out.2.2 (Option.some.inj e))⟩
 try clear hK K
 try simp only[Act.put,lz]
 refine wpAnyH_done (by kernel_rfl) ?_ _;have hM5:=HT4.out.set hq ha (Nat.le_trans hb (HG4.out.size)) U;obtain⟨hM5,hF5⟩:=hM5;generalize (W4.setCell ⟨g a,j*2,none⟩ (.int .i64 U.kind)).setCell ⟨g a,j*2+1,none⟩ (.string U.name)=W6 at hM5 hF5⊢;obtain⟨W5,hW5⟩:∃W5,W5=W6.drew:=⟨_,rfl⟩
 have HM5:Hid (G5 W5 base t bw b tg g n {s with ts:=U5 s.ts a j U} ra rk):=by rw[hW5];exact hM5.keep (B6 _ none)
 have HF5:Hid (TFx t g n ra ra w W5):=by rw[hW5];exact((Fx.grown HG4.out).trans hF5).trans (Fx.grown (B6 _ none))
 rw[←hW5];clear hW5;have hs5:=Nat.le_trans hb HF5.out.size;clear hM5 hF5;obtain⟨rl,hrl0⟩:∃rl,rl=s.ris.length:=⟨_,rfl⟩
 have HRL:=A0 hrl0;have hrlb:rl≤8000000000000:=by omega
 have d3:W5.cell? ⟨t,3,none⟩=some (.slice ra rl rk):=by rw[hrl0];exact HM5.out.blk.cell 3 _ rfl
 clear hrl0
 have HOW:Hid ((W5.alloc (.cells #[.int .i64 a, .int .i64 j] 366)).ownsRow base 366 2 (.slice ra rl rk) rl (s.ris.flatMap O8)):=by
  have h5:W5.ownsRow base 366 2 (.slice ra rl rk) rl (s.ris.flatMap O8):=by rw[HRL.out];exact HM5.out.ris
  exact h5.kept (A2 _ _ none) (by cases hv:(Value.slice ra rl rk).ownBlock<;>simp)
 have hfb:=(HM5.out.blk).frozen 3;obtain⟨inf,ii0,iz0,iz1,iz2⟩:=info_parts a9v;go_wp2_with (at_builtin;go_loud (refine a4s rfl _ _ 309 rfl base 366 inf _ 2 16 underlying309 ii0 iz0 iz1 iz2 rfl (by decide) ra rl rk (s.ris.flatMap O8) rfl HOW.out (some ⟨W5.heap.size,0,none⟩) 1 1 [.int .i64 a, .int .i64 j] rfl rfl (fun jj u hu=>⟨_,rfl,S6 W5 _ _ jj u hu⟩) (by simp[Value.oneCell']) (by unfold maxLen;omega) (by omega) (Nat.le_trans hs5 (A2 W5 _ none).size) ?_;intro a7 k7 w7 hown7 hg7 hat7;have hf7:=(HM5.out.blk.keep (D5 (A2 W5 (.cells #[.int .i64 a, .int .i64 j] 366) _) hg7 (fun k e=> .inr e.symm)) (I4 (by rw[HRL.out];exact HM5.out.ris) HM5.out.blk (by decide)).symm).frozen 3;have hc7:=(D5 (A2 W5 (.cells #[.int .i64 a, .int .i64 j] 366) _) hg7 (fun k e=> .inr e.symm)).cell d3 (I4 (by rw[HRL.out];exact HM5.out.ris) HM5.out.blk (by decide)).symm))
 have hP:=HM5.out.push (p:=(a,j)) hs5 (by rw[←HRL.out];exact hown7) (by rw[←HRL.out];exact D5 (A2 W5 (.cells #[.int .i64 a, .int .i64 j] 366) _) hg7 (fun k e=> .inr e.symm)) (fun p e=>by
  rcases hat7 p e with h1|h1
  ·exact .inl h1
  ·exact .inr (Nat.le_trans (A2 W5 (.cells #[.int .i64 a, .int .i64 j] 366) none).size h1))
 rw[←HRL.out]at hP;go_end0;exact⟨rfl,a7,k7,by rw[HPS.out];exact hP.1,HF5.out.trans hP.2⟩):P:=h
end
section
open Go.RowKit Go.Shelf Cf
namespace Kx
variable {w w':World}
variable {a b bw j lim n t tg:Nat}
variable {L:List Cl}
theorem Lk.tySize{p:Addr}{cap m1 m2 m3:Nat}{q:Nat→Qs}(h:Lk w lim b L p cap m1 m2 m3 q){t:Ty}(ht:D6 L t):t.name.size≤maxLen:=by
 have h2:=ht.2;split at h2
 ·obtain⟨i,hi⟩:=h2;have:=M9 hi;have h3:=(h.kls.names i this.1).1;rw[this.2.1]at h3;exact h3
 ·rw[h2];exact Nat.zero_le _
variable {s:Ps}
variable {o:Option Ty}
variable {u:Ty}
theorem b4T(hq:tq s.ts a j=some o)(h:a3y o (X3 L o u)=true):N0 L s (a,j,u)=s:=by
 unfold N0;rw[hq];dsimp only;rw[if_pos h]
theorem a8d(hq:tq s.ts a j=some o)(h:a3y o (X3 L o u)=false):N0 L s (a,j,u)={ts:=U5 s.ts a j (X3 L o u),ris:=s.ris++ [(a,j)]}:=by
 unfold N0;rw[hq];dsimp only;rw[if_neg (by simp[h])]
theorem b7N(w:World)(lim b:Nat)(L:List Cl)(p:Addr)(cap m1 m2 m3:Nat)(q:Nat→Qs)(h:Hid (Lk w lim b L p cap m1 m2 m3 q))(hW':B9 L)(base t bw tg:Nat)(g:Nat→Nat)(n:Nat)(s:Ps)(ra:Option Addr)(rk:Nat)(hT:Hid (G5 w base t bw b tg g n s ra rk))(hb:base≤w.heap.size)(hlb:lim≤base)
 (a j:Nat) (u:Ty) (o:Option Ty) (hq:tq s.ts a j=some o) (ho:∀x,o=some x→D6 L x) (hu:D6 L u) (ha:a<n) (hn:n≤65535) (hris:s.ris.length≤8000000000000) (hlen:(s.ts.getD a []).length≤70000):
 Calls prog 266 #[.pointer (some ⟨t,0,none⟩), .int .i64 a, .int .i64 j, .agg #[.int .i64 u.kind, .string u.name]] w fun e w'=>e= .returned (.tuple #[])∧∃ra' rk',G5 w' base t bw b tg g n (N0 L s (a,j,u)) ra' rk'∧TFx t g n ra ra' w w':=by
 obtain⟨q1,q2⟩:=a2c hq;have hne:(s.ts.getD a []).length≠0:=by omega
 have haI:(a:Int)<(n:Int):=by omega
 obtain⟨lr,hlr⟩:∃lr,lr=(s.ts.getD a []).length:=⟨_,rfl⟩
 have hjI:(j:Int)<(lr:Int):=by omega
 have c1:=hT.out.blk.c1;have c2:=hT.out.blk.c2;have ca:w.cell? ⟨tg,a,none⟩=some (.slice (some ⟨g a,0,none⟩) lr lr):=V9 hT.out.types a _ (by rw[List.getElem?_map,List.getElem?_range ha,Option.map_some];unfold a1a;rw[if_neg hne,←hlr]);have hrow:=hT.out.rows a ha hne;obtain⟨f1,f2⟩:=b2c _ _ _ (show(s.ts.getD a [])[j]? =some o from hq);have r0:=V9 hrow _ _ f1;have r1:=V9 hrow _ _ f2;have HRC:Hid (∀W,w.grownBy W none→W.cell? ⟨t,2,none⟩=some (.slice (some ⟨tg,0,none⟩) n n)∧W.cell? ⟨tg,a,none⟩=some (.slice (some ⟨g a,0,none⟩) lr lr)∧W.frozen? ⟨g a,j*2,none⟩=false∧W.frozen? ⟨g a,j*2+1,none⟩=false∧W.cell? ⟨g a,j*2,none⟩=some (.int .i64 (slK o))∧W.cell? ⟨g a,j*2+1,none⟩=some (.string (slN o))):=fun W hW=>⟨hW.cell c2 (by simp),hW.cell ca (by simp),(A3.grow hrow hW).frozen _,(A3.grow hrow hW).frozen _,hW.cell r0 (by simp),hW.cell r1 (by simp)⟩
 have HNE:Hid (t≠g a∧tg≠g a∧w.heap.size≠g a):=⟨K6 hT.out.blk hrow (by decide),K6 hT.out.types hrow (by decide),fun e=>by have:=hrow.lt;omega⟩
 have lt1:=hT.out.blk.lt;have lt2:=hT.out.types.lt;have lt3:=hrow.lt;have HLT:Hid (t<w.heap.size∧tg<w.heap.size∧g a<w.heap.size):=⟨hT.out.blk.lt,hT.out.types.lt,hrow.lt⟩
 have HB7:Hid (A3 ((w.alloc (.cells #[.int .i64 u.kind, .string u.name] 98)).alloc (.cells #[.int .i64 (slK o), .string (slN o)] 98)) w.heap.size #[.int .i64 u.kind, .string u.name] 98):=(A3.new w _ _).keep (A2 _ _ none) A5;have HG2:Hid (w.grownBy ((w.alloc (.cells #[.int .i64 u.kind, .string u.name] 98)).alloc (.cells #[.int .i64 (slK o), .string (slN o)] 98)) none):=A1 (A2 _ _ _) (A2 _ _ _);clear q1 q2 hne hlr hrow f1 f2;cases o with
 |none=>
  obtain⟨U,rfl⟩:∃U,U=u:=⟨_,rfl⟩
  have HPS:Hid (N0 L s (a,j,U)={ts:=U5 s.ts a j U,ris:=s.ris++ [(a,j)]}):=a8d hq rfl;have hk1:¬(U.kind:Int)= -1:=by omega
  have HB8:Hid (A3 ((w.alloc (.cells #[.int .i64 U.kind, .string U.name] 98)).alloc (.cells #[.int .i64 (-1), .string ⟨#[]⟩] 98)) (w.heap.size+1) #[.int .i64 (-1), .string ⟨#[]⟩] 98):=by
   have:=A3.new (w.alloc (.cells #[.int .i64 U.kind, .string U.name] 98)) #[.int .i64 (-1), .string ⟨#[]⟩] 98;exact a3a
  dsimp only[slK,slN]at HB7 HG2 r0 r1;go_enter func266,ntmps266;go_upto_region 4 with fail
  generalize ((w.alloc (.cells #[.int .i64 U.kind, .string U.name] 98)).alloc (.cells #[.int .i64 (-1), .string ⟨#[]⟩] 98))=W4 at HB7 HB8 HG2⊢;have HT4:=A0 (hT.out.keep HG2.out);have HG4:=A0 HG2.out;obtain⟨y0,y1⟩:=HB7.out.q2;obtain⟨x0,x1⟩:=HB8.out.q2;clear r0 r1 c1 c2 ca;have HS5:Hid (W4.cell? ⟨t,2,none⟩=some (.slice (some ⟨tg,0,none⟩) n n)∧W4.cell? ⟨tg,a,none⟩=some (.slice (some ⟨g a,0,none⟩) lr lr)∧W4.cell? ⟨w.heap.size,0,none⟩=some (.int .i64 U.kind)∧W4.cell? ⟨w.heap.size,1,none⟩=some (.string U.name)):=⟨(HRC.out _ HG4.out).1,(HRC.out _ HG4.out).2.1,y0,y1⟩
  exact a0f
 |some x=>
  have hx:=ho x rfl;have HJ:=A0 (fun W hW=>b9P W lim b L p cap m1 m2 m3 q (h.out.keep hW (Nat.le_trans hlb hb)) (Nat.le_trans (Nat.le_trans hlb hb) hW.size) hW' x u hx hu (h.out.tySize hx) (h.out.tySize hu));obtain⟨U,hU⟩:∃U,U=a1F L x u:=⟨_,rfl⟩
  have HRU:Hid (X3 L (some x) u=U):=hU.symm;rw[←hU]at HJ;have hk1:¬(x.kind:Int)= -1:=by omega
  dsimp only[slK,slN]at HB7 HG2 r0 r1
  have HB8:Hid (A3 ((w.alloc (.cells #[.int .i64 u.kind, .string u.name] 98)).alloc (.cells #[.int .i64 x.kind, .string x.name] 98)) (w.heap.size+1) #[.int .i64 x.kind, .string x.name] 98):=by
   have:=A3.new (w.alloc (.cells #[.int .i64 u.kind, .string u.name] 98)) #[.int .i64 x.kind, .string x.name] 98;exact a3a
  clear hU h hx;go_enter func266,ntmps266;go_upto_region 3 with fail
  have lt0:t≠w.heap.size:=by omega
  refine a6e (fun a' W=>(∃tt:Nat→Value,a'={tmps:= #[.pointer (some ⟨t,0,none⟩), .int .i64 a, .int .i64 j,tt 3,tt 4,tt 5,tt 6, .pointer (some ⟨w.heap.size,0,none⟩), .pointer (some ⟨w.heap.size+1,0,none⟩),tt 9,tt 10,tt 11,tt 12,tt 13,tt 14,tt 15,tt 16,tt 17,tt 18,tt 19,tt 20,tt 21,tt 22,tt 23,tt 24,tt 25,tt 26,tt 27,tt 28,tt 29,tt 30,tt 31,tt 32,tt 33,tt 34,tt 35,tt 36,tt 37,tt 38,tt 39,tt 40,tt 41,tt 42,tt 43,tt 44,tt 45,tt 46,tt 47,tt 48,tt 49,tt 50,tt 51,tt 52,tt 53],defers:=[]})∧w.grownBy W none∧A3 W w.heap.size #[.int .i64 U.kind, .string U.name] 98∧A3 W (w.heap.size+1) #[.int .i64 x.kind, .string x.name] 98) ?_ ?_
  ·go_region_with (go_at_call 319;refine(HJ.out _ (A1 HG2.out (B6 _ _))).mono ?_;rintro e w1 ⟨rfl,hg1⟩;have hb1:=HB7.out.keep (A1 (B6 _ none) hg1) A5;have hb2:=HB8.out.keep (A1 (B6 _ none) hg1) A5;have ct1:=(A1 (A1 HG2.out (B6 _ none)) hg1).cell c1 (by simp);obtain⟨y0,y1⟩:=hb1.q2;obtain⟨x0,x1⟩:=hb2.q2;obtain⟨z0,z1⟩:=hb1.z2)
   all_goals
    have hgS:w1.grownBy ((w1.setCell ⟨w.heap.size,0,none⟩ (.int .i64 U.kind)).setCell ⟨w.heap.size,1,none⟩ (.string U.name)) (some w.heap.size):=A1 (A9 _ ⟨w.heap.size,0,none⟩ _) (A9 _ ⟨w.heap.size,1,none⟩ _);have hb7:=(hb1.set 0 (.int .i64 U.kind)).set 1 (.string U.name);have hb8:=hb2.keep hgS (by simp);have HG4:=D5 (A1 (A1 HG2.out (B6 _ _)) hg1) hgS (fun k e=>by cases e;exact .inl (Nat.le_refl _));exact⟨a1t (Fr:=fun tt=>{tmps:= #[.pointer (some ⟨t,0,none⟩), .int .i64 a, .int .i64 j,tt 3,tt 4,tt 5,tt 6, .pointer (some ⟨w.heap.size,0,none⟩), .pointer (some ⟨w.heap.size+1,0,none⟩),tt 9,tt 10,tt 11,tt 12,tt 13,tt 14,tt 15,tt 16,tt 17,tt 18,tt 19,tt 20,tt 21,tt 22,tt 23,tt 24,tt 25,tt 26,tt 27,tt 28,tt 29,tt 30,tt 31,tt 32,tt 33,tt 34,tt 35,tt 36,tt 37,tt 38,tt 39,tt 40,tt 41,tt 42,tt 43,tt 44,tt 45,tt 46,tt 47,tt 48,tt 49,tt 50,tt 51,tt 52,tt 53],defers:=[]}) rfl,HG4,hb7,hb8⟩
  rintro a' W4 ⟨⟨tt,rfl⟩,hG4,hb7,hb8⟩;have HG4:=A0 hG4;clear hG4;have HT4:=A0 (hT.out.keep HG4.out);clear c1 c2 ca r0 r1;have y0:=hb7.c0;have y1:=hb7.c1;obtain⟨x0,x1⟩:=hb8.q2;clear hb7 hb8;by_cases hK:x.kind=U.kind
  ·by_cases hN:x.name=U.name
   ·have HPS:=A0 (b4T hq (by rw[HRU.out,a5B];cases x;cases U;simp only at hK hN;rw[hK,hN]));rw[←hK]at y0;rw[←hN]at y1;clear hK hN;go_wp2_with fail
    go_end0;exact⟨rfl,ra,rk,by rw[HPS.out];exact HT4.out,Fx.grown HG4.out⟩
   ·have HPS:Hid (N0 L s (a,j,u)={ts:=U5 s.ts a j U,ris:=s.ris++ [(a,j)]}):=by
     have:=a8d (L:=L) (u:=u) hq (by rw[HRU.out];cases hs:a3y (some x) U with|false=>rfl|true=>exact absurd (congrArg Ty.name (Option.some.inj ((a5B _ _).1 hs))) hN);rw[HRU.out]at this;exact this
    have hNb:=a2x (fun e:U.name=x.name=>hN e.symm);have hN':¬U.name=x.name:=fun e=>hN e.symm
    have HS5:Hid (W4.cell? ⟨t,2,none⟩=some (.slice (some ⟨tg,0,none⟩) n n)∧W4.cell? ⟨tg,a,none⟩=some (.slice (some ⟨g a,0,none⟩) lr lr)∧W4.cell? ⟨w.heap.size,0,none⟩=some (.int .i64 U.kind)∧W4.cell? ⟨w.heap.size,1,none⟩=some (.string U.name)):=⟨(HRC.out _ HG4.out).1,(HRC.out _ HG4.out).2.1,y0,y1⟩
    rw[hK]at x0;clear hK;exact a0f
  ·have HPS:Hid (N0 L s (a,j,u)={ts:=U5 s.ts a j U,ris:=s.ris++ [(a,j)]}):=by
    have:=a8d (L:=L) (u:=u) hq (by rw[HRU.out];cases hs:a3y (some x) U with|false=>rfl|true=>exact absurd (congrArg Ty.kind (Option.some.inj ((a5B _ _).1 hs))) hK);rw[HRU.out]at this;exact this
   have hKI:¬(U.kind:Int)=(x.kind:Int):=by omega
   have HS5:Hid (W4.cell? ⟨t,2,none⟩=some (.slice (some ⟨tg,0,none⟩) n n)∧W4.cell? ⟨tg,a,none⟩=some (.slice (some ⟨g a,0,none⟩) lr lr)∧W4.cell? ⟨w.heap.size,0,none⟩=some (.int .i64 U.kind)∧W4.cell? ⟨w.heap.size,1,none⟩=some (.string U.name)):=⟨(HRC.out _ HG4.out).1,(HRC.out _ HG4.out).2.1,y0,y1⟩
   clear hK;exact a0f
structure PE(L:List Cl)(c:ByteArray)(m:Me)(ht:Nat→Option Nat):Prop where
 wld:B9 L
 tyw:o4 L
 cok:R0 L m
 fine:∀i∈m.code,a1D L i
 hok:a0w L m
 hts:∀a h,a<m.code.length→(ht a=some h↔Cf.F9 L m a h)
 hst:∀a h,ht a=some h→h≤m.stack
 has:G3 L c=true
 pars:∀p∈m.params,D6 L p
 nc:m.code.length≤65535
 st:m.stack≤255
 lo:m.locals≤255
 nh:m.handlers.length≤0
 nl:L.length≤65536
variable {c:ByteArray}
variable {m:Me}
variable {ht:Nat→Option Nat}
theorem PE.ok(h:PE L c m ht):∀i∈m.code,P0 i:=fun i hi=>(h.fine i hi).okin
theorem PE.room(h:PE L c m ht){k:Nat}(hr:Cf.F9 L m a k):G8 L m (A6 m a)≤k∧a<m.code.length∧k≤m.stack:=by
 have h1:=h.hok.room a k hr;unfold j6 at h1;simp only[Bool.and_eq_true,decide_eq_true_eq]at h1;have h2:=a1V h.cok h.ok hr;exact⟨h1.1,h2.1,h2.2⟩
theorem PE.mu0(h:PE L c m ht):S9 L (K4 m ht)≤8000000000000:=by
 refine Nat.le_trans (c2h L m h.hst) ?_;have h1:(m.locals+m.stack)*(L.length+2)≤510*65538:=Nat.mul_le_mul (by have:=h.lo;have:=h.st;omega) (by have:=h.nl;omega);have h2:=Nat.mul_le_mul h.nc h1;omega
theorem b3a(L:List Cl)(s:Ps):s.ris.length≤S9 L s:=by unfold S9;omega
def htI(ht:Nat→Option Nat)(a:Nat):Int:=match ht a with|none=> -1|some h=>h
def meV(m:Me)(pa:Option Addr)(pk:Nat)(ca:Option Addr)(ck:Nat)(ha:Option Addr)(hk:Nat):List Value:=[.string m.name, .slice pa m.params.length pk, .int .i64 m.ret.kind, .string m.ret.name, .int .i64 m.stack, .int .i64 m.locals, .slice ca m.code.length ck, .slice ha m.handlers.length hk]
structure TyE(w:World)(lim:Nat)(L:List Cl)(m:Me)(pa:Option Addr)(pk:Nat)(ca:Option Addr)(ck:Nat)(ha:Option Addr)(hk:Nat)(bw eg hg:Nat)(ht:Nat→Option Nat):Prop where
 meth:∀k v,(meV m pa pk ca ck ha hk)[k]? =some v→w.cell? ⟨bw,k,none⟩=some v
 c8:w.cell? ⟨bw,8,none⟩=some (.slice (some ⟨eg,0,none⟩) m.code.length m.code.length)
 c9:w.cell? ⟨bw,9,none⟩=some (.slice (some ⟨hg,0,none⟩) m.code.length m.code.length)
 hts:∀a,a<m.code.length→w.cell? ⟨hg,a,none⟩=some (.int .i64 (htI ht a))
 eff:∀a,a<m.code.length→∃ta tk ua uk,w.cell? ⟨eg,a*3,none⟩=some (.slice ta (F6 L m (A6 m a)).length tk)∧w.cell? ⟨eg,a*3+1,none⟩=some (.slice ua (C6 L (A6 m a)).length uk)∧B8 w w.heap.size 2 C9 ua (C6 L (A6 m a))
 code:B8 w lim 4 T3 ca m.code
 hand:B8 w lim 4 T4 ha m.handlers
 par:B8 w lim 2 C9 pa m.params
theorem TyE.keep{pa:Option Addr}{pk:Nat}{ca:Option Addr}{ck:Nat}{ha:Option Addr}{hk eg hg:Nat}(h:TyE w lim L m pa pk ca ck ha hk bw eg hg ht)(hg2:w.grownBy w' none):TyE w' lim L m pa pk ca ck ha hk bw eg hg ht:=
 ⟨fun k v e=>hg2.cell (h.meth k v e) (by simp),hg2.cell h.c8 (by simp),hg2.cell h.c9 (by simp),fun a ha'=>hg2.cell (h.hts a ha') (by simp),fun a ha'=>by
  obtain⟨ta,tk,ua,uk,h1,h2,h3⟩:=h.eff a ha';exact⟨ta,tk,ua,uk,hg2.cell h1 (by simp),hg2.cell h2 (by simp),(h3.keep hg2).upto hg2.size⟩,h.code.keep hg2,h.hand.keep hg2,h.par.keep hg2⟩
variable {g:Nat→Nat}
variable {ra:Option Addr}
theorem b3p{w0:World}{ra':Option Addr}{rk:Nat}(hg:w0.grownBy w none)(hT:G5 w w0.heap.size t bw b tg g n s ra rk)(hf:TFx t g n ra ra' w w'):w0.grownBy w' none:=by
 have hb:=hT.below hf hg.size;exact⟨hb.os.trans hg.os,hb.tape.trans hg.tape,hb.output.trans hg.output,Nat.le_trans hg.size hb.size,fun k hk hne=>(hb.block k hk).trans (hg.block k hk hne)⟩
theorem b6C(hP:PE L c m ht)(w0:World)(lim b:Nat)(p:Addr)(cap m1 m2 m3:Nat)(q:Nat→Qs)(h:Lk w0 lim b L p cap m1 m2 m3 q)(hl:lim≤w0.heap.size)(t bw tg:Nat)(g:Nat→Nat)(s0:Ps)(hs0:M7 L c m s0)(hmu:S9 L s0≤8000000000000)(all:List (Nat×Nat×Ty))(hall:∀x∈all,a0D L c m x):
 ∀(W:World) (pre:List (Nat×Nat×Ty)) (ra:Option Addr) (rk:Nat),(∀x∈pre,x∈all)→G5 W w0.heap.size t bw b tg g m.code.length (pre.foldl (N0 L) s0) ra rk→w0.grownBy W none→∀x∈all,
  Calls prog 266 #[.pointer (some ⟨t,0,none⟩), .int .i64 x.1, .int .i64 x.2.1, .agg #[.int .i64 x.2.2.kind, .string x.2.2.name]] W fun e w'=>e= .returned (.tuple #[])∧∃ra' rk',G5 w' w0.heap.size t bw b tg g m.code.length ((pre++ [x]).foldl (N0 L) s0) ra' rk'∧TFx t g m.code.length ra ra' W w'∧w0.grownBy w' none:=by
 intro W pre ra rk hpre hT hg x hx;obtain⟨k1,k2,-⟩:=hP.wld.psRaises_ok pre hs0 (fun y hy=>hall y (hpre y hy));have hv:=hall x hx;obtain⟨o,ho⟩:=b0X k1.snd hv;obtain⟨hh,hr,hj⟩:=hv.shape;have hin:=hP.room hr;have hsh:=k1.snd.shape _ _ hr;refine(b7N W lim b L p cap m1 m2 m3 q (h.keep hg hl) hP.wld w0.heap.size t bw tg g m.code.length _ ra rk hT hg.size hl x.1 x.2.1 x.2.2 o ho (fun y e=>by subst e;exact(k1.snd.snd _ _ _ ho).1) hv.ok hin.2.1 hP.nc (Nat.le_trans (b3a L _) (Nat.le_trans k2.mu hmu)) (by rw[hsh];have:=hP.lo;have:=hP.st;omega)).mono ?_;rintro e w' ⟨rfl,ra',rk',h1,h2⟩;refine⟨rfl,ra',rk',?_,h2,b3p hg hT h2⟩;rw[List.foldl_append];exact h1
theorem b0O(w:World)(lim:Nat)(L:List Cl)(c:ByteArray)(m:Me)(pa:Option Addr)(pk:Nat)(ca:Option Addr)(ck:Nat)(ha:Option Addr)(hk bw eg hg:Nat)(ht:Nat→Option Nat)(hP:Hid (PE L c m ht))(hE:Hid (TyE w lim L m pa pk ca ck ha hk bw eg hg ht))(t:Nat)(c0:w.cell? ⟨t,0,none⟩=some (.pointer (some ⟨bw,0,none⟩)))(a k:Nat)(ha':a<m.code.length)(hh:ht a=some k):
 Calls prog 269 #[.pointer (some ⟨t,0,none⟩), .int .i64 a] w fun e w'=>e= .returned (.int .i64 (E4 L m a k:Nat))∧w.grownBy w' none:=by
 have hr:=hP.out.room ((hP.out.hts a k ha').1 hh);obtain⟨ta,tk,ua,uk,e1,-,-⟩:=hE.out.eff a ha';have c5:=hE.out.meth 5 _ rfl;have c8:=hE.out.c8;have c9:=hE.out.c9;have ch:w.cell? ⟨hg,a,none⟩=some (.int .i64 k):=by have:=hE.out.hts a ha';unfold htI at this;rw[hh]at this;exact this
 have haI:(a:Int)<(m.code.length:Int):=by omega
 obtain⟨tn,htn⟩:∃tn,tn=G8 L m (A6 m a):=⟨_,rfl⟩
 have HTN:Hid (E4 L m a k=m.locals+k-tn):=by unfold Hid E4;rw[htn]
 have htk:tn≤k:=by rw[htn];exact hr.1
 have hkb:=Nat.le_trans hr.2.2 hP.out.st;have hlb:=hP.out.lo;have hnb:=hP.out.nc;have e1':w.cell? ⟨eg,a*3,none⟩=some (.slice ta tn tk):=by rw[htn];exact e1
 have HV:Hid ((((m.locals:Int)+k-tn):Int)=((m.locals+k-tn:Nat):Int)):=by unfold Hid;omega
 rw[HTN.out,←HV.out];clear hr e1 htn hE hP hh;go_enter func269,ntmps269;go_wp2_with fail
 go_quiet (fail)
 go_wp2_with fail
 go_ret;exact⟨rfl,K3 _ _ _⟩
theorem b1h{base:Nat}{rk:Nat}(h:G5 w base t bw b tg g n s ra rk){xs:List (Nat×Nat)}{p:Nat×Nat}(hx:s.ris=xs++ [p]):
 ∃q,ra=some ⟨q,0,none⟩∧q<w.heap.size∧xs.length+1≤rk∧rk≤maxLen∧w.cell? ⟨q,xs.length*2,none⟩=some (.int .i64 p.1)∧w.cell? ⟨q,xs.length*2+1,none⟩=some (.int .i64 p.2)∧w.cell? ⟨t,3,none⟩=some (.slice (some ⟨q,0,none⟩) (xs.length+1) rk):=by
 have hWL:s.ris.length=xs.length+1:=by rw[hx];simp
 have hwork:=h.ris;rw[hWL]at hwork;obtain⟨q,qc,hq,-,hqs⟩:=hwork.form (Nat.succ_pos _);injection hq with hq1 _ hq3
 subst hq1;refine⟨q,rfl,hqs,a3X hwork,?_,?_,?_,?_⟩
 ·exact c6t
 ·have:=hwork.cells (g:=q) rfl (xs.length*2) (.int .i64 p.1) (by
   rw[hx,List.flatMap_append,List.getElem?_append_right (by rw[a3s];exact Nat.le_refl _),a3s,Nat.sub_self];rfl)
  rcases Nat.eq_zero_or_pos (xs.length*2)with e2|e2<;>simpa[Addr.add_lit]using this
 ·have:=hwork.cells (g:=q) rfl (xs.length*2+1) (.int .i64 p.2) (by
   rw[hx,List.flatMap_append,List.getElem?_append_right (by rw[a3s];omega),a3s,Nat.add_sub_cancel_left];rfl)
  exact c7q
 ·have:=h.blk.cell 3 _ rfl;rw[hWL]at this;exact this
theorem b4y(w:World)(base t bw b tg:Nat)(g:Nat→Nat)(n:Nat)(s:Ps)(ra:Option Addr)(rk:Nat)(h:Hid (G5 w base t bw b tg g n s ra rk))(hb:base≤w.heap.size)(xs:List (Nat×Nat))(a j:Nat)(hx:s.ris=xs++ [(a,j)])(hl:xs.length≤8000000000000):
 Calls prog 270 #[.pointer (some ⟨t,0,none⟩)] w fun e w'=>e= .returned (.agg #[.int .i64 a, .int .i64 j])∧G5 w' base t bw b tg g n (x9 s) ra rk∧TFx t g n ra ra w w':=by
 obtain⟨q,hq,hqs,hqk,hkk,s0c,s1c,c3⟩:=b1h h.out hx;subst hq;have f3:=h.out.blk.frozen 3;have htl:=h.out.blk.lt;obtain⟨xl,hxl⟩:∃xl,xl=xs.length:=⟨_,rfl⟩
 have HXL:Hid (xl=xs.length∧s.ris=xs++ [(a,j)]):=⟨hxl,hx⟩
 rw[←hxl]at hqk s0c s1c c3 hl;clear hxl hx;go_enter func270,ntmps270;go_wp2_with fail
 have hP:=h.out.pop HXL.out.2 hb;rw[←HXL.out.1]at hP;obtain⟨hM,hF⟩:=hP;have hga:(w.setCell ⟨t,3,none⟩ (.slice (some ⟨q,0,none⟩) xl rk)).grownBy (((w.setCell ⟨t,3,none⟩ (.slice (some ⟨q,0,none⟩) xl rk)).alloc (.cells #[.int .i64 a, .int .i64 j] 366)).alloc (.cells #[.int .i64 a, .int .i64 j] 366)) none:=A1 (A2 _ _ _) (A2 _ _ _);have hb2:=(A3.new (w.setCell ⟨t,3,none⟩ (.slice (some ⟨q,0,none⟩) xl rk)) #[.int .i64 a, .int .i64 j] 366).keep (A2 _ (.cells #[.int .i64 a, .int .i64 j] 366) none) A5;rw[show(w.setCell ⟨t,3,none⟩ (.slice (some ⟨q,0,none⟩) xl rk)).heap.size=w.heap.size by simp[World.setCell]]at hb2;obtain⟨q0,q1⟩:=hb2.q2;exact bodyPost_ret (v:= .agg #[.int .i64 a, .int .i64 j]) (by simp[results,results270,go_sem,q0,q1]) rfl ⟨rfl,hM.keep hga,hF.trans (Fx.grown hga)⟩
end Kx
namespace Cf
def a0S(m:Me)(a j:Nat)(t:Ty)(k:Nat):List (Nat×Nat×Ty):=if j<m.locals then((m.handlers.take k).filter fun d=>a0C d a).map fun d=>(d.at_,j,t)else []
def a1r(i:In)(low j:Nat)(t:Ty)(x:Nat):List (Nat×Nat×Ty):=
 if i.op=3∧j=i.a.toNat then []
 else if i.op=2∧j=i.a.toNat then [(x,j,t),(x,low,t)]
 else if j<low then [(x,j,t)]
 else if i.op=3 then [(x,i.a.toNat,t)]
 else if i.op=5 then [(x,low,t),(x,low+1,t)]
 else if i.op=6 then [(x,2*low+1-j,t)]
 else if i.op=26∧j=low then [(x,low,X7 t)]
 else []
def l5(m:Me)(a low j:Nat)(t:Ty)(k:Nat):List (Nat×Nat×Ty):=a0S m a j t m.handlers.length++((G4 (A6 m a) a).take k).flatMap (a1r (A6 m a) low j t)
theorem b2b(l:List Cl)(m:Me)(a low j:Nat)(t:Ty):R7 l m a low j t=l5 m a low j t (G4 (A6 m a) a).length:=by
 unfold R7 l5 a0S;rw[List.take_length,List.take_length];rfl
theorem b5S(m:Me)(a j:Nat)(t:Ty):a0S m a j t 0=[]:=by unfold a0S;split<;>rfl
variable {m:Me}
variable {a j k low:Nat}
variable {t:Ty}
theorem b5T(k:Nat)(h:¬j<m.locals):a0S m a j t k=[]:=by unfold a0S;rw[if_neg h]
variable {l:List Cl}
theorem b8n(k:Nat):∀x∈a0S m a j t k,x∈R7 l m a low j t:=fun x hx=>by
 unfold a0S at hx;unfold R7;split at hx
 ·rename_i h;rw[if_pos h];refine List.mem_append_left _ ?_;obtain⟨d,hd,rfl⟩:=List.mem_map.1 hx;obtain⟨h1,h2⟩:=List.mem_filter.1 hd;exact List.mem_map.2 ⟨d,List.mem_filter.2 ⟨List.mem_of_mem_take h1,h2⟩,rfl⟩
 ·cases hx
theorem b5G(m:Me)(a low j:Nat)(t:Ty):l5 m a low j t 0=a0S m a j t m.handlers.length:=by unfold l5;simp
theorem b5H(hk:k<(G4 (A6 m a) a).length):l5 m a low j t (k+1)=l5 m a low j t k++a1r (A6 m a) low j t ((G4 (A6 m a) a).getD k 0):=by
 unfold l5;rw[List.take_succ_eq_append_getElem hk,List.flatMap_append,List.append_assoc];simp[hk]
theorem c3f(hk:k<(G4 (A6 m a) a).length):∀y∈a1r (A6 m a) low j t ((G4 (A6 m a) a).getD k 0),y∈R7 l m a low j t:=fun y hy=>by
 unfold R7;refine List.mem_append_right _ (List.mem_flatMap.2 ⟨(G4 (A6 m a) a).getD k 0,?_,hy⟩);rw[List.getD_eq_getElem?_getD,List.getElem?_eq_getElem hk];exact List.getElem_mem hk
theorem a8B(k:Nat):∀y∈l5 m a low j t k,y∈R7 l m a low j t:=fun y hy=>by
 unfold l5 at hy;rcases List.mem_append.1 hy with hy|hy
 ·exact b8n _ y hy
 ·obtain⟨x,hx,hy⟩:=List.mem_flatMap.1 hy;unfold R7;exact List.mem_append_right _ (List.mem_flatMap.2 ⟨x,List.mem_of_mem_take hx,hy⟩)
theorem b0w(h:∀x,a1r (A6 m a) low j t x=[])(k:Nat):l5 m a low j t k=a0S m a j t m.handlers.length:=by
 unfold l5;rw[List.flatMap_eq_nil_iff.2 (fun x _=>h x),List.append_nil]
end Cf
end
end Go.Proofs.YtdhophglnhcjbaaGreatDoor
