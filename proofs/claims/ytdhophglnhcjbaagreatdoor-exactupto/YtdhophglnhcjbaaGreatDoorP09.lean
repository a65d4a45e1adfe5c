/- P09: a part of the proof that the last text tells. -/
import Derived.Test.YtdhophglnhcjbaaGreatDoorP08
set_option linter.all false
set_option maxRecDepth 100000
set_option maxHeartbeats 40000000
open Go.Proofs.Tryz
namespace Go.Proofs.YtdhophglnhcjbaaGreatDoor
section
theorem a5o{P:Prop}(h:P:=by
 have:=hown.cells (g:=g5) (by rw[hg5e];rfl) jj (.int .i64 x) (by
  have h5:=a0T j7 1 (fun _=>rfl) gl jj hjl 0 (by omega);rw[Nat.mul_one,Nat.add_zero]at h5;rw[h5,hx];simp[j7,hjl])
 rcases Nat.eq_zero_or_pos jj with e2|e2
 ·subst e2;exact c7q
 ·simpa[Addr.add_lit]using this):P:=h
end
section
open Go.RowKit Go.Shelf Cf
namespace Kx
def F1(w0 V W:World)(Bs:List Nat)(t bw b tg:Nat)(g:Nat→Nat)(n:Nat)(L:List Cl)(s1:Ps)(pre:List (Nat×Nat×Ty)):Prop:=
 ∃ra rk,G5 W w0.heap.size t bw b tg g n (pre.foldl (N0 L) s1) ra rk∧w0.grownBy W none∧∀k∈Bs,Lc k t g n ra∧k<W.heap.size∧W.heap[k]? =V.heap[k]?
section
variable{w0 V W W':World}{Bs:List Nat}{t bw b tg:Nat}{g:Nat→Nat}{n:Nat}{L:List Cl}{s1:Ps}{pre:List (Nat×Nat×Ty)}
theorem F1.keep(h:F1 w0 V W Bs t bw b tg g n L s1 pre)(hg:W.grownBy W' none):F1 w0 V W' Bs t bw b tg g n L s1 pre:=by
 obtain⟨ra,rk,h1,h2,h3⟩:=h;exact⟨ra,rk,h1.keep hg,K7 h2 hg,fun k hk=>⟨(h3 k hk).1,Nat.lt_of_lt_of_le (h3 k hk).2.1 hg.size,(hg.block k (h3 k hk).2.1 (by simp)).trans (h3 k hk).2.2⟩⟩
theorem F1.cell(h:F1 w0 V W Bs t bw b tg g n L s1 pre){k o:Nat}{v:Value}(hk:k∈Bs)(hv:V.cell? ⟨k,o,none⟩=some v):W.cell? ⟨k,o,none⟩=some v:=by
 obtain⟨ra,rk,h1,h2,h3⟩:=h;have:W.cell? ⟨k,o,none⟩=V.cell? ⟨k,o,none⟩:=World.cell?_of_block (w:=V) (h3 k hk).2.2;rw[this];exact hv
theorem F1.gb(h:F1 w0 V W Bs t bw b tg g n L s1 pre):w0.grownBy W none:=h.choose_spec.choose_spec.2.1
theorem F1.t0(h:F1 w0 V W Bs t bw b tg g n L s1 pre):W.cell? ⟨t,0,none⟩=some (.pointer (some ⟨bw,0,none⟩)):=h.choose_spec.choose_spec.1.blk.cell 0 _ rfl
theorem F1.more(h:F1 w0 V W Bs t bw b tg g n L s1 pre)(hg:W.grownBy W' none){k:Nat}(h1:W.heap.size≤k)(h2:k<W'.heap.size):F1 w0 W' W' (k::Bs) t bw b tg g n L s1 pre:=by
 obtain⟨ra,rk,hM,hG,h3⟩:=h
 exact⟨ra,rk,hM.keep hg,K7 hG hg,fun j hj=>by
  rcases List.mem_cons.1 hj with rfl|hj
  ·exact⟨hM.lc h1,h2,rfl⟩
  ·exact⟨(h3 j hj).1,Nat.lt_of_lt_of_le (h3 j hj).2.1 hg.size,rfl⟩⟩
theorem F1.row(h:F1 w0 V W Bs t bw b tg g n L s1 pre){base:Nat}{e:TypeId}{sz m:Nat}{v:Value}{xs:List Value}(ho:V.ownsRow base e sz v m xs)(hB:∀k,v.ownBlock=some k→k∈Bs):W.ownsRow base e sz v m xs:=by
 obtain⟨ra,rk,hM,hG,h3⟩:=h;refine⟨ho.1,?_⟩;rcases ho.2 with h1|⟨q,cap,cur,hv,hb,hq,h2⟩
 ·exact .inl h1
 ·refine .inr ⟨q,cap,cur,hv,hb,?_,h2⟩;rw[(h3 q (hB q (by rw[hv];rfl))).2.2];exact hq
end
variable {L:List Cl}
variable {c:ByteArray}
variable {m:Me}
theorem F1.raise{ht:Nat→Option Nat}(hP:PE L c m ht)(w0:World)(lim b:Nat)(p:Addr)(cap m1 m2 m3:Nat)(q:Nat→Qs)(h:Lk w0 lim b L p cap m1 m2 m3 q)(hl:lim≤w0.heap.size)(t bw tg:Nat)(g:Nat→Nat)(s1:Ps)(hs1:M7 L c m s1)(hmu:S9 L s1≤8000000000000)(all:List (Nat×Nat×Ty))(hall:∀x∈all,a0D L c m x):
 ∀(V W:World) (Bs:List Nat) (pre:List (Nat×Nat×Ty)),F1 w0 V W Bs t bw b tg g m.code.length L s1 pre→(∀x∈pre,x∈all)→∀x∈all,
  Calls prog 266 #[.pointer (some ⟨t,0,none⟩), .int .i64 x.1, .int .i64 x.2.1, .agg #[.int .i64 x.2.2.kind, .string x.2.2.name]] W fun e w'=>e= .returned (.tuple #[])∧F1 w0 V w' Bs t bw b tg g m.code.length L s1 (pre++ [x]):=by
 rintro V W Bs pre ⟨ra,rk,hM,hG,h3⟩ hpre x hx;refine(b6C hP w0 lim b p cap m1 m2 m3 q h hl t bw tg g s1 hs1 hmu all hall W pre ra rk hpre hM hG x hx).mono ?_;rintro e w' ⟨rfl,ra',rk',h1,h2,h4⟩;refine⟨rfl,ra',rk',h1,h4,fun k hk=> ?_⟩;obtain⟨k1,k2,k3⟩:=h3 k hk;exact⟨k1.fx h2 k2,Nat.lt_of_lt_of_le k2 h2.size,(h2.block k k2 k1.a k1.a k1.a k1.b k1.c).trans k3⟩
structure FlI(w0 W:World)(t bw b tg:Nat)(g:Nat→Nat)(L:List Cl)(c:ByteArray)(m:Me)(s0 s:Ps)(ra:Option Addr)(rk K:Nat):Prop where
 mem:G5 W w0.heap.size t bw b tg g m.code.length s ra rk
 ok:M7 L c m s
 gone:a0k L m s none
 mu:S9 L s≤K
 up:a1A L s0.ts s.ts
 gb:w0.grownBy W none
theorem c1x(h:B9 L){s0 s s':Ps}(h0:M7 L c m s0)(h1:M7 L c m s)(h2:M7 L c m s')(hu:a1A L s0.ts s.ts)(hv:a1A L (x9 s).ts s'.ts):a1A L s0.ts s'.ts:=
 h.risesS_trans h0.snd h1.snd h2.snd hu hv
theorem F1.moreO{w0 V W W':World}{Bs:List Nat}{t bw b tg:Nat}{g:Nat→Nat}{n:Nat}{s1:Ps}{pre:List (Nat×Nat×Ty)}(h:F1 w0 V W Bs t bw b tg g n L s1 pre)(hg:W.grownBy W' none){e:TypeId}{sz m:Nat}{v:Value}{xs:List Value}(ho:W'.ownsRow W.heap.size e sz v m xs):F1 w0 W' W' (v.ownBlock.toList++Bs) t bw b tg g n L s1 pre:=by
 obtain⟨ra,rk,hM,hG,h3⟩:=h;refine⟨ra,rk,hM.keep hg,K7 hG hg,fun j hj=> ?_⟩;rcases List.mem_append.1 hj with hj|hj
 ·rw[Option.mem_toList]at hj;have:=Y4 ho hj;exact⟨hM.lc this.1,this.2,rfl⟩
 ·exact⟨(h3 j hj).1,Nat.lt_of_lt_of_le (h3 j hj).2.1 hg.size,rfl⟩
def fl3(a0:Act)(c:Bool×Bool×Bool)(v:Value)(B3 B4:Nat):Act:=
 bif c.2.2 then(bif c.2.1 then(bif c.1 then a0.put (some 47) v else a0).put (some 3) (.pointer (some ⟨B3,0,none⟩))else(bif c.1 then a0.put (some 47) v else a0)).put (some 4) (.pointer (some ⟨B4,0,none⟩))else(bif c.2.1 then(bif c.1 then a0.put (some 47) v else a0).put (some 3) (.pointer (some ⟨B3,0,none⟩))else(bif c.1 then a0.put (some 47) v else a0))
def flL(c:Bool×Bool×Bool):Array Bool:= #[true,true,true,true,true,true,true,true,true,true,true,true,true,true,true,true,true,true,true,true,true,true,true,true,true,true,true,c.1,c.2.1,c.2.2,false,false,false]
def FlQ(W2:World)(a0:Act)(lw:Nat)(c:Bool×Bool×Bool)(a:Act)(W:World):Prop:=∃B3 B4,a=fl3 a0 c (.int .i64 (lw:Nat)) B3 B4∧W2.grownBy W none∧(c.2.1=true→A3 W B3 #[.int .i64 0, .string ⟨#[]⟩] 98∧W2.heap.size≤B3)∧(c.2.2=true→A3 W B4 #[.int .i64 0, .int .i64 0, .string ⟨#[]⟩, .string ⟨#[]⟩] 120∧W2.heap.size≤B4)∧(c.2.1=true→c.2.2=true→B3≠B4)
def a4m(t B2 B3 B4 lw:Nat)(tt:Nat→Value):Act:={tmps:= #[.pointer (some ⟨t,0,none⟩),undef, .pointer (some ⟨B2,0,none⟩), .pointer (some ⟨B3,0,none⟩), .pointer (some ⟨B4,0,none⟩), .int .i64 (lw:Nat),undef,tt 7,undef,tt 9,tt 10,tt 11,tt 12,tt 13,tt 14,tt 15,tt 16,tt 17,tt 18,tt 19,tt 20,tt 21,tt 22,tt 23,tt 24,tt 25,tt 26,tt 27,tt 28,tt 29,tt 30,tt 31,tt 32,tt 33,tt 34,tt 35,tt 36,tt 37,tt 38,tt 39,tt 40,tt 41,tt 42,tt 43,tt 44,tt 45,tt 46,tt 47,tt 48,tt 49,tt 50,tt 51,tt 52,tt 53,tt 54,tt 55,tt 56,tt 57,tt 58,tt 59,tt 60,tt 61,tt 62,tt 63,tt 64,tt 65,tt 66,tt 67,tt 68,tt 69,tt 70,tt 71,tt 72,tt 73,tt 74,tt 75,tt 76,tt 77,tt 78,tt 79,tt 80,tt 81,tt 82,tt 83,tt 84,tt 85,tt 86,tt 87,tt 88,tt 89,tt 90,tt 91,tt 92,tt 93,tt 94,tt 95,tt 96,tt 97,tt 98,tt 99,tt 100,tt 101,tt 102,tt 103,tt 104,tt 105,tt 106,tt 107,tt 108,tt 109,tt 110,tt 111,tt 112,tt 113,tt 114,tt 115,tt 116,tt 117,tt 118,tt 119,tt 120,tt 121,tt 122,tt 123,tt 124,tt 125,tt 126,tt 127,tt 128,tt 129,tt 130,tt 131,tt 132,tt 133,tt 134,tt 135,tt 136,tt 137,tt 138,tt 139,tt 140,tt 141,tt 142,tt 143,tt 144,tt 145,tt 146,tt 147,tt 148,tt 149,tt 150,tt 151,tt 152,tt 153,tt 154,tt 155,tt 156,tt 157,tt 158,tt 159,tt 160,tt 161,tt 162,tt 163,tt 164,tt 165,tt 166,tt 167,tt 168,tt 169,tt 170,tt 171,tt 172,tt 173,tt 174,tt 175,tt 176,tt 177,tt 178,tt 179,tt 180,tt 181,tt 182,tt 183,tt 184,tt 185,tt 186,tt 187,tt 188,tt 189,tt 190,tt 191,tt 192,tt 193,tt 194,tt 195,tt 196,tt 197,tt 198,tt 199],defers:=[]}
theorem c0g(L:List Cl)(c:ByteArray)(m:Me)(ht:Nat→Option Nat)(hP:Hid (PE L c m ht))(w0:World)(lim b:Nat)(p:Addr)(cap m1 m2 m3:Nat)(q:Nat→Qs)(h:Hid (Lk w0 lim b L p cap m1 m2 m3 q))(hl:lim≤w0.heap.size)(pa ca ha:Option Addr)(pk ck hk bw eg hg:Nat)(hE:Hid (TyE w0 lim L m pa pk ca ck ha hk bw eg hg ht))(t tg:Nat)(g:Nat→Nat)(w:World)(s0:Ps)(ra:Option Addr)(rk:Nat)(hT:Hid (G5 w w0.heap.size t bw b tg g m.code.length s0 ra rk))(hs0:Hid (M7 L c m s0))(hg0:Hid (a0k L m s0 none))(hmu:S9 L s0≤8000000000000)(hG:Hid (w0.grownBy w none)):
 Calls prog 195 #[.pointer (some ⟨t,0,none⟩)] w fun e w'=>e= .returned (.tuple #[])∧∃s ra' rk',FlI w0 w' t bw b tg g L c m s0 s ra' rk' 8000000000000∧s.ris=[]:=by
 have HRD:=A0 hE.out.code;go_enter func195,ntmps195;go_step3
 go_wp2_with fail
 go_step3
 go_wp2_with fail
 have HI0:Hid (FlI w0 w t bw b tg g L c m s0 s0 ra rk 8000000000000):=⟨hT.out,hs0.out,hg0.out,hmu,b0v L _,hG.out⟩
 go_loopg [] 8000000000000 (fun K wr=>∃s ra2 rk2,FlI w0 wr t bw b tg g L c m s0 s ra2 rk2 K∧K≤8000000000000)
 case atStart=>exact⟨_,_,_,HI0.out,Nat.le_refl _⟩
 case round=>
  obtain⟨K1,hK1⟩:∃K1,K1=gk:=⟨_,rfl⟩
  subst hK1;obtain⟨s,ra2,rk2,hI,hK⟩:=hrel;have HI:=A0 hI;clear hI;have hbr:=HI.out.gb.size;by_cases hw:s.ris=[]
  ·have c3:wr.cell? ⟨t,3,none⟩=some (.slice ra2 0 rk2):=by have:=HI.out.mem.blk.cell 3 _ rfl;rw[hw]at this;exact this
   have HRZ:=A0 hw;clear hw;go_wp2_with fail
   rw[Exit.noGoto_normal];go_end0;exact⟨rfl,s,ra2,rk2,⟨HI.out.mem,HI.out.ok,HI.out.gone,Nat.le_trans HI.out.mu hK,HI.out.up,HI.out.gb⟩,HRZ.out⟩
  ·obtain⟨xs,pp,hxp⟩:∃xs pp,s.ris=xs++ [pp]:=⟨_,_,(List.dropLast_concat_getLast hw).symm⟩
   obtain⟨a,j⟩:=pp;have hlen:=b3a L s;have hxl:xs.length+1=s.ris.length:=by rw[hxp];simp
   have hmuK:=HI.out.mu;obtain⟨t0,htq⟩:=HI.out.ok.told (a,j) (by rw[hxp];simp);dsimp only at htq;obtain⟨hla,hlj⟩:=a2c htq;have han:a<m.code.length:=by rw[←HI.out.ok.snd.len];exact hla
   obtain⟨k,hrk⟩:∃k,Cf.F9 L m a k:=by
    refine Classical.byContradiction fun hno=> ?_
    have:=HI.out.ok.snd.unre a (fun k hk=>hno ⟨k,hk⟩);rw[this]at hlj;simp at hlj
   have hjk:j<m.locals+k:=by have:=HI.out.ok.snd.shape a k hrk;omega
   have hroom:=hP.out.room hrk;have HFL:=hP.out.wld.psFlow hP.out.tyw hP.out.cok hP.out.ok hP.out.hok HI.out.ok HI.out.gone hxp hrk htq;obtain⟨lw,hlw⟩:∃lw,lw=E4 L m a k:=⟨_,rfl⟩
   rw[←hlw]at HFL;have hlwb:lw≤510:=by rw[hlw];unfold E4;have:=hP.out.lo;have:=hP.out.st;omega
   have hall:=hP.out.wld.flow_comes hP.out.tyw hP.out.cok hP.out.ok hP.out.hok hrk hjk (HI.out.ok.snd.snd _ _ _ htq).1 (HI.out.ok.snd.snd _ _ _ htq).2;rw[←hlw]at hall;obtain⟨s1,hs1⟩:∃s1,s1=x9 s:=⟨_,rfl⟩
   have hok1:M7 L c m s1:=by rw[hs1];exact b1J HI.out.ok
   have hmu1:S9 L s1≤8000000000000:=by rw[hs1];have:=a8T L hw;omega
   rw[←hs1]at HFL;have HS1:=A0 hs1;have HFW:=A0 HFL;have HRS:=F1.raise hP.out w0 lim b p cap m1 m2 m3 q h.out hl t bw tg g s1 hok1 hmu1 (R7 L m a lw j t0) hall;have HRS:=A0 HRS;have htk:=b4y wr w0.heap.size t bw b tg g m.code.length s ra2 rk2 HI.out.mem hbr xs a j hxp (by omega);rw[←hs1]at htk;have HTK:=A0 htk
   have HFI:Hid (∀(V W:World) (Bs:List Nat) (pre:List (Nat×Nat×Ty)),F1 w0 V W Bs t bw b tg g m.code.length L s1 pre→pre=R7 L m a lw j t0→∃s ra rk,FlI w0 W t bw b tg g L c m s0 s ra rk (K1-1)∧K1-1≤8000000000000):=by
    rintro V W Bs pre ⟨ra,rk,hM,hGG,-⟩ rfl;exact⟨_,ra,rk,⟨hM,HFW.out.1,HFW.out.2.2.1,by have:=HFW.out.2.2.2;omega,c1x hP.out.wld hs0.out HI.out.ok HFW.out.1 HI.out.up (by rw[←HS1.out];exact HFW.out.2.1.up),hGG⟩,by omega⟩
   obtain⟨q5,hq5,-,-,-,-,-,c3⟩:=b1h HI.out.mem hxp;have hxlb:xs.length≤8000000000000:=by omega
   obtain⟨xl,hxl2⟩:∃xl,xl=xs.length:=⟨_,rfl⟩
   rw[←hxl2]at c3 hxlb;have HPU:Hid (0<K1∧S9 L s≤K1):=⟨by have:=a8T L hw;omega,hmuK⟩
   have HA:Hid (Cf.F9 L m a k∧ht a=some k∧a<m.code.length∧lw=E4 L m a k∧j<m.locals+k∧k≤m.stack):=⟨hrk,(hP.out.hts a k han).2 hrk,han,hlw,hjk,hroom.2.2⟩
   have hlo:=hP.out.lo;have hnh:=hP.out.nh;have HTQ:=A0 htq;clear hw hxp hxl hlen hmuK htq hla hlj han hrk hroom HFL hlw hall hs1 hok1 hmu1 htk hxl2 hjk;clear hq5;go_wp2_with fail
   go_step3
   go_upto_region 2 with(go_at_call 270;refine HTK.out.mono ?_;rintro e w1 ⟨rfl,hM1,hX1⟩)
   have hg01:=b3p HI.out.gb HI.out.mem hX1;have HB2:Hid (A3 (w1.alloc (.cells #[.int .i64 a, .int .i64 j] 366)) w1.heap.size #[.int .i64 a, .int .i64 j] 366):=A3.new w1 _ _;have HM2:Hid (G5 (w1.alloc (.cells #[.int .i64 a, .int .i64 j] 366)) w0.heap.size t bw b tg g m.code.length s1 ra2 rk2):=hM1.keep (A2 _ _ none);have HG2:Hid (w0.grownBy (w1.alloc (.cells #[.int .i64 a, .int .i64 j] 366)) none):=K7 hg01 (A2 _ _ none);have HL2:=A0 (hM1.lc (Nat.le_refl _));generalize w1.alloc (.cells #[.int .i64 a, .int .i64 j] 366)=W2 at HB2 HM2 HG2⊢;generalize w1.heap.size=B2 at HB2 HL2⊢;clear hM1 hX1 hg01 c3;have HE2:=A0 (hE.out.keep HG2.out);have c0:=HM2.out.blk.c0;have c2:=HM2.out.blk.c2;have b20:=HB2.out.c0;have b21:=HB2.out.c1;have c6:=HE2.out.meth 6 _ rfl;have htq1:tq s1.ts a j=some (some t0):=by rw[HS1.out];exact HTQ.out
   obtain⟨hla,hlj⟩:=a2c htq1;obtain⟨lr,hlr⟩:∃lr,lr=(s1.ts.getD a []).length:=⟨_,rfl⟩
   have hne:(s1.ts.getD a []).length≠0:=by omega
   have haI:(a:Int)<(m.code.length:Int):=by have:=HA.out.2.2.1;omega
   have hjI:(j:Int)<(lr:Int):=by omega
   have ca1:W2.cell? ⟨tg,a,none⟩=some (.slice (some ⟨g a,0,none⟩) lr lr):=V9 HM2.out.types a _ (by rw[List.getElem?_map,List.getElem?_range HA.out.2.2.1,Option.map_some];unfold a1a;rw[if_neg hne,←hlr]);have hrow:=HM2.out.rows a HA.out.2.2.1 hne;obtain⟨f1,f2⟩:=b2c _ _ _ (show(s1.ts.getD a [])[j]? =some (some t0)from htq1);have r0:W2.cell? ⟨g a,j*2,none⟩=some (.int .i64 t0.kind):=V9 hrow _ _ f1;have r1:W2.cell? ⟨g a,j*2+1,none⟩=some (.string t0.name):=V9 hrow _ _ f2;obtain⟨pc,hpc,-,hci⟩:=HE2.out.code a HA.out.2.2.1;obtain⟨i,hi⟩:∃i,i=A6 m a:=⟨_,rfl⟩
   have hcm:m.code[a]'HA.out.2.2.1=i:=by rw[hi];unfold A6;simp[HA.out.2.2.1]
   rw[hcm]at hci;have HIE:=A0 hi;have HPC:=A0 hpc;have c6:W2.cell? ⟨bw,6,none⟩=some (.slice (some pc) m.code.length ck):=by rw[←hpc];exact c6
   have y0:W2.cell? (pc.add (a*4))=some (.int .i64 i.op):=hci 0 _ rfl;have y1:W2.cell? ⟨(pc.add (a*4)).block,(pc.add (a*4)).off+1,none⟩=some (.int .i64 i.a):=by rw[C0 pc (a*4) 0];exact hci 1 _ rfl
   have y2:W2.cell? ⟨(pc.add (a*4)).block,(pc.add (a*4)).off+2,none⟩=some (.string i.cls):=by rw[C0 pc (a*4) 1];exact hci 2 _ rfl
   have y3:W2.cell? ⟨(pc.add (a*4)).block,(pc.add (a*4)).off+3,none⟩=some (.string i.mem):=by rw[C0 pc (a*4) 2];exact hci 3 _ rfl
   have HLW:Hid (∀W,W2.grownBy W none→Calls prog 269 #[.pointer (some ⟨t,0,none⟩), .int .i64 a] W fun e w'=>e= .returned (.int .i64 (lw:Nat))∧W.grownBy w' none):=fun W hW=>by
    rw[HA.out.2.2.2.1];exact b0O W lim L c m pa pk ca ck ha hk bw eg hg ht hP (HE2.out.keep hW) t (hW.cell c0 A5) a k HA.out.2.2.1 HA.out.2.1
   clear hla hlj hlr hne hrow f1 f2 hci hcm hi hpc htq1;refine a6e (fun a' W=>(∃B3 B4,(∃tt:Nat→Value,a'=a4m t B2 B3 B4 lw tt)∧W2.heap.size≤B3∧W2.heap.size≤B4∧B3≠B4∧A3 W B3 #[.int .i64 t0.kind, .string t0.name] 98∧A3 W B4 #[.int .i64 i.op, .int .i64 i.a, .string i.cls, .string i.mem] 120)∧W2.grownBy W none) ?_ ?_
   ·skip
    have HC:∀w,W2.grownBy w none→w.cell? ⟨t,0,none⟩=some (.pointer (some ⟨bw,0,none⟩))∧w.cell? ⟨t,2,none⟩=some (.slice (some ⟨tg,0,none⟩) m.code.length m.code.length)∧w.cell? ⟨B2,0,none⟩=some (.int .i64 a)∧w.cell? ⟨B2,1,none⟩=some (.int .i64 j)∧w.cell? ⟨bw,6,none⟩=some (.slice (some pc) m.code.length ck)∧w.cell? ⟨tg,a,none⟩=some (.slice (some ⟨g a,0,none⟩) lr lr)∧w.cell? ⟨g a,j*2,none⟩=some (.int .i64 t0.kind)∧w.cell? ⟨g a,j*2+1,none⟩=some (.string t0.name)∧w.cell? (pc.add (a*4))=some (.int .i64 i.op)∧w.cell? ⟨(pc.add (a*4)).block,(pc.add (a*4)).off+1,none⟩=some (.int .i64 i.a)∧w.cell? ⟨(pc.add (a*4)).block,(pc.add (a*4)).off+2,none⟩=some (.string i.cls)∧w.cell? ⟨(pc.add (a*4)).block,(pc.add (a*4)).off+3,none⟩=some (.string i.mem):=fun w hw=>by
     refine⟨hw.cell c0 ?_,hw.cell c2 ?_,hw.cell b20 ?_,hw.cell b21 ?_,hw.cell c6 ?_,hw.cell ca1 ?_,hw.cell r0 ?_,hw.cell r1 ?_,hw.cell y0 ?_,hw.cell y1 ?_,hw.cell y2 ?_,hw.cell y3 ?_⟩<;>exact Option.some_ne_none _
    refine wp_region_held_drew (S:=(fun w'=>W2.grownBy w' none)) (by kernel_rfl) (B6 W2 none) (fun hHeld=> ?_);refine A4 0 ?_;refine A4 1 ?_;refine A4 2 ?_;refine A4 3 ?_;refine A4 4 ?_;refine A4 5 ?_;refine A4 6 ?_;refine A4 7 ?_;refine A4 8 ?_;refine A4 9 ?_;refine A4 10 ?_;refine A4 11 (v:= .agg #[.int .i64 t0.kind, .string t0.name]) ?_;refine A4 12 ?_;refine A4 13 ?_;refine A4 14 ?_;refine A4 15 ?_;refine A4 16 ?_;refine A4 17 ?_;refine A4 18 ?_;refine A4 19 ?_;refine A4 20 ?_;refine A4 21 ?_;refine A4 22 ?_;refine A4 23 (v:= .agg #[.int .i64 i.op, .int .i64 i.a, .string i.cls, .string i.mem]) ?_;refine A4 24 ?_;refine A4 25 ?_;refine A4 26 ?_;clear HC;refine b0q flL (fun c=>3+(!c.1).toNat+(!c.2.1).toNat+(!c.2.2).toNat) (FlQ W2 _ lw) (fun c=>c.1&&c.2.1&&c.2.2) (fun c i=>(i=27∧c.1=false)∨(i=28∧c.2.1=false)∨(i=29∧c.2.2=false)) ?hr ?hd ?hs (false,false,false) _ _ ⟨0,0,rfl,hHeld,nofun,nofun,nofun⟩ _ _ rfl rfl
    case hr=>rintro⟨a,b,c⟩;revert a b c;decide+kernel
    case hs=>
     rintro⟨d7,d8,d9⟩ a' W ⟨B3,B4,rfl,hS,h3,h4,hn⟩-i hi;dsimp only at hi h3 h4 hn;rcases hi with⟨rfl,rfl⟩|⟨rfl,rfl⟩|⟨rfl,rfl⟩
     ·refine⟨_,rfl,fun K' hK=>(if_pos (by rfl)).mpr ?_⟩;have hK8:Hid (∀a' W7,a'=fl3 _ (true,d8,d9) (.int .i64 (lw:Nat)) B3 B4→W.grownBy W7 none→K' a' W7):=fun a' W7 e hg7=>hK.out _ a' W7 (K7 hS hg7) ⟨B3,B4,e,K7 hS hg7,fun e=>⟨(h3 e).1.keep hg7 A5,(h3 e).2⟩,fun e=>⟨(h4 e).1.keep hg7 A5,(h4 e).2⟩,hn⟩ (by cases d8<;>cases d9<;>rfl) (by rfl)
      cases d8<;>cases d9
      all_goals
       dsimp only[fl3,cond];simp only[Act.put,lz];go_simp
       go_wp2_with (go_at_call 269;refine(HLW.out _ hS).mono ?_;rintro e W7 ⟨rfl,hg7⟩)
       exact hK8.out _ _ (by kernel_rfl) hg7
     ·refine⟨_,rfl,fun K' hK=>(if_pos (by rfl)).mpr ?_⟩;have hgn:=A2 W (.cells #[.int .i64 0, .string ⟨#[]⟩] 98) none;refine hK.out (d7,true,d9) _ _ (K7 hS hgn) ⟨W.heap.size,B4,by cases d7<;>cases d9<;>kernel_rfl,K7 hS hgn,fun _=>⟨A3.new W _ _,hS.size⟩,fun e=>⟨(h4 e).1.keep hgn A5,(h4 e).2⟩,fun _ e=>by have:=(h4 e).1.lt;omega⟩ (by cases d7<;>cases d9<;>rfl) (by rfl)
     ·refine⟨_,rfl,fun K' hK=>(if_pos (by rfl)).mpr ?_⟩;have hgn:=A2 W (.cells #[.int .i64 0, .int .i64 0, .string ⟨#[]⟩, .string ⟨#[]⟩] 120) none;refine hK.out (d7,d8,true) _ _ (K7 hS hgn) ⟨B3,W.heap.size,by cases d7<;>cases d8<;>kernel_rfl,K7 hS hgn,fun e=>⟨(h3 e).1.keep hgn A5,(h3 e).2⟩,fun _=>⟨A3.new W _ _,hS.size⟩,fun e _=>by have:=(h3 e).1.lt;omega⟩ (by cases d7<;>cases d8<;>rfl) (by rfl)
    case hd=>
     rintro⟨d7,d8,d9⟩ a' W ⟨B3,B4,rfl,hS,h3,h4,hn⟩ hdn;simp only[Bool.and_eq_true]at hdn;obtain⟨⟨rfl,rfl⟩,rfl⟩:=hdn;obtain⟨hb3,hl3⟩:=h3 rfl;obtain⟨hb4,hl4⟩:=h4 rfl;have hne34:=hn rfl rfl;clear h3 h4 hn;dsimp only[fl3,flL,cond];show wpAnyH _ _ _ _ _ 3 _ _ _;simp only[Act.put,lz];obtain⟨z30,z31⟩:=hb3.q2;obtain⟨f30,f31⟩:=hb3.z2;refine T6 30 fun K hK=> ?_;go_simp
     have hgs3:W.grownBy ((W.setCell ⟨B3,0,none⟩ (.int .i64 t0.kind)).setCell ⟨B3,1,none⟩ (.string t0.name)) (some B3):=A1 (A9 _ ⟨B3,0,none⟩ _) (A9 _ ⟨B3,1,none⟩ _);have hb3':=(hb3.set 0 (.int .i64 t0.kind)).set 1 (.string t0.name);have hb4':=hb4.keep hgs3 (fun e=>hne34 (Option.some.inj e).symm);have hS':=D5 hS hgs3 (fun k e=>by cases e;exact .inl hl3);generalize ((W.setCell ⟨B3,0,none⟩ (.int .i64 t0.kind)).setCell ⟨B3,1,none⟩ (.string t0.name))=W8 at hgs3 hb3' hb4' hS'⊢;refine hK.out _ _ ?_ (fun hHeld=> ?_)
     case refine_1=>exact hS'
     try clear hK K
     try simp only[Act.put,lz]
     obtain⟨z40,z41,z42,z43⟩:=hb4'.q4;obtain⟨f40,f41,f42,f43⟩:=hb4'.z4;refine T6 31 fun K hK=> ?_;go_simp
     have hgs4:=(A1 (A1 (A9 W8 ⟨B4,0,none⟩ (.int .i64 i.op)) (A9 _ ⟨B4,1,none⟩ (.int .i64 i.a))) (A1 (A9 _ ⟨B4,2,none⟩ (.string i.cls)) (A9 _ ⟨B4,3,none⟩ (.string i.mem))))
     have hb41:=hb4'.set 0 (.int .i64 i.op);have hb42:=hb41.set 1 (.int .i64 i.a);have hb43:=hb42.set 2 (.string i.cls);have hb44:=hb43.set 3 (.string i.mem);clear hb41 hb42 hb43;have hb33:=hb3'.keep hgs4 (fun e=>hne34 (Option.some.inj e));have hS4:=D5 (row:=none) hS' hgs4 (fun k e=>by cases e;exact .inl hl4);generalize (((W8.setCell ⟨B4,0,none⟩ (.int .i64 i.op)).setCell ⟨B4,1,none⟩ (.int .i64 i.a)).setCell ⟨B4,2,none⟩ (.string i.cls)).setCell ⟨B4,3,none⟩ (.string i.mem)=W9 at hgs4 hb44 hb33 hS4⊢;refine hK.out _ _ ?_ (fun hHeld=> ?_)
     case refine_1=>exact hS4
     try clear hK K
     try simp only[Act.put,lz]
     refine A4 32 ?_;refine wpAnyH_done (by kernel_rfl) ?_ _;exact⟨⟨B3,B4,a1t (Fr:=a4m t B2 B3 B4 lw) rfl,hl3,hl4,hne34,hb33,hb44⟩,hS4⟩
   rintro a' W4 ⟨⟨B3,B4,⟨tt,rfl⟩,hl3,hl4,hne34,hb3,hb4⟩,hg4⟩;dsimp only[a4m]
   have HR0:Hid (F1 w0 W4 W4 [B2,B3,B4] t bw b tg g m.code.length L s1 []):=by
    refine⟨ra2,rk2,HM2.out.keep hg4,K7 HG2.out hg4,fun k hk=> ?_⟩;rcases List.mem_cons.1 hk with rfl|hk
    ·exact⟨HL2.out,Nat.lt_of_lt_of_le HB2.out.lt hg4.size,rfl⟩
    rcases List.mem_cons.1 hk with rfl|hk
    ·exact⟨HM2.out.lc hl3,hb3.lt,rfl⟩
    ·rw[List.mem_singleton.1 hk];exact⟨HM2.out.lc hl4,hb4.lt,rfl⟩
   have HV:Hid (W4.cell? ⟨B2,0,none⟩=some (.int .i64 a)∧W4.cell? ⟨B2,1,none⟩=some (.int .i64 j)∧W4.cell? ⟨B3,0,none⟩=some (.int .i64 t0.kind)∧W4.cell? ⟨B3,1,none⟩=some (.string t0.name)∧W4.cell? ⟨B4,0,none⟩=some (.int .i64 i.op)∧W4.cell? ⟨B4,1,none⟩=some (.int .i64 i.a)∧W4.cell? ⟨B4,2,none⟩=some (.string i.cls)∧W4.cell? ⟨B4,3,none⟩=some (.string i.mem)):=⟨hg4.cell b20 A5,hg4.cell b21 A5,hb3.cell 0 _ rfl,hb3.cell 1 _ rfl,hb4.cell 0 _ rfl,hb4.cell 1 _ rfl,hb4.cell 2 _ rfl,hb4.cell 3 _ rfl⟩
   have HG4:=A0 (K7 HG2.out hg4);clear hg4 hb3 hb4 hl3 hl4 hne34 c0 c2 b20 b21 c6 ca1 r0 r1 y0 y1 y2 y3 haI hjI;have c7:=(hE.out.keep HG4.out).meth 7 _ rfl;have c0:=HR0.out.t0;go_wp2_with fail
   go_step3
   go_wp2_with fail
   refine b2p (J:=fun a' W=>(∃tt:Nat→Value,a'=a4m t B2 B3 B4 lw tt)∧F1 w0 W4 W [B2,B3,B4] t bw b tg g m.code.length L s1 (a0S m a j t0 m.handlers.length)) ?_ ?_
   ·rintro a' W5 ⟨⟨tt,rfl⟩,hR⟩;dsimp only[a4m];have HR5:=A0 hR;have z20:=hR.cell (by simp) HV.out.1;have z40:=hR.cell (by simp) HV.out.2.2.2.2.1;have z41:=hR.cell (by simp) HV.out.2.2.2.2.2.1;have z42:=hR.cell (by simp) HV.out.2.2.2.2.2.2.1;have z43:=hR.cell (by simp) HV.out.2.2.2.2.2.2.2;clear hR c7 c0;have hio:P0 i:=by rw[HIE.out];exact hP.out.ok _ (a4K HA.out.2.2.1)
    have HTW:Hid (i.op=2∨i.op=20):=by rw[HIE.out];exact(hP.out.fine _ (a4K HA.out.2.2.1)).ok.two
    have hioa:12≤i.op→i.op≤15→0≤i.a:=fun h1 _=>hio.2 (by omega)
    obtain⟨gl,hgl⟩:∃gl,gl=G4 i a:=⟨_,rfl⟩
    have HNXT:Hid (∀W,Calls prog 268 #[.agg #[.int .i64 i.op, .int .i64 i.a, .string i.cls, .string i.mem], .int .i64 a] W fun e w'=>W.grownBy w' none∧∃v,e= .returned v∧w'.ownsRow W.heap.size 3 1 v gl.length (gl.flatMap j7)):=fun W=>by
     rw[hgl];exact a8X W i a (by have:=HA.out.2.2.1;have:=hP.out.nc;omega) hioa
    have HGL:Hid (gl=G4 (A6 m a) a∧P0 i):=⟨by rw[←HIE.out];exact hgl,hio⟩
    obtain⟨nl,hnl⟩:∃nl,nl=gl.length:=⟨_,rfl⟩
    have HNL:=A0 hnl;have hnl2:nl≤2:=by rw[hnl,hgl];exact a9b _ _
    rw[←hnl]at HNXT;clear hio hioa hgl hnl;go_wp2_with (go_at_call 268;go_loud (refine(HNXT.out _).mono ?_;rintro e w6 ⟨hg6,v6,rfl,ho6⟩;obtain⟨a6,k6,rfl⟩:=F0 ho6))
    obtain⟨Bs,hBs⟩:∃Bs,Bs=(Value.slice a6 nl k6).ownBlock.toList++ [B2,B3,B4]:=⟨_,rfl⟩
    have HR6:Hid (F1 w0 w6 w6 Bs t bw b tg g m.code.length L s1 (l5 m a lw j t0 0)):=by rw[b5G,hBs];exact HR5.out.moreO hg6 ho6
    have HO6:Hid (w6.ownsRow W5.heap.size 3 1 (.slice a6 nl k6) nl (gl.flatMap j7)∧∀k,(Value.slice a6 nl k6).ownBlock=some k→k∈Bs):=⟨ho6,fun k hk=>by rw[hBs,hk];simp⟩
    have HBB:Hid (B2∈Bs∧B3∈Bs∧B4∈Bs):=by rw[hBs];exact⟨by simp,by simp,by simp⟩
    have HV6:Hid (w6.cell? ⟨B2,1,none⟩=some (.int .i64 j)∧w6.cell? ⟨B3,0,none⟩=some (.int .i64 t0.kind)∧w6.cell? ⟨B3,1,none⟩=some (.string t0.name)∧w6.cell? ⟨B4,0,none⟩=some (.int .i64 i.op)∧w6.cell? ⟨B4,1,none⟩=some (.int .i64 i.a)):=
     ⟨hg6.cell (HR5.out.cell (by simp) HV.out.2.1) (by simp),hg6.cell (HR5.out.cell (by simp) HV.out.2.2.1) (by simp),hg6.cell (HR5.out.cell (by simp) HV.out.2.2.2.1) (by simp),hg6.cell z40 (by simp),hg6.cell z41 (by simp)⟩
    clear hBs z20 z40 z41 z42 z43 hg6 ho6;go_loopw [92] (fun c W=>∃jj:Nat,c= .int .i64 jj∧jj≤nl∧F1 w0 w6 W Bs t bw b tg g m.code.length L s1 (l5 m a lw j t0 jj)) (fun c _=>nl-(intOf c).toNat)
    case atStart=>exact⟨0,rfl,Nat.zero_le _,HR6.out⟩
    case round=>
     obtain⟨jj,rfl,hjj,hR⟩:=hrel;have HR:=A0 hR;clear hR;by_cases hlt:jj<nl
     ·have hjl:jj<gl.length:=by rw[←HNL.out];exact hlt
      have hown:=HR.out.row HO6.out.1 HO6.out.2;obtain⟨g5,c5,hg5e,-,hg5l⟩:=hown.form (by omega);injection hg5e with hg5e hg5n hg5k
      clear hg5n;subst hg5k;obtain⟨x,hx⟩:∃x,x=gl.getD jj 0:=⟨_,rfl⟩
      have hgj:wr.cell? ⟨g5,jj,none⟩=some (.int .i64 x):=by
       exact a5o
      have HX:Hid (x=(G4 (A6 m a) a).getD jj 0):=by unfold Hid;rw[hx,HGL.out.1]
      have HJN:Hid (jj<(G4 (A6 m a) a).length):=by unfold Hid;rw[←HGL.out.1];exact hjl
      have HSUC:Hid (l5 m a lw j t0 (jj+1)=l5 m a lw j t0 jj++a1r i lw j t0 x):=by
       have:=b5H (low:=lw) (j:=j) (t:=t0) HJN.out;rw[←HX.out,←HIE.out]at this;exact this
      have HINN:Hid (∀y∈a1r i lw j t0 x,y∈R7 L m a lw j t0):=fun y hy=>c3f (l:=L) HJN.out y (by rw[←HX.out,←HIE.out];exact hy)
      have z21:=HR.out.cell HBB.out.1 HV6.out.1;have z30:=HR.out.cell HBB.out.2.1 HV6.out.2.1;have z31:=HR.out.cell HBB.out.2.1 HV6.out.2.2.1;have z40:=HR.out.cell HBB.out.2.2 HV6.out.2.2.2.1;have z41:=HR.out.cell HBB.out.2.2 HV6.out.2.2.2.2;have hjI:(jj:Int)<(nl:Int):=by omega
      clear hown hjl hx hg5l;subst hg5e;obtain⟨op,av,cs,ms⟩:=i;dsimp only at z40 z41
      have e2:op=2:=by
       rcases HTW.out with h|h
       ·exact h
       ·exfalso;have h9:=HJN.out;rw[←HIE.out]at h9;have h:op=20:=h;subst h;exact Nat.not_lt_zero _ h9
      have n3I:¬(op:Int)=3:=by omega
      have n3b:((op:Int)==3)=false:=by rw[beq_eq_false_iff_ne];exact n3I
      have y2b:((op:Int)==2)=true:=by rw[beq_iff_eq];omega
      have HEO:=A0 e2;obtain⟨ia,hia⟩:∃ia:Nat,av=(ia:Int):=⟨av.toNat,by have:=HGL.out.2.2 (by simp only;omega);simp only at this;omega⟩
      subst hia;by_cases ej:j=ia
      ·subst ej;have HN1:Hid (a1r ⟨op,(j:Int),cs,ms⟩ lw j t0 x=[(x,j,t0),(x,lw,t0)]):=by unfold Hid;simp[a1r,e2]
       clear e2;go_wp2_with (first|(go_at_call 266;go_loud (refine(HRS.out w6 w7 Bs _ (hR7) (fun y hy=>by rcases List.mem_append.1 hy with h1|h1;exact a8B jj y h1;rw[List.mem_singleton.1 h1];exact HINN.out _ (by rw[HN1.out];simp)) (x,lw,t0) (HINN.out _ (by rw[HN1.out];simp))).mono ?_;rintro e w8 ⟨rfl,hR8⟩;have q30:=hR8.cell HBB.out.2.1 HV6.out.2.1;have q31:=hR8.cell HBB.out.2.1 HV6.out.2.2.1))|(go_at_call 266;go_loud (refine(HRS.out w6 wr Bs _ (HR.out) (a8B jj) (x,j,t0) (HINN.out _ (by rw[HN1.out];simp))).mono ?_;rintro e w7 ⟨rfl,hR7⟩;have q30:=hR7.cell HBB.out.2.1 HV6.out.2.1;have q31:=hR7.cell HBB.out.2.1 HV6.out.2.2.1)))
       go_roundw
       case rel=>exact⟨jj+1,by first|rfl|go_num,by omega,by rw[HSUC.out,HN1.out];(have h9:=hR8;rw[List.append_assoc]at h9;exact h9)⟩
       case measure=>exact a1g
      ·have ejI:¬(j:Int)=(ia:Int):=by omega
       have ejb:((j:Int)==(ia:Int))=false:=by rw[beq_eq_false_iff_ne];exact ejI
       by_cases hlw:j<lw
       ·have hlwI:(j:Int)<(lw:Int):=by omega
        have HN1:Hid (a1r ⟨op,(ia:Int),cs,ms⟩ lw j t0 x=[(x,j,t0)]):=by unfold Hid;simp[a1r,e2,ej,hlw]
        clear e2;go_wp2_with (go_at_call 266;go_loud (refine(HRS.out w6 wr Bs _ (HR.out) (a8B jj) (x,j,t0) (HINN.out _ (by rw[HN1.out];simp))).mono ?_;rintro e w7 ⟨rfl,hR7⟩;have q30:=hR7.cell HBB.out.2.1 HV6.out.2.1;have q31:=hR7.cell HBB.out.2.1 HV6.out.2.2.1))
        go_roundw
        case rel=>exact⟨jj+1,by first|rfl|go_num,by omega,by rw[HSUC.out,HN1.out];exact hR7⟩
        case measure=>exact a1g
       ·have hlwI:¬(j:Int)<(lw:Int):=by omega
        have HN2:Hid (∀x,a1r ⟨op,(ia:Int),cs,ms⟩ lw j t0 x=[]):=by unfold Hid;intro x;simp[a1r,e2,ej,hlw]
        clear e2;have HPRE:Hid (l5 m a lw j t0 jj=R7 L m a lw j t0):=by unfold Hid;rw[b2b,b0w (by rw[←HIE.out];exact HN2.out),b0w (by rw[←HIE.out];exact HN2.out)]
        obtain⟨s9,ra9,rk9,hFI,hKB⟩:=HFI.out w6 wr Bs _ HR.out HPRE.out;have HF9:=A0 hFI;clear hFI HPRE;go_wp2_with fail
        go_roundg (K1-1)
        case measure=>have:=HPU.out.1;omega
        case rel=>exact⟨s9,ra9,rk9,HF9.out,by omega⟩
     ·have hjn:jj=nl:=by omega
      have HPRE:Hid (l5 m a lw j t0 jj=R7 L m a lw j t0):=by unfold Hid;rw[b2b,hjn,HNL.out,HGL.out.1]
      obtain⟨s9,ra9,rk9,hFI,hKB⟩:=HFI.out w6 wr Bs _ HR.out HPRE.out;have HF9:=A0 hFI;clear hFI HPRE;subst hjn;go_wp2_with fail
      rw[Exit.noGoto_normal];go_wp2_with fail
      go_roundg (K1-1)
      case measure=>have:=HPU.out.1;omega
      case rel=>exact⟨s9,ra9,rk9,HF9.out,by omega⟩
   ·by_cases hjl:j<m.locals
    ·go_loopw [57] (fun c W=>∃jj:Nat,c= .int .i64 jj∧jj≤m.handlers.length∧F1 w0 W4 W [B2,B3,B4] t bw b tg g m.code.length L s1 (a0S m a j t0 jj)) (fun c _=>m.handlers.length-(intOf c).toNat)
     case atStart=>exact⟨0,rfl,Nat.zero_le _,by rw[b5S];exact HR0.out⟩
     case round=>
      obtain⟨jj,rfl,hjj,hR⟩:=hrel;have HR:=A0 hR;clear hR;by_cases hlt:jj<m.handlers.length
      ·exact absurd hlt (by have:=hP.out.nh;omega)
      ·have hjn:jj=m.handlers.length:=by omega
       subst hjn;go_wp2_with fail
       exact⟨a1t (Fr:=a4m t B2 B3 B4 lw) rfl,HR.out⟩
    ·go_loopw [57] (fun c W=>∃jj:Nat,c= .int .i64 jj∧jj≤m.handlers.length∧F1 w0 W4 W [B2,B3,B4] t bw b tg g m.code.length L s1 []) (fun c _=>m.handlers.length-(intOf c).toNat)
     case atStart=>exact⟨0,rfl,Nat.zero_le _,HR0.out⟩
     case round=>
      obtain⟨jj,rfl,hjj,hR⟩:=hrel;have HR:Hid (F1 w0 W4 wr [B2,B3,B4] t bw b tg g m.code.length L s1 (a0S m a j t0 m.handlers.length)):=by rw[b5T _ hjl];exact hR
      clear hR;by_cases hlt:jj<m.handlers.length
      ·exact absurd hlt (by have:=hP.out.nh;omega)
      ·have hjn:jj=m.handlers.length:=by omega
       clear hjl;subst hjn;go_wp2_with fail
       exact⟨a1t (Fr:=a4m t B2 B3 B4 lw) rfl,HR.out⟩
end Kx
end
end Go.Proofs.YtdhophglnhcjbaaGreatDoor
