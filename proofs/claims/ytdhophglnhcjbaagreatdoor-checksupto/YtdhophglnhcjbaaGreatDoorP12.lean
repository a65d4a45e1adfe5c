/- P12: a part of the proof that the last text tells. -/
import Derived.Test.YtdhophglnhcjbaaGreatDoorP11
set_option linter.all false
set_option maxRecDepth 100000
set_option maxHeartbeats 40000000
open Go.Proofs.Tryz
open Go renaming World->la,Value->lb,Calls->ld,block_lt_of_cell->le
open Nat renaming lt_of_lt_of_le->lf,zero_le->lk
open Go.Act renaming put->lg
open List renaming mem_cons->lh,mem_append->li,mem_singleton->lj
open Option renaming some->ll
open Option renaming none→N,some→O
open Go.IntKind renaming i64→I
open Go.Value renaming int→J,string→Z,pointer→U,bool→G,agg→Q
open Go.Ending renaming returned→Y
open Go.RowKit renaming Hid→X
open Go.Obj renaming cells→H
open Go.Addr renaming mk→A
namespace Go.Proofs.YtdhophglnhcjbaaGreatDoor
section
theorem a3h{P:Prop}(h:P:=by
 exact⟨jj+1,by first|rfl|go_num,by omega,by rw[HSUC.o,HN1.o];exact hR7⟩):P:=h
theorem a4q{P:Prop}(h:P:=by
 have:=hown.cells (g:=g5) (by rw[hg5e];rfl) jj (.int .i64 x) (by
  have h5:=a1U a0p 1 (λ_=>rfl) gl jj hjl 0 Oo;rw[Nat.mul_one,Nat.add_zero]at h5;rw[h5,hx];simp[a0p,hjl])
 rcases Nat.eq_zero_or_pos jj with e2|e2
 ·subst e2;exact c8i
 ·simpa[Addr.add_lit]using this):P:=h
theorem c6u{P:Prop}(h:P:=by
 exact⟨jj+1,by first|rfl|go_num,by omega,by rw[HSUC.o,HN1.o];(have h9:=hR8;rw[List.append_assoc]at h9;exact h9)⟩):P:=h
theorem c7f{P:Prop}(h:P:=by
 have h1:=HA.o.2.2.2.1;have h2:=HA.o.2.2.2.2.1;have h3:=(hP.o.room HA.o.1).1;unfold F0 at h1;omega):P:=h
theorem c7y{P:Prop}(h:P:=by
 exact⟨jj+1,by first|rfl|go_num,by omega,by rw[HNX.o];exact HR.o.keep HGW3⟩):P:=h
end
section
open Go.RowKit Go.Shelf Cf
namespace Kx
def F8(w0 V W:la)(Bs:List Nat)(t bw b tg:Nat)(g:Nat->Nat)(n:Nat)(L:List Cl)(s1:Ps)(A9:List (Nat×Nat×Ty)):Prop:=
 ∃ra rk,K2 W w0.heap.size t bw b tg g n (A9.foldl (O6 L) s1) ra rk/\w0.grownBy W N/\∀k∈Bs,Lc k t g n ra/\k<W.heap.size/\W.heap[k]? =V.heap[k]?
section
variable{w0 V W W':World}{Bs:List Nat}{t bw b tg:Nat}{g:Nat->Nat}{n:Nat}{L:List Cl}{s1:Ps}{A9:List (Nat×Nat×Ty)}
theorem F8.keep(h:F8 w0 V W Bs t bw b tg g n L s1 A9)(e:W.grownBy W' N):F8 w0 V W' Bs t bw b tg g n L s1 A9:=by
 obtain⟨q,rk,i,j,d⟩:=h;exact⟨q,rk,i.keep e,L8 j e,λk hk=>⟨(d k hk).1,lf (d k hk).2.1 e.size,(e.block k (d k hk).2.1 Os).trans (d k hk).2.2⟩⟩
theorem F8.cell(h:F8 w0 V W Bs t bw b tg g n L s1 A9){k o:Nat}{v:lb}(hk:k∈Bs)(hv:V.cell? (A k o N)=O v):W.cell? (A k o N)=O v:=by
 obtain⟨j,rk,e,i,d⟩:=h;have:W.cell? (A k o N)=V.cell? (A k o N):=World.cell?_of_block (w:=V) (d k hk).2.2;rw[this];exact hv
theorem F8.gb(h:F8 w0 V W Bs t bw b tg g n L s1 A9):w0.grownBy W N:=h.choose_spec.choose_spec.2.1
theorem F8.t0(h:F8 w0 V W Bs t bw b tg g n L s1 A9):W.cell? (A t 0 N)=O (U (O (A bw 0 N))):=h.choose_spec.choose_spec.1.blk.cell 0 _ rfl
theorem F8.more(h:F8 w0 V W Bs t bw b tg g n L s1 A9)(e:W.grownBy W' N){k:Nat}(v:W.heap.size<=k)(w:k<W'.heap.size):F8 w0 W' W' (k::Bs) t bw b tg g n L s1 A9:=by
 obtain⟨B,rk,q,y,i⟩:=h
 exact⟨B,rk,q.keep e,L8 y e,λj d=>by
  rcases lh.1 d with rfl|d
  ·exact⟨q.lc v,w,rfl⟩
  ·exact⟨(i j d).1,lf (i j d).2.1 e.size,rfl⟩⟩
theorem F8.row(h:F8 w0 V W Bs t bw b tg g n L s1 A9){base:Nat}{e:TypeId}{sz m:Nat}{v:lb}{xs:List lb}(j:V.ownsRow base e sz v m xs)(D:∀k,v.ownBlock=O k->k∈Bs):W.ownsRow base e sz v m xs:=by
 obtain⟨P,rk,M,K,C⟩:=h;refine⟨j.1,?_⟩;rcases j.2 with y|⟨q,d,i,w,E,F,B⟩
 ·exact .inl y
 ·refine .inr ⟨q,d,i,w,E,?_,B⟩;rw[(C q (D q (by rw[w];rfl))).2.2];exact F
end
variable {L:List Cl}{c:ByteArray}{m:Me}
theorem F8.raise{ht:Nat->Option Nat}(hP:PE L c m ht)(w0:la)(lim b:Nat)(p:Addr)(cap E F K:Nat)(q:Nat->Qs)(h:Lk w0 lim b L p cap E F K q)(hl:lim<=w0.heap.size)(t bw tg:Nat)(g:Nat->Nat)(s1:Ps)(y:P5 L c m s1)(w:U9 L s1<=8000000000000)(all:List (Nat×Nat×Ty))(i:∀x∈all,a1j L c m x):
 ∀(V W:la) (Bs:List Nat) (A9:List (Nat×Nat×Ty)),F8 w0 V W Bs t bw b tg g m.c.length L s1 A9->(∀x∈A9,x∈all)->∀x∈all,
  ld prog 266 #[U (O (A t 0 N)), J I x.1, J I x.2.1, Q #[J I x.2.2.k, Z x.2.2.n]] W λe M=>e= Y (.tuple #[])/\F8 w0 V M Bs t bw b tg g m.c.length L s1 (A9++ [x]):=by
 rintro V W Bs A9 ⟨ra,rk,hM,hG,S⟩ j x hx;refine(b7i hP w0 lim b p cap E F K q h hl t bw tg g s1 y w all i W A9 ra rk j hM hG x hx).mono ?_;rintro e M ⟨rfl,C,D,P,v,T⟩;refine⟨rfl,C,D,P,T,λk hk=> ?_⟩;obtain⟨d,B,k3⟩:=S k hk;exact⟨d.fx v B,lf B v.size,(v.block k B d.a d.a d.a d.b d.c).trans k3⟩
structure FlI(w0 W:World)(t bw b tg:Nat)(g:Nat->Nat)(L:List Cl)(c:ByteArray)(m0:Me)(s0 s:Ps)(ra:Option Addr)(rk K:Nat):Prop where
 m:K2 W w0.heap.size t bw b tg g m0.c.length s ra rk
 ok:P5 L c m0 s
 gone:a0J L m0 s none
 mu:U9 L s<=K
 up:a2p L s0.ts s.ts
 gb:w0.grownBy W none
theorem c2l(h:C1 L){e s d:Ps}(i:P5 L c m e)(j:P5 L c m s)(q:P5 L c m d)(v:a2p L e.ts s.ts)(hv:a2p L (a0A s).ts d.ts):a2p L e.ts d.ts:=
 h.risesS_trans i.snd j.snd q.snd v hv
theorem F8.moreO{w0 V W W':la}{Bs:List Nat}{t bw b tg:Nat}{g:Nat->Nat}{n:Nat}{s1:Ps}{A9:List (Nat×Nat×Ty)}(h:F8 w0 V W Bs t bw b tg g n L s1 A9)(i:W.grownBy W' N){e:TypeId}{sz m:Nat}{v:lb}{xs:List lb}(B:W'.ownsRow W.heap.size e sz v m xs):F8 w0 W' W' (v.ownBlock.toList++Bs) t bw b tg g n L s1 A9:=by
 obtain⟨C,rk,w,y,q⟩:=h;refine⟨C,rk,w.keep i,L8 y i,λj d=> ?_⟩;rcases li.1 d with d|d
 ·rw[Option.mem_toList]at d;have:=K7 B d;exact⟨w.lc this.1,this.2,rfl⟩
 ·exact⟨(q j d).1,lf (q j d).2.1 i.size,rfl⟩
theorem b6D(t:Ty):∃d,a4H t= .tuple #[Q #[J I (N7 t).k, Z (N7 t).n], G d]:=by
 unfold a4H a1G N7;by_cases h4:t.k=4
 ·rw[if_pos h4,if_pos h4];exact⟨true,rfl⟩
 ·rw[if_neg h4,if_neg h4];by_cases h5:t.k=5
  ·rw[if_pos h5,if_pos h5];exact⟨true,rfl⟩
  ·rw[if_neg h5,if_neg h5];exact⟨false,rfl⟩
def fl3(a0:Act)(c:Bool×Bool×Bool)(v:lb)(B3 B4:Nat):Act:=
 bif c.2.2 then(bif c.2.1 then(bif c.1 then a0.put (O 47) v else a0).put (O 3) (U (O (A B3 0 N)))else(bif c.1 then a0.put (O 47) v else a0)).put (O 4) (U (O (A B4 0 N)))else(bif c.2.1 then(bif c.1 then a0.put (O 47) v else a0).put (O 3) (U (O (A B3 0 N)))else(bif c.1 then a0.put (O 47) v else a0))
def flL(c:Bool×Bool×Bool):Array Bool:= #[true,true,true,true,true,true,true,true,true,true,true,true,true,true,true,true,true,true,true,true,true,true,true,true,true,true,true,c.1,c.2.1,c.2.2,false,false,false]
def FlQ(W2:la)(a0:Act)(lw:Nat)(c:Bool×Bool×Bool)(a:Act)(W:la):Prop:=∃B3 B4,a=fl3 a0 c (J I (lw:Nat)) B3 B4/\W2.grownBy W N/\(c.2.1=true->A4 W B3 #[J I 0, Z ⟨#[]⟩] 98/\W2.heap.size<=B3)/\(c.2.2=true->A4 W B4 #[J I 0, J I 0, Z ⟨#[]⟩, Z ⟨#[]⟩] 120/\W2.heap.size<=B4)/\(c.2.1=true->c.2.2=true->B3≠B4)
def a4j(t B2 B3 B4 lw:Nat)(tt:Nat->lb):Act:={tmps:= #[U (O (A t 0 N)),undef, U (O (A B2 0 N)), U (O (A B3 0 N)), U (O (A B4 0 N)), J I (lw:Nat),undef,tt 7,undef,tt 9,tt 10,tt 11,tt 12,tt 13,tt 14,tt 15,tt 16,tt 17,tt 18,tt 19,tt 20,tt 21,tt 22,tt 23,tt 24,tt 25,tt 26,tt 27,tt 28,tt 29,tt 30,tt 31,tt 32,tt 33,tt 34,tt 35,tt 36,tt 37,tt 38,tt 39,tt 40,tt 41,tt 42,tt 43,tt 44,tt 45,tt 46,tt 47,tt 48,tt 49,tt 50,tt 51,tt 52,tt 53,tt 54,tt 55,tt 56,tt 57,tt 58,tt 59,tt 60,tt 61,tt 62,tt 63,tt 64,tt 65,tt 66,tt 67,tt 68,tt 69,tt 70,tt 71,tt 72,tt 73,tt 74,tt 75,tt 76,tt 77,tt 78,tt 79,tt 80,tt 81,tt 82,tt 83,tt 84,tt 85,tt 86,tt 87,tt 88,tt 89,tt 90,tt 91,tt 92,tt 93,tt 94,tt 95,tt 96,tt 97,tt 98,tt 99,tt 100,tt 101,tt 102,tt 103,tt 104,tt 105,tt 106,tt 107,tt 108,tt 109,tt 110,tt 111,tt 112,tt 113,tt 114,tt 115,tt 116,tt 117,tt 118,tt 119,tt 120,tt 121,tt 122,tt 123,tt 124,tt 125,tt 126,tt 127,tt 128,tt 129,tt 130,tt 131,tt 132,tt 133,tt 134,tt 135,tt 136,tt 137,tt 138,tt 139,tt 140,tt 141,tt 142,tt 143,tt 144,tt 145,tt 146,tt 147,tt 148,tt 149,tt 150,tt 151,tt 152,tt 153,tt 154,tt 155,tt 156,tt 157,tt 158,tt 159,tt 160,tt 161,tt 162,tt 163,tt 164,tt 165,tt 166,tt 167,tt 168,tt 169,tt 170,tt 171,tt 172,tt 173,tt 174,tt 175,tt 176,tt 177,tt 178,tt 179,tt 180,tt 181,tt 182,tt 183,tt 184,tt 185,tt 186,tt 187,tt 188,tt 189,tt 190,tt 191,tt 192,tt 193,tt 194,tt 195,tt 196,tt 197,tt 198,tt 199],defers:=[]}
theorem c0T(L:List Cl)(c:ByteArray)(m:Me)(ht:Nat->Option Nat)(hP:X (PE L c m ht))(w0:la)(lim b:Nat)(p:Addr)(cap m1 m2 m3:Nat)(q:Nat->Qs)(h:X (Lk w0 lim b L p cap m1 m2 m3 q))(hl:lim<=w0.heap.size)(pa ca ha:Option Addr)(pk ck hk bw eg hg:Nat)(hE:X (TyE w0 lim L m pa pk ca ck ha hk bw eg hg ht))(t tg:Nat)(g:Nat->Nat)(w:la)(s0:Ps)(ra:Option Addr)(rk:Nat)(hT:X (K2 w w0.heap.size t bw b tg g m.c.length s0 ra rk))(eh:X (P5 L c m s0))(fb:X (a0J L m s0 N))(fd:U9 L s0<=8000000000000)(hG:X (w0.grownBy w N)):
 ld prog 195 #[U (O (A t 0 N))] w λe w'=>e= Y (.tuple #[])/\∃s fp fq,FlI w0 w' t bw b tg g L c m s0 s fp fq 8000000000000/\s.ris=[]:=by
 have fz:X (C0 w0 lim 4 M0 ca m.c):=hE.o.c;go_enter func195,ntmps195;go_step3
 go_wp2_with fail
 go_step3
 go_wp2_with fail
 have es:X (FlI w0 w t bw b tg g L c m s0 s0 ra rk 8000000000000):=⟨hT.o,eh.o,fb.o,fd,b0L L _,hG.o⟩
 go_loopg [] 8000000000000 (λK wr=>∃s ai am,FlI w0 wr t bw b tg g L c m s0 s ai am K/\K<=8000000000000)
 case atStart=>exact⟨_,_,_,es.o,Nat.le_refl _⟩
 case round=>
  obtain⟨K1,e1⟩:=Oe gk
  subst e1;obtain⟨s,ai,am,hI,hK⟩:=hrel;have HI:X (FlI w0 wr t bw b tg g L c m s0 s ai am K1):=hI;clear hI;have e':w0.heap.size<=wr.heap.size:=HI.o.gb.size;by_cases hw:s.ris=[]
  ·have c3:wr.cell? (A t 3 N)=O (.slice ai 0 am):=by have:=HI.o.m.blk.cell 3 _ rfl;rw[hw]at this;exact this
   have ey:X (s.ris=[]):=hw;clear hw;go_wp2_with fail
   rw[Exit.noGoto_normal];go_end0;exact⟨rfl,s,ai,am,⟨HI.o.m,HI.o.ok,HI.o.gone,Nat.le_trans HI.o.mu hK,HI.o.up,HI.o.gb⟩,ey.o⟩
  ·obtain⟨xs,pp,ba⟩:∃xs pp,s.ris=xs++ [pp]:=⟨_,_,(List.dropLast_concat_getLast hw).symm⟩
   obtain⟨a,j⟩:=pp;have ee:=b3Z L s;have fg:xs.length+1=s.ris.length:=by rw[ba];simp
   have ct:=HI.o.mu;obtain⟨t0,a1⟩:=HI.o.ok.told (a,j) (by rw[ba];simp);dsimp only at a1;obtain⟨cb,bp⟩:=a2U a1;have dc:a<m.c.length:=by rw[<-HI.o.ok.snd.len];exact cb
   obtain⟨k,a0⟩:∃k,Cf.G2 L m a k:=by
    refine Classical.byContradiction λfe=> ?_
    have:=HI.o.ok.snd.unre a (λk hk=>fe ⟨k,hk⟩);rw[this]at bp;simp at bp
   have dg:j<m.l+k:=by have:=HI.o.ok.snd.shape a k a0;omega
   have br:=hP.o.room a0;have bz:=hP.o.wld.psFlow hP.o.tyw hP.o.cok hP.o.ok hP.o.hok HI.o.ok HI.o.gone ba a0 a1;obtain⟨B,ab⟩:=Oe (F0 L m a k)
   rw[<-ab]at bz;have fs:B<=510:=by rw[ab];unfold F0;have:=hP.o.lo;have:=hP.o.st;omega
   have bi:=hP.o.wld.flow_comes hP.o.tyw hP.o.cok hP.o.ok hP.o.hok a0 dg (HI.o.ok.snd.snd _ _ _ a1).1 (HI.o.ok.snd.snd _ _ _ a1).2;rw[<-ab]at bi;obtain⟨s1,a7⟩:=Oe (a0A s)
   have cu:P5 L c m s1:=by rw[a7];exact b2M HI.o.ok
   have cr:U9 L s1<=8000000000000:=by rw[a7];have:=a8O L hw;omega
   rw[<-a7]at bz;have dw:X (s1=a0A s):=a7;have be:X (P5 L c m ((N6 L m a B j t0).foldl (O6 L) s1)/\a2b L s1 ((N6 L m a B j t0).foldl (O6 L) s1)/\a0J L m ((N6 L m a B j t0).foldl (O6 L) s1) N/\U9 L ((N6 L m a B j t0).foldl (O6 L) s1)<U9 L s):=bz;have ag:=F8.raise hP.o w0 lim b p cap m1 m2 m3 q h.o hl t bw tg g s1 cu cr (N6 L m a B j t0) bi;have ag:X (∀(V W:la) (Bs:List Nat) (A9:List (Nat×Nat×Ty)),F8 w0 V W Bs t bw b tg g m.c.length L s1 A9->(∀x∈A9,x∈N6 L m a B j t0)->∀x∈N6 L m a B j t0,ld prog 266 #[U (O (A t 0 N)), .int I x.1, .int I x.2.1, Q #[.int I x.2.2.k, Z x.2.2.n]] W λe w'=>e= Y (.tuple #[])/\F8 w0 V w' Bs t bw b tg g m.c.length L s1 (A9++ [x])):=ag;have dj:=b5j wr w0.heap.size t bw b tg g m.c.length s ai am HI.o.m e' xs a j ba Oo;rw[<-a7]at dj;have ez:X (ld prog 270 #[U (O (A t 0 N))] wr λe w'=>e= Y (Q #[.int I a, .int I j])/\K2 w' w0.heap.size t bw b tg g m.c.length s1 ai am/\TFx t g m.c.length ai ai wr w'):=dj
   have bd:X (∀(V W:la) (Bs:List Nat) (A9:List (Nat×Nat×Ty)),F8 w0 V W Bs t bw b tg g m.c.length L s1 A9->A9=N6 L m a B j t0->∃s ra rk,FlI w0 W t bw b tg g L c m s0 s ra rk (K1-1)/\K1-1<=8000000000000):=by
    rintro V W Bs A9 ⟨ra,rk,hM,e0,-⟩ rfl;exact⟨_,ra,rk,⟨hM,be.o.1,be.o.2.2.1,by have:=be.o.2.2.2;omega,c2l hP.o.wld eh.o HI.o.ok be.o.1 HI.o.up (by rw[<-dw.o];exact be.o.2.1.up),e0⟩,by omega⟩
   obtain⟨q5,ff,-,-,-,-,-,c3⟩:=b1P HI.o.m ba;have ek:xs.length<=8000000000000:=by omega
   obtain⟨xl,cv⟩:=Oe xs.length
   rw[<-cv]at c3 ek;have bg:X (0<K1/\U9 L s<=K1):=⟨by have:=a8O L hw;omega,ct⟩
   have HA:X (Cf.G2 L m a k/\ht a=O k/\a<m.c.length/\B=F0 L m a k/\j<m.l+k/\k<=m.s):=⟨a0,(hP.o.hts a k dc).2 a0,dc,ab,dg,br.2.2⟩
   have gd:m.l<=255:=hP.o.lo;have ge:m.h.length<=65535:=hP.o.nh;have dx:X (tq s.ts a j=O (O t0)):=a1;clear hw ba fg ee ct a1 cb bp dc a0 br bz ab bi a7 cu cr dj cv dg;clear ff;go_wp2_with fail
   go_step3
   go_upto_region 2 with(go_at_call 270;refine ez.o.mono ?_;rintro e w1 ⟨rfl,c',d0⟩)
   have cp:w0.grownBy w1 N:=b4k HI.o.gb HI.o.m d0;have bb:X (A4 (w1.alloc (H #[.int I a, .int I j] 366)) w1.heap.size #[.int I a, .int I j] 366):=A4.new w1 _ _;have an:X (K2 (w1.alloc (H #[.int I a, .int I j] 366)) w0.heap.size t bw b tg g m.c.length s1 ai am):=c'.keep (A2 _ _ N);have b0:X (w0.grownBy (w1.alloc (H #[.int I a, .int I j] 366)) N):=L8 cp (A2 _ _ N);have dt:X (Lc w1.heap.size t g m.c.length ai):=c'.lc (Nat.le_refl _);generalize w1.alloc (H #[.int I a, .int I j] 366)=W2 at bb an b0⊢;generalize w1.heap.size=B2 at bb dt⊢;clear c' d0 cp c3;have cw:X (TyE W2 lim L m pa pk ca ck ha hk bw eg hg ht):=hE.o.keep b0.o;have c0:W2.cell? (A t 0 N)=O (U (O (A bw 0 N))):=an.o.blk.cell 0 _ rfl;have c2:W2.cell? (A t 2 N)=O (.slice (O (A tg 0 N)) m.c.length m.c.length):=an.o.blk.cell 2 _ rfl;have cy:W2.cell? (A B2 0 N)=O (.int I a):=bb.o.cell 0 _ rfl;have cz:W2.cell? (A B2 1 N)=O (.int I j):=bb.o.cell 1 _ rfl;have c6:W2.cell? (A bw 6 N)=O (.slice ca m.c.length ck):=cw.o.meth 6 _ rfl;have bt:tq s1.ts a j=O (O t0):=by rw[dw.o];exact dx.o
   obtain⟨cb,bp⟩:=a2U bt;obtain⟨lr,ef⟩:=Oe ((s1.ts.getD a []).length)
   have dh:(s1.ts.getD a []).length≠0:=by omega
   have e9:(a:Int)<(m.c.length:Int):=by have:=HA.o.2.2.1;omega
   have b':(j:Int)<(lr:Int):=by omega
   have dy:W2.cell? (A tg a N)=O (.slice (O (A (g a) 0 N)) lr lr):=b7 an.o.types a _ (by rw[List.getElem?_map,List.getElem?_range HA.o.2.2.1,Option.map_some];unfold a1I;rw[if_neg dh,<-ef]);have bs:=an.o.rows a HA.o.2.2.1 dh;obtain⟨f1,f2⟩:=b3g _ _ _ (show(s1.ts.getD a [])[j]? =O (O t0)from bt);have r0:W2.cell? (A (g a) (j*2) N)=O (.int I t0.k):=b7 bs _ _ f1;have r1:W2.cell? (A (g a) (j*2+1) N)=O (Z t0.n):=b7 bs _ _ f2;obtain⟨pc,di,-,a3⟩:=cw.o.c a HA.o.2.2.1;obtain⟨i,hi⟩:=Oe (A5 m a)
   have d4:m.c[a]'HA.o.2.2.1=i:=by rw[hi];unfold A5;simp[HA.o.2.2.1]
   rw[d4]at a3;have af:X (i=A5 m a):=hi;have fy:X (ca=O pc):=di;have c6:W2.cell? (A bw 6 N)=O (.slice (O pc) m.c.length ck):=by rw[<-di];exact c6
   have y0:W2.cell? (pc.add (a*4))=O (.int I i.o):=a3 0 _ rfl;have y1:W2.cell? (A ((pc.add (a*4)).block) ((pc.add (a*4)).off+1) N)=O (.int I i.a):=by rw[C2 pc (a*4) 0];exact a3 1 _ rfl
   have y2:W2.cell? (A ((pc.add (a*4)).block) ((pc.add (a*4)).off+2) N)=O (Z i.c):=by rw[C2 pc (a*4) 1];exact a3 2 _ rfl
   have y3:W2.cell? (A ((pc.add (a*4)).block) ((pc.add (a*4)).off+3) N)=O (Z i.m):=by rw[C2 pc (a*4) 2];exact a3 3 _ rfl
   have eu:X (∀W,W2.grownBy W N->ld prog 269 #[U (O (A t 0 N)), .int I a] W λe w'=>e= Y (.int I (B:Nat))/\W.grownBy w' N):=λW hW=>by
    rw[HA.o.2.2.2.1];exact b1m W lim L c m pa pk ca ck ha hk bw eg hg ht hP (cw.o.keep hW) t (hW.cell c0 B9) a k HA.o.2.2.1 HA.o.2.1
   clear cb bp ef dh bs f1 f2 a3 d4 hi di bt;refine a5B (λa' W=>(∃F E,(∃tt:Nat->lb,a'=a4j t B2 F E B tt)/\W2.heap.size<=F/\W2.heap.size<=E/\F≠E/\A4 W F #[.int I t0.k, Z t0.n] 98/\A4 W E #[.int I i.o, .int I i.a, Z i.c, Z i.m] 120)/\W2.grownBy W N) ?_ ?_
   ·skip
    have HC:∀w,W2.grownBy w N->w.cell? (A t 0 N)=O (U (O (A bw 0 N)))/\w.cell? (A t 2 N)=O (.slice (O (A tg 0 N)) m.c.length m.c.length)/\w.cell? (A B2 0 N)=O (.int I a)/\w.cell? (A B2 1 N)=O (.int I j)/\w.cell? (A bw 6 N)=O (.slice (O pc) m.c.length ck)/\w.cell? (A tg a N)=O (.slice (O (A (g a) 0 N)) lr lr)/\w.cell? (A (g a) (j*2) N)=O (.int I t0.k)/\w.cell? (A (g a) (j*2+1) N)=O (Z t0.n)/\w.cell? (pc.add (a*4))=O (.int I i.o)/\w.cell? (A ((pc.add (a*4)).block) ((pc.add (a*4)).off+1) N)=O (.int I i.a)/\w.cell? (A ((pc.add (a*4)).block) ((pc.add (a*4)).off+2) N)=O (Z i.c)/\w.cell? (A ((pc.add (a*4)).block) ((pc.add (a*4)).off+3) N)=O (Z i.m):=λw hw=>by
     refine⟨hw.cell c0 ?_,hw.cell c2 ?_,hw.cell cy ?_,hw.cell cz ?_,hw.cell c6 ?_,hw.cell dy ?_,hw.cell r0 ?_,hw.cell r1 ?_,hw.cell y0 ?_,hw.cell y1 ?_,hw.cell y2 ?_,hw.cell y3 ?_⟩<;>exact Option.some_ne_none _
    refine wp_region_held_drew (S:=(λw'=>W2.grownBy w' N)) Ok0 (A7 W2 N) (λaw=> ?_);refine A3 0 ?_;refine A3 1 ?_;refine A3 2 ?_;refine A3 3 ?_;refine A3 4 ?_;refine A3 5 ?_;refine A3 6 ?_;refine A3 7 ?_;refine A3 8 ?_;refine A3 9 ?_;refine A3 10 ?_;refine A3 11 (v:= Q #[.int I t0.k, Z t0.n]) ?_;refine A3 12 ?_;refine A3 13 ?_;refine A3 14 ?_;refine A3 15 ?_;refine A3 16 ?_;refine A3 17 ?_;refine A3 18 ?_;refine A3 19 ?_;refine A3 20 ?_;refine A3 21 ?_;refine A3 22 ?_;refine A3 23 (v:= Q #[.int I i.o, .int I i.a, Z i.c, Z i.m]) ?_;refine A3 24 ?_;refine A3 25 ?_;refine A3 26 ?_;clear HC;refine b0E flL (λc=>3+(!c.1).toNat+(!c.2.1).toNat+(!c.2.2).toNat) (FlQ W2 _ B) (λc=>c.1&&c.2.1&&c.2.2) (λc i=>(i=27/\c.1=false)\/(i=28/\c.2.1=false)\/(i=29/\c.2.2=false)) ?hr ?hd ?hs (false,false,false) _ _ ⟨0,0,rfl,aw,nofun,nofun,nofun⟩ _ _ rfl rfl
    case hr=>rintro⟨a,b,c⟩;revert a b c;decide+kernel
    case hs=>
     rintro⟨d7,d8,d9⟩ a' W ⟨F,E,rfl,hS,h3,h4,hn⟩-i hi;dsimp only at hi h3 h4 hn;rcases hi with⟨rfl,rfl⟩|⟨rfl,rfl⟩|⟨rfl,rfl⟩
     ·refine⟨_,rfl,λK' hK=>(if_pos (by rfl)).mpr ?_⟩;have e4:X (∀a' W7,a'=fl3 _ (true,d8,d9) (.int I (B:Nat)) F E->W.grownBy W7 N->K' a' W7):=λa' W7 e a4=>hK.o _ a' W7 (L8 hS a4) ⟨F,E,e,L8 hS a4,λe=>⟨(h3 e).1.keep a4 B9,(h3 e).2⟩,λe=>⟨(h4 e).1.keep a4 B9,(h4 e).2⟩,hn⟩ (by cases d8<;>cases d9<;>rfl) (by rfl)
      cases d8<;>cases d9
      all_goals
       dsimp only[fl3,cond];simp only[lg,lz];go_simp
       go_wp2_with (go_at_call 269;refine(eu.o _ hS).mono ?_;rintro e W7 ⟨rfl,a4⟩)
       exact e4.o _ _ Ok0 a4
     ·refine⟨_,rfl,λK' hK=>(if_pos (by rfl)).mpr ?_⟩;have az:=A2 W (H #[.int I 0, Z ⟨#[]⟩] 98) N;refine hK.o (d7,true,d9) _ _ (L8 hS az) ⟨W.heap.size,E,by cases d7<;>cases d9<;>kernel_rfl,L8 hS az,λ_=>⟨A4.new W _ _,hS.size⟩,λe=>⟨(h4 e).1.keep az B9,(h4 e).2⟩,λ_ e=>by have:=(h4 e).1.lt;omega⟩ (by cases d7<;>cases d9<;>rfl) (by rfl)
     ·refine⟨_,rfl,λK' hK=>(if_pos (by rfl)).mpr ?_⟩;have az:=A2 W (H #[.int I 0, .int I 0, Z ⟨#[]⟩, Z ⟨#[]⟩] 120) N;refine hK.o (d7,d8,true) _ _ (L8 hS az) ⟨F,W.heap.size,by cases d7<;>cases d8<;>kernel_rfl,L8 hS az,λe=>⟨(h3 e).1.keep az B9,(h3 e).2⟩,λ_=>⟨A4.new W _ _,hS.size⟩,λe _=>by have:=(h3 e).1.lt;omega⟩ (by cases d7<;>cases d8<;>rfl) (by rfl)
    case hd=>
     rintro⟨d7,d8,d9⟩ a' W ⟨F,E,rfl,hS,h3,h4,hn⟩ d5;simp only[Bool.and_eq_true]at d5;obtain⟨⟨rfl,rfl⟩,rfl⟩:=d5;obtain⟨ao,bm⟩:=h3 rfl;obtain⟨ap,bn⟩:=h4 rfl;have ak:=hn rfl rfl;clear h3 h4 hn;dsimp only[fl3,flL,cond];show wpAnyH _ _ _ _ _ 3 _ _ _;simp only[lg,lz];obtain⟨dp,em⟩:=ao.q2;obtain⟨f0,f3⟩:=ao.z2;refine F3 30 λK hK=> ?_;go_simp
     have bk:W.grownBy ((W.setCell (A F 0 N) (.int I t0.k)).setCell (A F 1 N) (Z t0.n)) (O F):=A0 (A6 _ (A F 0 N) _) (A6 _ (A F 1 N) _);have cf:=(ao.set 0 (.int I t0.k)).set 1 (Z t0.n);have a2:=ap.keep bk (λe=>ak (ll.inj e).symm);have da:W2.grownBy ((W.setCell (A F 0 N) (.int I t0.k)).setCell (A F 1 N) (Z t0.n)) N:=C6 hS bk (λk e=>by cases e;exact .inl bm);generalize ((W.setCell (A F 0 N) (.int I t0.k)).setCell (A F 1 N) (Z t0.n))=W8 at bk cf a2 da⊢;refine hK.o _ _ ?_ (λaw=> ?_)
     case refine_1=>exact da
     try clear hK K
     try simp only[lg,lz]
     obtain⟨bu,bv,en,eo⟩:=a2.q4;obtain⟨f4,f5,f6,f7⟩:=a2.z4;refine F3 31 λK hK=> ?_;go_simp
     have bl:=(A0 (A0 (A6 W8 (A E 0 N) (.int I i.o)) (A6 _ (A E 1 N) (.int I i.a))) (A0 (A6 _ (A E 2 N) (Z i.c)) (A6 _ (A E 3 N) (Z i.m))))
     have cj:=a2.set 0 (.int I i.o);have cm:=cj.set 1 (.int I i.a);have cn:=cm.set 2 (Z i.c);have co:=cn.set 3 (Z i.m);clear cj cm cn;have cg:=cf.keep bl (λe=>ak (ll.inj e));have db:=C6 (row:=N) da bl (λk e=>by cases e;exact .inl bn);generalize (((W8.setCell (A E 0 N) (.int I i.o)).setCell (A E 1 N) (.int I i.a)).setCell (A E 2 N) (Z i.c)).setCell (A E 3 N) (Z i.m)=W9 at bl co cg db⊢;refine hK.o _ _ ?_ (λaw=> ?_)
     case refine_1=>exact db
     try clear hK K
     try simp only[lg,lz]
     refine A3 32 ?_;refine wpAnyH_done Ok0 ?_ _;exact⟨⟨F,E,a0M (Fr:=a4j t B2 F E B) rfl,bm,bn,ak,cg,co⟩,db⟩
   rintro a' W4 ⟨⟨F,E,⟨tt,rfl⟩,bm,bn,ak,ao,ap⟩,ax⟩;dsimp only[a4j]
   have cx:X (F8 w0 W4 W4 [B2,F,E] t bw b tg g m.c.length L s1 []):=by
    refine⟨ai,am,an.o.keep ax,L8 b0.o ax,λk hk=> ?_⟩;rcases lh.1 hk with rfl|hk
    ·exact⟨dt.o,lf bb.o.lt ax.size,rfl⟩
    rcases lh.1 hk with rfl|hk
    ·exact⟨an.o.lc bm,ao.lt,rfl⟩
    ·rw[lj.1 hk];exact⟨an.o.lc bn,ap.lt,rfl⟩
   have HV:X (W4.cell? (A B2 0 N)=O (.int I a)/\W4.cell? (A B2 1 N)=O (.int I j)/\W4.cell? (A F 0 N)=O (.int I t0.k)/\W4.cell? (A F 1 N)=O (Z t0.n)/\W4.cell? (A E 0 N)=O (.int I i.o)/\W4.cell? (A E 1 N)=O (.int I i.a)/\W4.cell? (A E 2 N)=O (Z i.c)/\W4.cell? (A E 3 N)=O (Z i.m)):=⟨ax.cell cy B9,ax.cell cz B9,ao.cell 0 _ rfl,ao.cell 1 _ rfl,ap.cell 0 _ rfl,ap.cell 1 _ rfl,ap.cell 2 _ rfl,ap.cell 3 _ rfl⟩
   have ep:X (w0.grownBy W4 N):=L8 b0.o ax;clear ax ao ap bm bn ak c0 c2 cy cz c6 dy r0 r1 y0 y1 y2 y3 e9 b';have c7:W4.cell? (A bw 7 N)=O (.slice ha m.h.length hk):=(hE.o.keep ep.o).meth 7 _ rfl;have c0:W4.cell? (A t 0 N)=O (U (O (A bw 0 N))):=cx.o.t0;go_wp2_with fail
   go_step3
   go_wp2_with fail
   refine a3l (J:=λa' W=>(∃tt:Nat->lb,a'=a4j t B2 F E B tt)/\F8 w0 W4 W [B2,F,E] t bw b tg g m.c.length L s1 (X5 m a j t0 m.h.length)) ?_ ?_
   ·rintro a' W5 ⟨⟨tt,rfl⟩,hR⟩;dsimp only[a4j];have b1:X (F8 w0 W4 W5 [B2,F,E] t bw b tg g m.c.length L s1 (X5 m a j t0 m.h.length)):=hR;have dl:W5.cell? (A B2 0 N)=O (.int I a):=hR.cell Os HV.o.1;have bu:W5.cell? (A E 0 N)=O (.int I i.o):=hR.cell Os HV.o.2.2.2.2.1;have bv:W5.cell? (A E 1 N)=O (.int I i.a):=hR.cell Os HV.o.2.2.2.2.2.1;have en:W5.cell? (A E 2 N)=O (Z i.c):=hR.cell Os HV.o.2.2.2.2.2.2.1;have eo:W5.cell? (A E 3 N)=O (Z i.m):=hR.cell Os HV.o.2.2.2.2.2.2.2;clear hR c7 c0;have df:R7 i:=by rw[af.o];exact hP.o.ok _ (a6c HA.o.2.2.1)
    have cq:12<=i.o->i.o<=15->0<=i.a:=λh1 _=>df.2 Oo
    obtain⟨gl,b5⟩:=Oe (E6 i a)
    have ce:X (∀W,ld prog 268 #[Q #[.int I i.o, .int I i.a, Z i.c, Z i.m], .int I a] W λe w'=>W.grownBy w' N/\∃v,e= Y v/\w'.ownsRow W.heap.size 3 1 v gl.length (gl.flatMap a0p)):=λW=>by
     rw[b5];exact a8P W i a (by have:=HA.o.2.2.1;have:=hP.o.nc;omega) cq
    have bf:X (gl=E6 (A5 m a) a/\R7 i):=⟨by rw[<-af.o];exact b5,df⟩
    obtain⟨nl,cc⟩:=Oe gl.length
    have du:X (nl=gl.length):=cc;have ft:nl<=2:=by rw[cc,b5];exact a8U _ _
    rw[<-cc]at ce;clear df cq b5 cc;go_wp2_with (go_at_call 268;go_loud (refine(ce.o _).mono ?_;rintro e w6 ⟨ay,v6,rfl,cd⟩;obtain⟨a6,k6,rfl⟩:=F7 cd))
    obtain⟨Bs,b2⟩:=Oe ((Value.slice a6 nl k6).ownBlock.toList++ [B2,F,E])
    have ew:X (F8 w0 w6 w6 Bs t bw b tg g m.c.length L s1 (b8 m a B j t0 0)):=by rw[b6i,b2];exact b1.o.moreO ay cd
    have dv:X (w6.ownsRow W5.heap.size 3 1 (.slice a6 nl k6) nl (gl.flatMap a0p)/\∀k,(Value.slice a6 nl k6).ownBlock=O k->k∈Bs):=⟨cd,λk hk=>by rw[b2,hk];simp⟩
    have C:X (B2∈Bs/\F∈Bs/\E∈Bs):=by rw[b2];exact⟨by simp,by simp,by simp⟩
    have D:X (w6.cell? (A B2 1 N)=O (.int I j)/\w6.cell? (A F 0 N)=O (.int I t0.k)/\w6.cell? (A F 1 N)=O (Z t0.n)/\w6.cell? (A E 0 N)=O (.int I i.o)/\w6.cell? (A E 1 N)=O (.int I i.a)):=
     ⟨ay.cell (b1.o.cell Os HV.o.2.1) Os,ay.cell (b1.o.cell Os HV.o.2.2.1) Os,ay.cell (b1.o.cell Os HV.o.2.2.2.1) Os,ay.cell bu Os,ay.cell bv Os⟩
    clear b2 dl bu bv en eo ay cd;go_loopw [92] (λc W=>∃jj:Nat,c= .int I jj/\jj<=nl/\F8 w0 w6 W Bs t bw b tg g m.c.length L s1 (b8 m a B j t0 jj)) (λc _=>nl-(intOf c).toNat)
    case atStart=>exact⟨0,rfl,lk _,ew.o⟩
    case round=>
     obtain⟨jj,rfl,ec,hR⟩:=hrel;have HR:X (F8 w0 w6 wr Bs t bw b tg g m.c.length L s1 (b8 m a B j t0 jj)):=hR;clear hR;by_cases hlt:jj<nl
     ·have hjl:jj<gl.length:=by rw[<-du.o];exact hlt
      have hown:=HR.o.row dv.o.1 dv.o.2;obtain⟨g5,c5,hg5e,-,d'⟩:=hown.form Oo;injection hg5e with hg5e ea d6
      clear ea;subst d6;obtain⟨x,hx⟩:=Oe (gl.getD jj 0)
      have f':wr.cell? (A g5 jj N)=O (.int I x):=by
       exact a4q
      have HX:X (x=(E6 (A5 m a) a).getD jj 0):=by unfold X;rw[hx,bf.o.1]
      have dr:X (jj<(E6 (A5 m a) a).length):=by unfold X;rw[<-bf.o.1];exact hjl
      have HSUC:X (b8 m a B j t0 (jj+1)=b8 m a B j t0 jj++T2 i B j t0 x):=by
       have:=b6j (low:=B) (j:=j) (t:=t0) dr.o;rw[<-HX.o,<-af.o]at this;exact this
      have aa:X (∀y∈T2 i B j t0 x,y∈N6 L m a B j t0):=λy hy=>c3I (l:=L) dr.o y (by rw[<-HX.o,<-af.o];exact hy)
      have dm:wr.cell? (A B2 1 N)=O (.int I j):=HR.o.cell C.o.1 D.o.1;have dp:wr.cell? (A F 0 N)=O (.int I t0.k):=HR.o.cell C.o.2.1 D.o.2.1;have em:wr.cell? (A F 1 N)=O (Z t0.n):=HR.o.cell C.o.2.1 D.o.2.2.1;have bu:wr.cell? (A E 0 N)=O (.int I i.o):=HR.o.cell C.o.2.2 D.o.2.2.2.1;have bv:wr.cell? (A E 1 N)=O (.int I i.a):=HR.o.cell C.o.2.2 D.o.2.2.2.2;have b':(jj:Int)<(nl:Int):=by omega
      clear hown hjl hx d';subst hg5e;obtain⟨T,av,cs,ms⟩:=i;dsimp only at bu bv;by_cases e3:T=3
      ·have gm:((T:Int)==3)=true:=by rw[beq_iff_eq];omega
       have bc:X (T=3):=e3;have dk:¬(T:Int)=2:=by omega
       have fj:((T:Int)==2)=false:=by rw[beq_eq_false_iff_ne];exact dk
       obtain⟨ia,de⟩:∃ia:Nat,av=(ia:Int):=⟨av.toNat,by have:=bf.o.2.2 (by simp only;omega);simp only at this;omega⟩
       subst de;by_cases ej:j=ia
       ·subst ej;have aj:X (∀x,T2 ⟨T,(j:Int),cs,ms⟩ B j t0 x=[]):=by unfold X;intro x;simp[T2,e3]
        clear e3;have M:X (b8 m a B j t0 jj=N6 L m a B j t0):=by unfold X;rw[a6e,a3G (by rw[<-af.o];exact aj.o),a3G (by rw[<-af.o];exact aj.o)]
        obtain⟨s9,ad,ae,ac,b3⟩:=bd.o w6 wr Bs _ HR.o M.o;have al:X (FlI w0 wr t bw b tg g L c m s0 s9 ad ae (K1-1)):=ac;clear ac M;go_wp2_with fail
        go_roundg (K1-1)
        case measure=>have:=bg.o.1;omega
        case rel=>exact⟨s9,ad,ae,al.o,by omega⟩
       ·have bh:¬(j:Int)=(ia:Int):=by omega
        have dz:((j:Int)==(ia:Int))=false:=by rw[beq_eq_false_iff_ne];exact bh
        by_cases ab:j<B
        ·have aq:(j:Int)<(B:Int):=by omega
         have HN1:X (T2 ⟨T,(ia:Int),cs,ms⟩ B j t0 x=[(x,j,t0)]):=by unfold X;simp[T2,e3,ej,ab]
         clear e3;go_wp2_with (go_at_call 266;go_loud (refine(ag.o w6 wr Bs _ (HR.o) (a2L jj) (x,j,t0) (aa.o _ (by rw[HN1.o];simp))).mono ?_;rintro e w7 ⟨rfl,hR7⟩;have ar:=hR7.cell C.o.2.1 D.o.2.1;have au:=hR7.cell C.o.2.1 D.o.2.2.1))
         go_roundw
         case rel=>exact a3h
         case measure=>exact a0s
        ·have aq:¬(j:Int)<(B:Int):=by omega
         have HN1:X (T2 ⟨T,(ia:Int),cs,ms⟩ B j t0 x=[(x,ia,t0)]):=by unfold X;simp[T2,e3,ej,ab]
         clear e3;go_wp2_with (go_at_call 266;go_loud (refine(ag.o w6 wr Bs _ (HR.o) (a2L jj) (x,ia,t0) (aa.o _ (by rw[HN1.o];simp))).mono ?_;rintro e w7 ⟨rfl,hR7⟩;have ar:=hR7.cell C.o.2.1 D.o.2.1;have au:=hR7.cell C.o.2.1 D.o.2.2.1))
         go_roundw
         case rel=>exact a3h
         case measure=>exact a0s
      ·have fm:¬(T:Int)=3:=by omega
       have gg:((T:Int)==3)=false:=by rw[beq_eq_false_iff_ne];exact fm
       by_cases e2:T=2
       ·have gj:((T:Int)==2)=true:=by rw[beq_iff_eq];omega
        have bc:X (T=2):=e2;obtain⟨ia,de⟩:∃ia:Nat,av=(ia:Int):=⟨av.toNat,by have:=bf.o.2.2 (by simp only;omega);simp only at this;omega⟩
        subst de;by_cases ej:j=ia
        ·subst ej;have HN1:X (T2 ⟨T,(j:Int),cs,ms⟩ B j t0 x=[(x,j,t0),(x,B,t0)]):=by unfold X;simp[T2,e2]
         clear e2;go_wp2_with (first|(go_at_call 266;go_loud (refine(ag.o w6 w7 Bs _ (hR7) (λy hy=>by rcases li.1 hy with h1|h1;exact a2L jj y h1;rw[lj.1 h1];exact aa.o _ (by rw[HN1.o];simp)) (x,B,t0) (aa.o _ (by rw[HN1.o];simp))).mono ?_;rintro e w8 ⟨rfl,hR8⟩;have ar:=hR8.cell C.o.2.1 D.o.2.1;have au:=hR8.cell C.o.2.1 D.o.2.2.1))|(go_at_call 266;go_loud (refine(ag.o w6 wr Bs _ (HR.o) (a2L jj) (x,j,t0) (aa.o _ (by rw[HN1.o];simp))).mono ?_;rintro e w7 ⟨rfl,hR7⟩;have ar:=hR7.cell C.o.2.1 D.o.2.1;have au:=hR7.cell C.o.2.1 D.o.2.2.1)))
         go_roundw
         case rel=>exact c6u
         case measure=>exact a0s
        ·have bh:¬(j:Int)=(ia:Int):=by omega
         have dz:((j:Int)==(ia:Int))=false:=by rw[beq_eq_false_iff_ne];exact bh
         by_cases ab:j<B
         ·have aq:(j:Int)<(B:Int):=by omega
          have HN1:X (T2 ⟨T,(ia:Int),cs,ms⟩ B j t0 x=[(x,j,t0)]):=by unfold X;simp[T2,e2,ej,ab]
          clear e2;go_wp2_with (go_at_call 266;go_loud (refine(ag.o w6 wr Bs _ (HR.o) (a2L jj) (x,j,t0) (aa.o _ (by rw[HN1.o];simp))).mono ?_;rintro e w7 ⟨rfl,hR7⟩;have ar:=hR7.cell C.o.2.1 D.o.2.1;have au:=hR7.cell C.o.2.1 D.o.2.2.1))
          go_roundw
          case rel=>exact a3h
          case measure=>exact a0s
         ·have aq:¬(j:Int)<(B:Int):=by omega
          have aj:X (∀x,T2 ⟨T,(ia:Int),cs,ms⟩ B j t0 x=[]):=by unfold X;intro x;simp[T2,e2,ej,ab]
          clear e2;have M:X (b8 m a B j t0 jj=N6 L m a B j t0):=by unfold X;rw[a6e,a3G (by rw[<-af.o];exact aj.o),a3G (by rw[<-af.o];exact aj.o)]
          obtain⟨s9,ad,ae,ac,b3⟩:=bd.o w6 wr Bs _ HR.o M.o;have al:X (FlI w0 wr t bw b tg g L c m s0 s9 ad ae (K1-1)):=ac;clear ac M;go_wp2_with fail
          go_roundg (K1-1)
          case measure=>have:=bg.o.1;omega
          case rel=>exact⟨s9,ad,ae,al.o,by omega⟩
       ·have dk:¬(T:Int)=2:=by omega
        have fj:((T:Int)==2)=false:=by rw[beq_eq_false_iff_ne];exact dk
        by_cases ab:j<B
        ·have aq:(j:Int)<(B:Int):=by omega
         have HN1:X (T2 ⟨T,av,cs,ms⟩ B j t0 x=[(x,j,t0)]):=by unfold X;simp[T2,e3,e2,ab]
         clear e3 e2;go_wp2_with (go_at_call 266;go_loud (refine(ag.o w6 wr Bs _ (HR.o) (a2L jj) (x,j,t0) (aa.o _ (by rw[HN1.o];simp))).mono ?_;rintro e w7 ⟨rfl,hR7⟩;have ar:=hR7.cell C.o.2.1 D.o.2.1;have au:=hR7.cell C.o.2.1 D.o.2.2.1))
         go_roundw
         case rel=>exact a3h
         case measure=>exact a0s
        ·have aq:¬(j:Int)<(B:Int):=by omega
         by_cases e5:T=5
         ·have gn:((T:Int)==5)=true:=by rw[beq_iff_eq];omega
          have bc:X (T=5):=e5;have HN1:X (T2 ⟨T,av,cs,ms⟩ B j t0 x=[(x,B,t0),(x,B+1,t0)]):=by unfold X;simp[T2,ab,e5]
          clear e5;go_wp2_with (first|(go_at_call 266;go_loud (refine(ag.o w6 w7 Bs _ (hR7) (λy hy=>by rcases li.1 hy with h1|h1;exact a2L jj y h1;rw[lj.1 h1];exact aa.o _ (by rw[HN1.o];simp)) (x,B+1,t0) (aa.o _ (by rw[HN1.o];simp))).mono ?_;rintro e w8 ⟨rfl,hR8⟩;have ar:=hR8.cell C.o.2.1 D.o.2.1;have au:=hR8.cell C.o.2.1 D.o.2.2.1))|(go_at_call 266;go_loud (refine(ag.o w6 wr Bs _ (HR.o) (a2L jj) (x,B,t0) (aa.o _ (by rw[HN1.o];simp))).mono ?_;rintro e w7 ⟨rfl,hR7⟩;have ar:=hR7.cell C.o.2.1 D.o.2.1;have au:=hR7.cell C.o.2.1 D.o.2.2.1)))
          go_roundw
          case rel=>exact c6u
          case measure=>exact a0s
         ·have fn:¬(T:Int)=5:=by omega
          have gh:((T:Int)==5)=false:=by rw[beq_eq_false_iff_ne];exact fn
          by_cases e6:T=6
          ·have gp:((T:Int)==6)=true:=by rw[beq_iff_eq];omega
           have bc:X (T=6):=e6;have HN1:X (T2 ⟨T,av,cs,ms⟩ B j t0 x=[(x,2*B+1-j,t0)]):=by unfold X;simp[T2,ab,e6]
           clear e6;have ei:D7 L m (A5 m a)=2:=by rw[<-af.o];simp[D7,E5,bc.o]
           have eb:((2*B+1-j:Nat):Int)=2*(B:Int)+1-(j:Int):=by
            exact c7f
           have ex:X (ld prog 266 #[U (O (A t 0 N)), .int I x, .int I (2*(B:Int)+1-(j:Int)), Q #[.int I t0.k, Z t0.n]] wr λe w'=>e= Y (.tuple #[])/\F8 w0 w6 w' Bs t bw b tg g m.c.length L s1 (b8 m a B j t0 jj++ [(x,2*B+1-j,t0)])):=by
            have h9:=ag.o w6 wr Bs _ HR.o (a2L jj) (x,2*B+1-j,t0) (aa.o _ (by rw[HN1.o];simp));rw[<-eb];exact h9
           have ga:j<=2*B+1:=by
            exact c7f
           clear ei eb;go_wp2_with (go_at_call 266;go_loud (refine ex.o.mono ?_;rintro e w7 ⟨rfl,hR7⟩))
           go_roundw
           case rel=>exact a3h
           case measure=>exact a0s
          ·have fo:¬(T:Int)=6:=by omega
           have gi:((T:Int)==6)=false:=by rw[beq_eq_false_iff_ne];exact fo
           by_cases e26:T=26
           ·have fv:((T:Int)==26)=true:=by rw[beq_iff_eq];omega
            have bc:X (T=26):=e26;by_cases ej:j=B
            ·subst ej;obtain⟨bo,d3⟩:=b6D t0
             have dq:X (∀W,ld prog 271 #[Q #[.int I t0.k, Z t0.n]] W λe w'=>W.grownBy w' N/\e= Y (.tuple #[Q #[.int I (N7 t0).k, Z (N7 t0).n], G bo])):=λW=>by
              have h9:=a8h W t0 (λe5=>by
               have h8:=(HI.o.ok.snd.snd _ _ _ dx.o).1.2;rw[if_neg Oo]at h8;exact h8)
              rw[d3]at h9;exact h9
             obtain⟨er,dd⟩:=Oe (N7 t0)
             rw[<-dd]at dq;have HN1:X (T2 ⟨T,av,cs,ms⟩ j j t0 x=[(x,j,er)]):=by unfold X;simp[T2,dd,e26]
             clear e26;clear dd d3;go_wp2_with (first|(go_at_call 271;go_loud (refine(dq.o _).mono ?_;rintro e w8 ⟨fc,rfl⟩;have eq:X (wr.grownBy (w8.alloc (H #[.int I er.k, Z er.n] 98)) N):=L8 fc (A2 _ _ N)))|(go_at_call 266;go_loud (refine(ag.o w6 (w8.alloc (H #[.int I er.k, Z er.n] 98)) Bs _ (HR.o.keep eq.o) (a2L jj) (x,j,er) (aa.o _ (by rw[HN1.o];simp))).mono ?_;rintro e w7 ⟨rfl,hR7⟩;have ar:=hR7.cell C.o.2.1 D.o.2.1;have au:=hR7.cell C.o.2.1 D.o.2.2.1)))
             go_roundw
             case rel=>exact a3h
             case measure=>exact a0s
            ·have bh:¬(j:Int)=(B:Int):=by omega
             have dz:((j:Int)==(B:Int))=false:=by rw[beq_eq_false_iff_ne];exact bh
             have aj:X (∀x,T2 ⟨T,av,cs,ms⟩ B j t0 x=[]):=by unfold X;intro x;simp[T2,ab,ej,e26]
             clear e26;have M:X (b8 m a B j t0 jj=N6 L m a B j t0):=by unfold X;rw[a6e,a3G (by rw[<-af.o];exact aj.o),a3G (by rw[<-af.o];exact aj.o)]
             obtain⟨s9,ad,ae,ac,b3⟩:=bd.o w6 wr Bs _ HR.o M.o;have al:X (FlI w0 wr t bw b tg g L c m s0 s9 ad ae (K1-1)):=ac;clear ac M;go_wp2_with fail
             go_roundg (K1-1)
             case measure=>have:=bg.o.1;omega
             case rel=>exact⟨s9,ad,ae,al.o,by omega⟩
           ·have el:¬(T:Int)=26:=by omega
            have fu:((T:Int)==26)=false:=by rw[beq_eq_false_iff_ne];exact el
            have aj:X (∀x,T2 ⟨T,av,cs,ms⟩ B j t0 x=[]):=by unfold X;intro x;simp[T2,e3,e2,ab,e5,e6,e26]
            clear e3 e2 e5 e6 e26;have M:X (b8 m a B j t0 jj=N6 L m a B j t0):=by unfold X;rw[a6e,a3G (by rw[<-af.o];exact aj.o),a3G (by rw[<-af.o];exact aj.o)]
            obtain⟨s9,ad,ae,ac,b3⟩:=bd.o w6 wr Bs _ HR.o M.o;have al:X (FlI w0 wr t bw b tg g L c m s0 s9 ad ae (K1-1)):=ac;clear ac M;go_wp2_with fail
            go_roundg (K1-1)
            case measure=>have:=bg.o.1;omega
            case rel=>exact⟨s9,ad,ae,al.o,by omega⟩
     ·have a5:jj=nl:=by omega
      have M:X (b8 m a B j t0 jj=N6 L m a B j t0):=by unfold X;rw[a6e,a5,du.o,bf.o.1]
      obtain⟨s9,ad,ae,ac,b3⟩:=bd.o w6 wr Bs _ HR.o M.o;have al:X (FlI w0 wr t bw b tg g L c m s0 s9 ad ae (K1-1)):=ac;clear ac M;subst a5;go_wp2_with fail
      rw[Exit.noGoto_normal];go_wp2_with fail
      go_roundg (K1-1)
      case measure=>have:=bg.o.1;omega
      case rel=>exact⟨s9,ad,ae,al.o,by omega⟩
   ·by_cases hjl:j<m.l
    ·go_loopw [57] (λc W=>∃jj:Nat,c= .int I jj/\jj<=m.h.length/\F8 w0 W4 W [B2,F,E] t bw b tg g m.c.length L s1 (X5 m a j t0 jj)) (λc _=>m.h.length-(intOf c).toNat)
     case atStart=>exact⟨0,rfl,lk _,by rw[b6u];exact cx.o⟩
     case round=>
      obtain⟨jj,rfl,ec,hR⟩:=hrel;have HR:X (F8 w0 W4 wr [B2,F,E] t bw b tg g m.c.length L s1 (X5 m a j t0 jj)):=hR;clear hR;by_cases hlt:jj<m.h.length
      ·obtain⟨pd,bq,-,ah⟩:=(hE.o.keep HR.o.gb).hand jj hlt;obtain⟨d,hd⟩:=Oe (m.h[jj])
       rw[<-hd]at ah;have HD:X (d=m.h[jj]/\d∈m.h):=⟨hd,by rw[hd];exact List.getElem_mem hlt⟩
       have ev:X (ha=O pd):=bq;subst bq;have y0:wr.cell? (pd.add (jj*4))=O (.int I d.f):=ah 0 _ rfl;have y1:wr.cell? (A ((pd.add (jj*4)).block) ((pd.add (jj*4)).off+1) N)=O (.int I d.to):=by rw[C2 pd (jj*4) 0];exact ah 1 _ rfl
       have y2:wr.cell? (A ((pd.add (jj*4)).block) ((pd.add (jj*4)).off+2) N)=O (.int I d.t):=by rw[C2 pd (jj*4) 1];exact ah 2 _ rfl
       have y3:wr.cell? (A ((pd.add (jj*4)).block) ((pd.add (jj*4)).off+3) N)=O (Z d.c):=by rw[C2 pd (jj*4) 2];exact ah 3 _ rfl
       have dl:wr.cell? (A B2 0 N)=O (.int I a):=HR.o.cell Os HV.o.1;have dm:wr.cell? (A B2 1 N)=O (.int I j):=HR.o.cell Os HV.o.2.1;have dp:wr.cell? (A F 0 N)=O (.int I t0.k):=HR.o.cell Os HV.o.2.2.1;have em:wr.cell? (A F 1 N)=O (Z t0.n):=HR.o.cell Os HV.o.2.2.2.1;have zt:wr.cell? (A t 0 N)=O (U (O (A bw 0 N))):=HR.o.t0;have z5:wr.cell? (A bw 5 N)=O (.int I m.l):=(hE.o.keep HR.o.gb).meth 5 _ rfl;have b':(jj:Int)<(m.h.length:Int):=by omega
       have ed:¬(m.l:Int)<=(j:Int):=by omega
       have bx:X (∀W,ld prog 239 #[Q #[.int I d.f, .int I d.to, .int I d.t, Z d.c], .int I a] W λe w'=>e= Y (G (G0 d a))/\W.grownBy w' N):=λW=>a8s W d a
       have fh:B2<wr.heap.size:=le dl;have gf:F<wr.heap.size:=le dp;have lt:t<wr.heap.size:=le zt;have fi:bw<wr.heap.size:=le z5;have fw:X (j<m.l):=hjl;clear ah hd c7 c0;by_cases hcv:G0 d a=true
       ·have et:X ((d.t,j,t0)∈N6 L m a B j t0):=c3O hjl HD.o.2 hcv
        have HNX:X (X5 m a j t0 (jj+1)=X5 m a j t0 jj++ [(d.t,j,t0)]):=by
         have:=b7C (t:=t0) hjl hlt (by rw[<-HD.o.1];exact hcv);rw[<-HD.o.1]at this;exact this
        rw[hcv]at bx;clear hcv hjl;go_upto_region 6 with fail
        go_quiet (fail)
        go_wp2_with (first|(go_at_call 239;go_loud (refine(bx.o _).mono ?_;rintro e w3 ⟨rfl,b4⟩;obtain⟨f8,f9⟩:=S0 b4;have HGW3:X (wr.grownBy w3 N):=A0 (A0 (A2 wr (H #[.int I d.f, .int I d.to, .int I d.t, Z d.c] 202) N) (F4 _ _ N)) b4))|(go_at_call 266;go_loud (refine(ag.o W4 w3 [B2,F,E] _ (HR.o.keep HGW3.o) (b2j jj) (d.t,j,t0) et.o).mono ?_;rintro e w5 ⟨rfl,e7⟩)))
        go_roundw
        case rel=>exact⟨jj+1,by first|rfl|go_num,by omega,by rw[HNX.o];exact e7⟩
        case measure=>exact a0s
       ·have bj:G0 d a=false:=by simpa using hcv
        have HNX:X (X5 m a j t0 (jj+1)=X5 m a j t0 jj):=b8S (t:=t0) hjl hlt (by rw[<-HD.o.1];exact bj);rw[bj]at bx;clear hcv bj hjl;go_upto_region 6 with fail
        go_quiet (fail)
        go_wp2_with (go_at_call 239;go_loud (refine(bx.o _).mono ?_;rintro e w3 ⟨rfl,b4⟩;have HGW3:=A0 (A0 (A2 wr (H #[.int I d.f, .int I d.to, .int I d.t, Z d.c] 202) N) (F4 _ _ N)) b4))
        go_roundw
        case rel=>exact c7y
        case measure=>exact a0s
      ·have a5:jj=m.h.length:=by omega
       subst a5;go_wp2_with fail
       exact⟨a0M (Fr:=a4j t B2 F E B) rfl,HR.o⟩
    ·go_loopw [57] (λc W=>∃jj:Nat,c= .int I jj/\jj<=m.h.length/\F8 w0 W4 W [B2,F,E] t bw b tg g m.c.length L s1 []) (λc _=>m.h.length-(intOf c).toNat)
     case atStart=>exact⟨0,rfl,lk _,cx.o⟩
     case round=>
      obtain⟨jj,rfl,ec,hR⟩:=hrel;have HR:X (F8 w0 W4 wr [B2,F,E] t bw b tg g m.c.length L s1 (X5 m a j t0 m.h.length)):=by rw[b6v _ hjl];exact hR
      clear hR;by_cases hlt:jj<m.h.length
      ·obtain⟨pd,bq,-,ah⟩:=(hE.o.keep HR.o.gb).hand jj hlt;obtain⟨d,hd⟩:=Oe (m.h[jj])
       rw[<-hd]at ah;have ev:X (ha=O pd):=bq;subst bq;have y0:wr.cell? (pd.add (jj*4))=O (.int I d.f):=ah 0 _ rfl;have y1:wr.cell? (A ((pd.add (jj*4)).block) ((pd.add (jj*4)).off+1) N)=O (.int I d.to):=by rw[C2 pd (jj*4) 0];exact ah 1 _ rfl
       have y2:wr.cell? (A ((pd.add (jj*4)).block) ((pd.add (jj*4)).off+2) N)=O (.int I d.t):=by rw[C2 pd (jj*4) 1];exact ah 2 _ rfl
       have y3:wr.cell? (A ((pd.add (jj*4)).block) ((pd.add (jj*4)).off+3) N)=O (Z d.c):=by rw[C2 pd (jj*4) 2];exact ah 3 _ rfl
       have dm:wr.cell? (A B2 1 N)=O (.int I j):=HR.o.cell Os HV.o.2.1;have zt:wr.cell? (A t 0 N)=O (U (O (A bw 0 N))):=HR.o.t0;have z5:wr.cell? (A bw 5 N)=O (.int I m.l):=(hE.o.keep HR.o.gb).meth 5 _ rfl;have b':(jj:Int)<(m.h.length:Int):=by omega
       have ed:(m.l:Int)<=(j:Int):=by omega
       have fh:B2<wr.heap.size:=le dm;have lt:t<wr.heap.size:=le zt;have fi:bw<wr.heap.size:=le z5;clear ah hd c7 c0 hjl;go_upto_region 6 with fail
       go_quiet (fail)
       go_wp2_with fail
       exact⟨a0M (Fr:=a4j t B2 F E B) rfl,HR.o.keep (A0 (A2 wr (H #[.int I d.f, .int I d.to, .int I d.t, Z d.c] 202) N) (F4 _ _ N))⟩
      ·have a5:jj=m.h.length:=by omega
       clear hjl;subst a5;go_wp2_with fail
       exact⟨a0M (Fr:=a4j t B2 F E B) rfl,HR.o⟩
end Kx
end
end Go.Proofs.YtdhophglnhcjbaaGreatDoor
