/- P14: a part of the proof that the last text tells. -/
import Derived.Test.YtdhophglnhcjbaaGreatDoorP13
set_option linter.all false
set_option maxRecDepth 100000
set_option maxHeartbeats 40000000
open Go.Proofs.Tryz
open Go renaming World->la,Calls->lb
open Go.RowKit renaming intOf->ld
open List renaming mem_singleton->le,getElem?_eq_some_iff->lj
open ByteArray renaming ext->lf
open Nat renaming lt_succ_self->lg,zero_le->lh,le_trans->lk,lt_of_lt_of_le->ll,le_of_ble_eq_true->lm
open Go.World renaming size_alloc->li
open Option renaming none→N,some→O
open Go.IntKind renaming i64→I
open Go.Value renaming int→J,string→Z,slice→V,pointer→U,bool→G,agg→Q
open Go.Ending renaming returned→Y
open Go.RowKit renaming Hid→X
open Go.Obj renaming cells→H
open Go.Addr renaming mk→A
namespace Go.Proofs.YtdhophglnhcjbaaGreatDoor
section
open Go.RowKit Cf
namespace Xa
def Pn(w:la)(b:Nat)(out:List UInt8)(names:List ByteArray):Prop:=
 ∃nv,A4 w b #[Z ⟨out.toArray⟩,nv, G false] 234/\w.ownsRow (b+1) 9 1 nv names.length (names.map Value.string)
theorem c4C(out:List UInt8)(x:UInt8):(⟨out.toArray⟩:ByteArray)++⟨#[x]⟩=⟨(out++ [x]).toArray⟩:=by
 apply lf;simp
variable {w w':World}{out:List UInt8}{names:List ByteArray}
theorem Pn.keep{b:Nat}(h:Pn w b out names)(d:w.grownBy w' N):Pn w' b out names:=by
 obtain⟨i,j,q⟩:=h;exact⟨i,j.keep d Os,q.kept d (by cases i.ownBlock<;>simp)⟩
theorem Pn.lt{b:Nat}(h:Pn w b out names):b<w.heap.size:=by
 obtain⟨j,d,i⟩:=h;exact d.lt
theorem Pn.put{b:Nat}{d:Value}{l:List UInt8}{x:UInt8}(h:A4 w b #[Z ⟨out.toArray⟩,d, G false] 234/\w.ownsRow (b+1) 9 1 d names.length (names.map Value.string))(e:out++ [x]=l)(o:Obj):
 Pn (((w.setCell (A b 0 N) (Z (⟨out.toArray⟩++⟨#[x]⟩))).alloc o).drew) b l names/\w.grownBy (((w.setCell (A b 0 N) (Z (⟨out.toArray⟩++⟨#[x]⟩))).alloc o).drew) (O b):=by
 have i:(w.setCell (A b 0 N) (Z (⟨out.toArray⟩++⟨#[x]⟩))).grownBy (((w.setCell (A b 0 N) (Z (⟨out.toArray⟩++⟨#[x]⟩))).alloc o).drew) N:=A0 (A2 _ _ _) (A7 _ _);refine⟨⟨d,?_,(h.2.kept (A6 w (A b 0 N) _) (.inr (F9 h.2 (lg _)))).kept i (by cases d.ownBlock<;>simp)⟩,L8 (A6 w (A b 0 N) _) i⟩;rw[<-e,<-c4C];exact(h.1.set 0 _).keep i Os
theorem a8Z(W d:la)(z:Int)(T:TypeId)(y:d=W.alloc (H #[.int .u8 z] T)\/d=(W.alloc (H #[.int .u8 z] T)).drew):(convert 193 9 (V (O (A W.heap.size 0 N)) 1 1)).run prog d= .ok (Z ⟨#[UInt8.ofNat z.toNat]⟩) d:=by
 rw[run_convert_bytes_string _ 193 9 5 _ 1 1 underlying193 underlying5 underlying9];refine run_bytesToString _ _ 1 1 [z] (run_loadCells_list (P:=prog) d (A W.heap.size 0 N) [.int .u8 z] (λj v i=> ?_))
 have q:j=0:=by
  have:=(lj.1 i).1;simp at this;omega
 subst q;have:=(A4.new W #[.int .u8 z] T).cell 0 _ rfl;simp at i;subst i;rcases y with rfl|rfl<;>exact this
def zr(m n:Nat):List UInt8:=List.replicate (m-1) 0++ [UInt8.ofNat n]
theorem c4F(w:la)(b:Nat)(out:List UInt8)(names:List ByteArray)(n m:Nat)(L:m=1\/m=2\/m=4)(hn:n<256)(hz:out.length<=1000)(h:X (Pn w b out names)):
 lb prog 111 #[U (O (A b 0 N)), J I n, J I m] w λe w'=>e= Y (.tuple #[])/\w.grownBy w' (O b)/\Pn w' b (out++zr m n) names:=by
 have kc:=λW z T=>a8Z W _ z T (.inr rfl)
 obtain⟨Z,B⟩:=Oe (zr m n)
 have HN:X (∀j,j<Z.length->(out++Z.take (Z.length-(j+1)))++ [if j=0 then UInt8.ofNat n else 0]=out++Z.take (Z.length-j)):=by
  rw[B];rintro j E;rcases L with rfl|rfl|rfl
  ·obtain rfl:j=0:=by simp[zr]at E;omega
   simp[zr]
  ·rcases(by simp[zr]at E;omega:j=0\/j=1)with rfl|rfl<;>simp[zr]
  ·rcases(by simp[zr]at E;omega:j=0\/j=1\/j=2\/j=3)with rfl|rfl|rfl|rfl<;>simp[zr]
 have hL:Z.length=m/\m<=4:=by rw[B];rcases L with rfl|rfl|rfl<;>simp[zr]
 have M:X (out++Z.take Z.length=out++zr m n):=by unfold X;rw[List.take_length,B]
 clear B;go_enter func111,ntmps111;rcases L with rfl|rfl|rfl
 all_goals
  go_wp2_with fail
  go_loopw [6] (λi wr=>∃z:Int,i= J I z/\-1<=z/\z<Z.length/\Pn wr b (out++Z.take (Z.length-(z+1).toNat)) names/\w.grownBy wr (O b)) (λi _=>(ld i+1).toNat)
  case atStart=>exact⟨_,rfl,by omega,by omega,by simpa[hL.1]using h.o,C9 _ _⟩
  case round=>
   obtain⟨z,rfl,ac,ad,y,D⟩:=hrel;obtain⟨j,rfl⟩:∃j:Nat,z=(j:Int)-1:=⟨(z+1).toNat,by omega⟩
   rw[show((j:Int)-1+1).toNat=j by omega]at y;have HG:=A1 D;cases j with
   |zero=>
    go_wp2_with fail
    go_end0;rw[<-M.o];exact⟨rfl,HG.o,y⟩
   |succ j=>
    have C:=HN.o j Oo;have hs:(out++Z.take (Z.length-(j+1))).length<=1010:=by simp;omega
    obtain⟨v,d⟩:=Oe (out++Z.take (Z.length-(j+1)))
    rw[<-d]at y C hs;clear d;obtain⟨nv,q⟩:=y;have c0:=q.1.c0;have z0:=q.1.frozen 0;have aa:=q.1.lt;have ab:wr.heap.size≠b:=by omega
    have S:X (∀x o,x=(if j=0 then UInt8.ofNat n else 0)->Pn (((wr.setCell (A b 0 N) (.string (⟨v.toArray⟩++⟨#[x]⟩))).alloc o).drew) b (out++Z.take (Z.length-j)) names/\w.grownBy (((wr.setCell (A b 0 N) (.string (⟨v.toArray⟩++⟨#[x]⟩))).alloc o).drew) (O b)):=by
     rintro x o rfl;have:=Pn.put q C o;exact⟨this.1,A0 D this.2⟩
    clear q D C;have K:j=0\/j=1\/j=2\/j=3:=by omega
    rcases K with rfl|rfl|rfl|rfl
    all_goals try(exfalso;omega)
    all_goals
     go_wp2_with fail
     go_region
     go_wp2_with fail
     exact⟨⟨_,rfl,by omega,by omega,S.o _ _ (by first|rfl|(rw[Nat.div_eq_of_lt Oo];rfl))⟩,by simp[ld]⟩
def may(w:la)(b k:Nat):Prop:=k=b\/(b<k/\∃cs fr,w.heap[k]? =O (H cs 9 fr))
structure Kp(w w':World)(b:Nat):Prop where
 os:w'.os=w.os
 tape:w'.tape=w.tape
 output:w'.output=w.output
 size:w.heap.size<=w'.heap.size
 block:∀k,k<w.heap.size->¬may w b k->w'.heap[k]? =w.heap[k]?
theorem Kp.trans{v y:la}{b:Nat}(h:Kp w v b)(d:Kp v y b):Kp w y b:=
 ⟨d.os.trans h.os,d.tape.trans h.tape,d.output.trans h.output,lk h.size d.size,λk hk q=>by
  have e:=h.block k hk q;refine(d.block k (ll hk h.size) (λj=>q ?_)).trans e;rcases j with i|⟨i,cs,fr,B⟩
  ·exact .inl i
  ·exact .inr ⟨i,cs,fr,by rw[<-e];exact B⟩⟩
theorem Kp.of{b:Nat}{row:Option Nat}(h:w.grownBy w' row)(i:∀k,row=O k->k<w.heap.size->may w b k):Kp w w' b:=
 ⟨h.os,h.tape,h.output,h.size,λk hk d=>h.block k hk (λe=>d (i k e.symm hk))⟩
theorem Kp.none{b:Nat}(h:w.grownBy w' N):Kp w w' b:=Kp.of h (λ_ e=>by cases e)
theorem Kp.b{b:Nat}(h:w.grownBy w' (O b)):Kp w w' b:=Kp.of h (λk e _=> .inl (by cases e;rfl))
variable {g:Nat}{cs:Array Value}{t:TypeId}
theorem Kp.blk{b:Nat}(h:Kp w w' b)(i:A4 w g cs t)(v:g≠b)(B:t≠9):A4 w' g cs t:=
 (h.block g i.lt (λy=>by
   rcases y with j|⟨_,d,fr,q⟩
   ·exact v j
   ·have:O (Obj.cells cs t (0,0))=O (Obj.cells d 9 fr):=by rw[<-q];exact i.symm
    simp at this;exact B this.2.1)).trans i
def St(w0:la)(b g:Nat)(cs:Array Value)(t:TypeId)(w:la)(out:List UInt8)(names:List ByteArray):Prop:=Pn w b out names/\A4 w g cs t/\Kp w0 w b
theorem St.go{q:la}{b:Nat}{j:List UInt8}{i:List ByteArray}{f:FuncId}{args:Array Value}(s:X (St q b g cs t w out names))(y:g≠b)(B:t≠9)
 (h:X (Pn w b out names)->lb prog f args w λe w'=>e= Y (.tuple #[])/\Kp w w' b/\Pn w' b j i):lb prog f args w λe w'=>e= Y (.tuple #[])/\X (St q b g cs t w' j i):=by
 refine(h s.o.1).mono ?_;rintro e w' ⟨rfl,d,v⟩;exact⟨rfl,v,d.blk s.o.2.1 y B,s.o.2.2.trans d⟩
theorem a2u{b:Nat}(n m:Nat)(j:m=1\/m=2\/m=4)(q:n<256)(v:out.length<=1000)(h:X (Pn w b out names)):
 lb prog 111 #[U (O (A b 0 N)), J I n, J I m] w λe w'=>e= Y (.tuple #[])/\Kp w w' b/\Pn w' b (out++zr m n) names:=by
 refine(c4F w b out names n m j q v h).mono ?_;rintro e w' ⟨rfl,d,i⟩;exact⟨rfl, .b d,i⟩
theorem a9U(w:la)(b:Nat)(out:List UInt8)(names:List ByteArray)(s:ByteArray)(hs:L7 s=true)(hw:∀x∈names,x≠s)(hl:names.length<100)(hz:out.length<=1000)(h:X (Pn w b out names)):
 lb prog 110 #[U (O (A b 0 N)), Z s] w λe w'=>e= Y (.tuple #[])/\Kp w w' b/\Pn w' b (out++zr 1 names.length) (names++ [s]):=by
 have E:s.size<=2048:=by
  simp only[L7,Bool.and_eq_true,decide_eq_true_eq]at hs;omega
 obtain⟨nv,D,K⟩:=h.o;obtain⟨a,kk,rfl⟩:=F7 K;have c1:=D.c1;have z1:=D.frozen 1;have ai:=D.lt
 have HC:X (∀j,j<names.length->∃g,a=O (A g 0 N)/\w.cell? (A g j N)=O (Z (names.getD j ByteArray.empty))):=by
  intro j L;rcases a4z K with⟨-,h2⟩|⟨g,aa,h1,-,hc⟩
  ·rw[h2]at L;cases L
  ·exact⟨g,by injection h1,hc j L⟩
 have C:X (A4 w b #[Z ⟨out.toArray⟩, V a names.length kk, G false] 234/\w.ownsRow (b+1) 9 1 (V a names.length kk) names.length (names.map Value.string)):=⟨D,K⟩
 have HW:=A1 hw;clear D K hw;go_enter func110,ntmps110;go_wp2_with (go_at_call 173;refine(b0T s _ E).mono ?_;rw[hs];rintro e w' ⟨rfl,rfl⟩;try dsimp only)
 go_loop [5] (λi=>∃j:Nat,j<=names.length/\i= J I j) (λi=>names.length-(ld i).toNat)
 case atStart=>exact⟨0,lh _,rfl⟩
 case round=>
  obtain⟨j,L,rfl⟩:=hrel;by_cases hlt:j<names.length
  ·obtain⟨g,rfl,hc⟩:=HC.o j hlt
   have hx:(names[j].toList==s.toList)=false:=by
    cases hb:(names[j].toList==s.toList)with
    |false=>rfl
    |true=>exact absurd (a0U hb) (HW.o _ (List.getElem_mem hlt))
   go_wp2_with fail
   exact⟨⟨j+1,hlt,by go_num⟩,by simp[ld];omega⟩
  ·obtain rfl:j=names.length:=by omega
   obtain⟨i,hi,ae,af,ag⟩:=info_parts a7m;go_wp2_with (at_builtin;go_loud (refine wpList_append_own _ rfl _ _ 22 rfl (b+1) 9 i _ 1 16 underlying22 hi ae af ag rfl Od _ names.length (names.map Value.string) rfl (World.ownsRow.alloc C.o.2 _) (A w.heap.size 0 N) 1 1 [Z s] rfl rfl (O8 w [Z s] 9) (by simp[Value.oneCell']) Om Oo Oi ?_))
   intro v' M q d _;obtain⟨W,k5,rfl⟩:=F7 q;have B:=A0 (A2 w (H #[Z s] 9) _) d;have ac:=F9 C.o.2 (lg _);have v:=C.o.1.keep B (λe=>ac e.symm);have y:M.ownsRow (b+1) 9 1 (V W (names.length+1) k5) (names++ [s]).length ((names++ [s]).map Value.string):=by simpa using q
   have T:X (Pn (M.setCell (A b 1 N) (V W (names.length+1) k5)) b out (names++ [s])):=⟨_,v.set 1 _,y.kept (A6 M (A b 1 N) _) (.inr (F9 y (lg _)))⟩
   have S:X (Kp w (M.setCell (A b 1 N) (V W (names.length+1) k5)) b):=(Kp.of B (λk hk _=>by
    rcases C.o.2.2 with⟨h0,_⟩|⟨g,aa,ah,h0,hb,hg,_⟩
    ·rw[h0]at hk;simp[Value.ownBlock]at hk
    ·rw[h0]at hk;simp only[Value.ownBlock,Option.some.injEq]at hk;subst hk;exact .inr ⟨by omega,_,_,hg⟩)).trans (.b (A6 _ (A b 1 N) _))
   have d1:=v.c1;have y1:=v.frozen 1;clear q d B v y c1 z1 C;go_wp2_with (go_at_call 111;refine(a2u names.length 1 (.inl rfl) Oo hz T).mono ?_;rintro e w' ⟨rfl,ab,ad⟩;try dsimp only)
   go_end0;exact⟨rfl,S.o.trans ab,ad⟩
end Xa
namespace Xa
variable {w:World}{out:List UInt8}{names:List ByteArray}
theorem c4H{b:Nat}(v:out.length<=900)(h:X (Pn w b out names)):
 lb prog 112 #[U (O (A b 0 N)), Q #[J I 1, Z ⟨#[]⟩]] w λe w'=>e= Y (.tuple #[])/\Kp w w' b/\Pn w' b (out++zr 1 1) names:=by
 have j:=h.o.lt;have i:X (St w b w.heap.size #[J I 1, Z ⟨#[]⟩] 98 (w.alloc (H #[J I 1, Z ⟨#[]⟩] 98)) out names):=⟨h.o.keep (A2 _ _ _),A4.new _ _ _, .none (A2 _ _ _)⟩
 clear h;go_enter func112,ntmps112;go_wp2_with (go_at_call 111;refine(St.go i Oo Od (a2u 1 1 (.inl rfl) Od Oo)).mono ?_;rintro e y ⟨rfl,d⟩;obtain⟨q,d1⟩:=d.o.2.1.q2;clear i;try dsimp only)
 go_end0;exact⟨rfl,d.o.2.2,d.o.1⟩
def iB(o:Nat):List UInt8:=if o=0 then [0,0,0,0,7]else [20]
theorem b4D{b:Nat}(o a:Nat)(W:o=0/\a=7\/o=20/\a=0)(hz:out.length<=900)(h:X (Pn w b out names)):
 lb prog 174 #[U (O (A b 0 N)), Q #[J I o, J I a, Z ⟨#[]⟩, Z ⟨#[]⟩]] w λe w'=>e= Y (.tuple #[])/\Kp w w' b/\Pn w' b (out++iB o) names:=by
 have ac:=h.o.lt;have S:X (St w b w.heap.size #[J I o, J I a, Z ⟨#[]⟩, Z ⟨#[]⟩] 120 (w.alloc (H #[J I o, J I a, Z ⟨#[]⟩, Z ⟨#[]⟩] 120)) out names):=⟨h.o.keep (A2 _ _ _),A4.new _ _ _, .none (A2 _ _ _)⟩
 clear h;have aa:o<32:=by omega
 obtain⟨L,v⟩:=Oe (Y9 o)
 have HL:=A1 v
 have ab:o=0/\L.size=1\/o=20/\L.size=0:=by
  rw[v];rcases W with⟨rfl,-⟩|⟨rfl,-⟩
  ·exact .inl ⟨rfl,by decide⟩
  ·exact .inr ⟨rfl,by decide⟩
 have HC:X (∀k (hk:k<L.size),(L[k]'hk).toNat=108):=by
  subst v;rintro k hk;rcases W with⟨rfl,-⟩|⟨rfl,-⟩
  ·obtain rfl:k=0:=by
    have:(Y9 0).size=1:=by decide
    omega
   rfl
  ·have:(Y9 20).size=0:=by decide
   omega
 clear v;go_enter func174,ntmps174
 go_wp2_with (first
  |(go_at_call 258;refine(a2h o _).mono ?_;rintro e w4 ⟨rfl,rfl⟩;rw[<-HL.o];try dsimp only)
  |(go_at_call 111;refine(St.go S Oo Od (a2u o 1 (.inl rfl) Oo Oo)).mono ?_;rintro e M ⟨rfl,q⟩;obtain⟨d0,d1,d2,d3⟩:=q.o.2.1.q4;clear S;try dsimp only))
 go_quiet (fail)
 have d:X (Pn (M.drewN nq) b (out++zr 1 o) names/\Kp w (M.drewN nq) b):=⟨q.o.1.keep (F4 _ _ _),q.o.2.2.trans (.none (F4 _ _ _))⟩
 generalize M.drewN nq=w3 at d⊢;clear q d0 d1 d2 d3;go_wp2_with fail
 go_loopw [5,6,7,8] (λva vc vm i wr=>∃(k:Nat) (z:Int),k<=L.size/\i= J I k/\va= J I z/\vc= Z ⟨#[]⟩/\vm= Z ⟨#[]⟩/\(k<L.size->z=7/\Pn wr b (out++zr 1 0) names)/\(k=L.size->z=0/\Pn wr b (out++iB o) names)/\Kp w wr b) (λ_ _ _ i _=>L.size-(ld i).toNat)
 case atStart=>
  refine⟨0,a,lh _,rfl,rfl,rfl,rfl,λh=> ?_,λh=> ?_,d.o.2⟩
  ·obtain rfl:o=0:=by omega
   exact⟨by omega,d.o.1⟩
  ·obtain rfl:o=20:=by omega
   exact⟨by omega,d.o.1⟩
 case round=>
  clear d;obtain⟨k,z,hk,rfl,rfl,rfl,rfl,B,C,D⟩:=hrel;have T:=A1 D;by_cases hlt:k<L.size
  ·obtain⟨rfl,j⟩:=B hlt;have y:=A1 j;have ad:=HC.o k hlt;obtain rfl:k=0:=by omega
   obtain rfl:o=0:=by omega
   clear B C D j;go_wp2_with (go_at_call 111;refine(a2u 7 4 (.inr (.inr rfl)) Od (by simp[zr];omega) y).mono ?_;rintro e w4 ⟨rfl,E,K⟩;try dsimp only)
   exact⟨⟨1,0,by omega,rfl,rfl,rfl,rfl,λh=>by omega,λ_=>⟨rfl,by simpa[zr,iB]using K⟩,T.o.trans E⟩,by simp[ld];omega⟩
  ·obtain⟨rfl,j⟩:=C Oo;have y:=A1 j;clear B C D j;go_wp2_with fail
   go_end0;exact⟨rfl,T.o,y.o⟩
end Xa
namespace Xa
abbrev Ms(w0:la)(b B:Nat):=St w0 b w0.heap.size #[Z ⟨#[109]⟩, V N 0 0, J I 1, Z ⟨#[]⟩, J I 1, J I 1, V (O (A B 0 N)) 2 2, V N 0 0] 102
def nA:List ByteArray:=[⟨#[65]⟩,⟨#[79,98,106,101,99,116]⟩]
def nM:List ByteArray:=[⟨#[65]⟩,⟨#[79,98,106,101,99,116]⟩,⟨#[109]⟩]
theorem c4G{w:la}{b B:Nat}(hB:X (A4 w B #[J I 0, J I 7, Z ⟨#[]⟩, Z ⟨#[]⟩, J I 20, J I 0, Z ⟨#[]⟩, Z ⟨#[]⟩] 120))(hb:B<b)(h:X (Pn w b [0,1,0,1] nA)):
 lb prog 113 #[U (O (A b 0 N)), Q #[Z ⟨#[109]⟩, V N 0 0, J I 1, Z ⟨#[]⟩, J I 1, J I 1, V (O (A B 0 N)) 2 2, V N 0 0]] w
  λe w'=>e= Y (.tuple #[])/\Kp w w' b/\Pn w' b [0,1,0,1,2,0,1,1,1,0,2,0,0,0,0,7,20,0] nM:=by
 have aa:=h.o.lt;have H1:X (Ms w b B (w.alloc (H #[Z ⟨#[109]⟩, V N 0 0, J I 1, Z ⟨#[]⟩, J I 1, J I 1, V (O (A B 0 N)) 2 2, V N 0 0] 102)) [0,1,0,1] nA):=⟨h.o.keep (A2 _ _ _),A4.new _ _ _, .none (A2 _ _ _)⟩
 have d:w.heap.size≠b:=by omega
 clear h;go_enter func113,ntmps113
 go_wp2_with (first
  |(go_at_call 111;refine(St.go L d Od (a2u 0 1 (.inl rfl) Od Od)).mono ?_;rintro e w3 ⟨rfl,E⟩;clear L d1;try dsimp only)
  |(go_at_call 110;refine(St.go H1 d Od (a9U _ b _ _ _ Od Od Od Od)).mono ?_;rintro e w2 ⟨rfl,L⟩;have d1:=L.o.2.1.c1;clear H1;try dsimp only))
 have E:X (Ms w b B w3 [0,1,0,1,2,0] nM):=E;go_loopw [4] (λi wr=>i= J I 0/\Ms w b B wr [0,1,0,1,2,0] nM) (λ_ _=>0)
 case atStart=>exact⟨rfl,E.o⟩
 case round=>
  clear E;obtain⟨rfl,D⟩:=hrel;have H4:=A1 D;have d1:=D.2.1.c1;have d2:=D.2.1.c2;have d3:=D.2.1.c3;clear D
  go_wp2_with (first
   |(go_at_call 111;refine(St.go T d Od (a2u 2 2 (.inr (.inl rfl)) Od Od)).mono ?_;rintro e w8 ⟨rfl,K⟩;clear T C;try dsimp only)
   |(go_at_call 111;refine(St.go S d Od (a2u 1 1 (.inl rfl) Od Od)).mono ?_;rintro e w7 ⟨rfl,T⟩;have C:=T.o.2.1.c6;clear S d5;try dsimp only)
   |(go_at_call 111;refine(St.go M d Od (a2u 1 1 (.inl rfl) Od Od)).mono ?_;rintro e w6 ⟨rfl,S⟩;have d5:=S.o.2.1.c5;clear M d4;try dsimp only)
   |(go_at_call 112;refine(St.go H4 d Od (c4H Od)).mono ?_;rintro e w5 ⟨rfl,M⟩;have d4:=M.o.2.1.c4;clear H4 d1 d2 d3;try dsimp only))
  have K:X (Ms w b B w8 [0,1,0,1,2,0,1,1,1,0,2] nM):=K;go_loopw [5] (λi wr=>∃j:Nat,i= J I j/\(j=0/\Ms w b B wr [0,1,0,1,2,0,1,1,1,0,2] nM\/j=1/\Ms w b B wr [0,1,0,1,2,0,1,1,1,0,2,0,0,0,0,7] nM\/j=2/\Ms w b B wr [0,1,0,1,2,0,1,1,1,0,2,0,0,0,0,7,20] nM)) (λi _=>2-(ld i).toNat)
  case atStart=>exact⟨0,rfl, .inl ⟨rfl,K.o⟩⟩
  case round=>
   clear K;obtain⟨j,rfl,⟨rfl,h⟩|⟨rfl,h⟩|⟨rfl,h⟩⟩:=hrel
   ·have v:=A1 h;have C:=h.2.1.c6;have g:=h.2.2.blk hB.o Oo Od;obtain⟨g0,g1,g2,g3⟩:=g.q4;clear h g;go_wp2_with (go_at_call 174;refine(St.go v d Od (b4D 0 7 (.inl ⟨rfl,rfl⟩) Od)).mono ?_;rintro e w9 ⟨rfl,q⟩;try dsimp only)
    exact⟨⟨1,rfl, .inr (.inl ⟨rfl,q.o⟩)⟩,by decide⟩
   ·have v:=A1 h;have C:=h.2.1.c6;have g:=h.2.2.blk hB.o Oo Od;have g0:=g.c4;have g1:=g.c5;have g2:=g.c6;have g3:=g.c7;clear h g;go_wp2_with (go_at_call 174;refine(St.go v d Od (b4D 20 0 (.inr ⟨rfl,rfl⟩) Od)).mono ?_;rintro e w9 ⟨rfl,q⟩;try dsimp only)
    exact⟨⟨2,rfl, .inr (.inr ⟨rfl,q.o⟩)⟩,by decide⟩
   ·have v:=A1 h;have C:=h.2.1.c6;have d7:=h.2.1.c7;clear h;go_wp2_with (go_at_call 111;refine(St.go v d Od (a2u 0 1 (.inl rfl) Od Od)).mono ?_;rintro e W ⟨rfl,q⟩;clear v C d7;try dsimp only)
    have q:X (Ms w b B W [0,1,0,1,2,0,1,1,1,0,2,0,0,0,0,7,20,0] nM):=q;go_loopw [6] (λi wr=>i= J I 0/\Ms w b B wr [0,1,0,1,2,0,1,1,1,0,2,0,0,0,0,7,20,0] nM) (λ_ _=>0)
    case atStart=>exact⟨rfl,q.o⟩
    case round=>
     clear q;obtain⟨rfl,h⟩:=hrel;have y:=A1 h;have d7:=h.2.1.c7;clear h;go_wp2_with fail
     go_end0;exact⟨rfl,y.o.2.2,y.o.1⟩
end Xa
namespace Xa
abbrev Ec(w0:la)(g B:Nat):=St w0 (g+1) g #[Z ⟨#[65]⟩, Z ⟨#[79,98,106,101,99,116]⟩, V N 0 0, V (O (A B 0 N)) 1 1] 44
def oE:List UInt8:=[0,1,0,1,2,0,1,1,1,0,2,0,0,0,0,7,20,0]
def A9:Nat->List UInt8
 |0=> [87,49,3]
 |1=> [87,49,3,1,65]
 |2=> [87,49,3,1,65,6,79,98,106,101,99,116]
 |_=> [87,49,3,1,65,6,79,98,106,101,99,116,1,109]
def aF:ByteArray:=⟨(A9 3++oE).toArray⟩
theorem b9X(j:Nat)(h:j<3):((⟨(A9 j).toArray⟩:ByteArray)++⟨#[UInt8.ofNat (nM[j]'h).size]⟩)++nM[j]'h=⟨(A9 (j+1)).toArray⟩/\(nM[j]'h).size<=12:=by
 rcases(by omega:j=0\/j=1\/j=2)with rfl|rfl|rfl<;>exact⟨by apply lf;rfl,lm rfl⟩
theorem c3Q{w j wr:la}{b:Nat}(d:w.grownBy j N)(y:w.heap.size<b)(hk:Kp j wr b):w.grownBy wr N:=
 ⟨hk.os.trans d.os,hk.tape.trans d.tape,hk.output.trans d.output,lk d.size hk.size,λk i _=>
  (hk.block k (ll i d.size) (λv=>by rcases v with q|⟨q,_⟩<;>omega)).trans (d.block k i Os)⟩
theorem c5p{w:la}{B1 B3:Nat}(h1:A4 w B1 #[J I 0, J I 7, Z ⟨#[]⟩, Z ⟨#[]⟩, J I 20, J I 0, Z ⟨#[]⟩, Z ⟨#[]⟩] 120)(h3:A4 w B3 #[Z ⟨#[109]⟩, V N 0 0, J I 1, Z ⟨#[]⟩, J I 1, J I 1, V (O (A B1 0 N)) 2 2, V N 0 0] 102):
 lb prog 65 #[Q #[Z ⟨#[65]⟩, Z ⟨#[79,98,106,101,99,116]⟩, V N 0 0, V (O (A B3 0 N)) 1 1]] w λe w'=>e= Y (.tuple #[Z aF, J I 0])/\w.grownBy w' N:=by
 obtain⟨wa,hwa⟩:=Oe ((w.alloc (H #[Z ⟨#[65]⟩, Z ⟨#[79,98,106,101,99,116]⟩, V N 0 0, V (O (A B3 0 N)) 1 1] 44)).alloc (H #[Z ⟨#[]⟩, V N 0 0, G false] 234))
 have HG0:X (w.grownBy wa N):=by unfold X;rw[hwa];exact A0 (A2 _ _ _) (A2 _ _ _)
 have H1:X (Ec wa w.heap.size B3 wa [] []):=by
  refine⟨?_,?_, .none (C9 _ _)⟩
  all_goals rw[hwa]
  ·have:=A4.new (w.alloc (H #[Z ⟨#[65]⟩, Z ⟨#[79,98,106,101,99,116]⟩, V N 0 0, V (O (A B3 0 N)) 1 1] 44)) #[Z ⟨#[]⟩, V N 0 0, G false] 234;rw[li]at this;exact⟨_,this,World.ownsRow_nil _ _ _ _⟩
  ·exact(A4.new w _ _).keep (A2 _ _ N) Os
 have L1:=h1.lt;have L3:=h3.lt;have B1':=A1 (λwr (h:Kp wa wr (w.heap.size+1))=>h.blk (h1.keep HG0.o Os) Oo Od);have B3':=A1 (λwr (h:Kp wa wr (w.heap.size+1))=>h.blk (h3.keep HG0.o Os) Oo Od);have hne:w.heap.size≠w.heap.size+1:=by omega
 clear h1 h3;go_enter func65,ntmps65;go_wp2_with fail
 rw[<-hwa];refine(St.go H1 hne Od (a9U _ _ _ _ _ Od Od Od Od)).mono ?_;rintro e w2 ⟨rfl,H2⟩;have d1:=H2.o.2.1.c1;clear H1 hwa;dsimp only
 go_wp2_with (first
  |(go_at_call 111;refine(St.go H3 hne Od (a2u 0 1 (.inl rfl) Od Od)).mono ?_;rintro e w4 ⟨rfl,H4⟩;clear H3 d2;try dsimp only)
  |(go_at_call 110;refine(St.go H2 hne Od (a9U _ _ _ _ _ Od Od Od Od)).mono ?_;rintro e w3 ⟨rfl,H3⟩;have d2:=H3.o.2.1.c2;clear H2 d1;try dsimp only))
 have H4:X (Ec wa w.heap.size B3 w4 [0,1,0] nA):=H4;go_loopw [5] (λi wr=>i= J I 0/\Ec wa w.heap.size B3 wr [0,1,0] nA) (λ_ _=>0)
 case atStart=>exact⟨rfl,H4.o⟩
 case round=>
  clear H4;obtain⟨rfl,h⟩:=hrel;have H5:=A1 h;have d2:=h.2.1.c2;have d3:=h.2.1.c3;clear h;go_wp2_with (go_at_call 111;refine(St.go H5 hne Od (a2u 1 1 (.inl rfl) Od Od)).mono ?_;rintro e w6 ⟨rfl,H6⟩;clear H5 d2 d3;try dsimp only)
  have H6:X (Ec wa w.heap.size B3 w6 [0,1,0,1] nA):=H6;go_loopw [6] (λi wr=>i= J I 0/\Ec wa w.heap.size B3 wr [0,1,0,1] nA\/i= J I 1/\Ec wa w.heap.size B3 wr oE nM) (λi _=>1-(ld i).toNat)
  case atStart=>exact .inl ⟨rfl,H6.o⟩
  case round=>
   clear H6;obtain⟨rfl,h⟩|⟨rfl,h⟩:=hrel
   ·have H7:=A1 h;have HB:X _:=B1'.o wr h.2.2;have g:=B3'.o wr h.2.2;have d3:=h.2.1.c3;obtain⟨g0,g1,g2,g3,g4,g5,g6,g7⟩:=g.q8;clear h g;go_wp2_with (go_at_call 113;refine(St.go H7 hne Od (c4G HB Oo)).mono ?_;rintro e w8 ⟨rfl,H8⟩;try dsimp only)
    exact⟨.inr ⟨rfl,H8.o⟩,by decide⟩
   ·have HG:=A1 (c3Q HG0.o Oo h.2.2);have d3:=h.2.1.c3;obtain⟨nv,hP,hO⟩:=h.1;have hO:wr.ownsRow (w.heap.size+1+1) 9 1 nv 3 (nM.map Value.string):=hO;obtain⟨a,kk,rfl⟩:=F7 hO
    have HC:X (∀j (hj:j<3),∃g,a=O (A g 0 N)/\wr.cell? (A g j N)=O (Z (nM[j]'hj))):=by
     intro j hj;rcases a4z hO with⟨-,h2⟩|⟨g,cap,h1,-,hc⟩
     ·cases h2
     ·exact⟨g,by injection h1,by rw[hc j hj];rcases(by omega:j=0\/j=1\/j=2)with rfl|rfl|rfl<;>rfl⟩
    obtain⟨out,ho⟩:∃out:ByteArray,out=⟨oE.toArray⟩:=⟨_,rfl⟩
    rw[<-ho]at hP;have HP:=A1 hP;have HO:=A1 ho;have hos:out.size=18:=by rw[ho];rfl
    clear ho h hO;obtain⟨g0,g1,g2⟩:=hP.q3;have hbr:=hP.lt;have hne:wr.heap.size≠w.heap.size+1:=by omega
    have kc:=λW z T=>a8Z W _ z T (.inr rfl)
    have kc0:=λW z T=>a8Z W _ z T (.inl rfl)
    clear hP;go_wp2_with fail
    have HA:X (A4 (wr.alloc (H #[.int .u8 3] 5)) (w.heap.size+1) #[Z out, V a 3 kk, G false] 234):=HP.o.keep (A2 _ _ N) Os;have HGA:X (w.grownBy (wr.alloc (H #[.int .u8 3] 5)) N):=A0 HG.o (A2 _ _ _)
    have HCA:X (∀j (hj:j<3),∃g,a=O (A g 0 N)/\(wr.alloc (H #[.int .u8 3] 5)).cell? (A g j N)=O (Z (nM[j]'hj))):=λj hj=>by
     obtain⟨g,h1,h2⟩:=HC.o j hj;exact⟨g,h1,(A2 wr _ N).cell h2 Os⟩
    clear HP HG HC g0 g1 g2 hbr hne kc0;rw[show(⟨#[87,49]⟩:ByteArray)++⟨#[3]⟩=⟨(A9 0).toArray⟩from by apply lf;rfl];go_loopw [7,8] (λsv i wx=>∃j:Nat,j<=3/\i= J I j/\sv= Z ⟨(A9 j).toArray⟩/\A4 wx (w.heap.size+1) #[Z out, V a 3 kk, G false] 234/\w.grownBy wx N/\∀j (hj:j<3),∃g,a=O (A g 0 N)/\wx.cell? (A g j N)=O (Z (nM[j]'hj))) (λ_ i _=>3-(ld i).toNat)
    case atStart=>exact⟨0,lh _,rfl,rfl,HA.o,HGA.o,HCA.o⟩
    case round=>
     clear HA HGA HCA;obtain⟨j,hj,rfl,rfl,hP,hg,hC⟩:=hrel;have HP:=A1 hP;have HG:=A1 hg;have HC:=A1 hC;obtain⟨g0,g1⟩:=hP.q2;have hbr:=hP.lt;have hne:wr.heap.size≠w.heap.size+1:=by omega
     have hcs:(⟨(A9 j).toArray⟩:ByteArray).size<=14:=by
      rcases(by omega:j=0\/j=1\/j=2\/j=3)with rfl|rfl|rfl|rfl<;>exact lm rfl
     obtain⟨cur,hcur⟩:∃cur:ByteArray,cur=⟨(A9 j).toArray⟩:=⟨_,rfl⟩
     rw[<-hcur]at hcs⊢;clear hP hg hC;by_cases hlt:j<3
     ·obtain⟨g,rfl,hc⟩:=HC.o j hlt;have hp:=b9X j hlt;rw[<-hcur]at hp;obtain⟨nm,hnm⟩:=Oe (nM[j]'hlt)
      rw[<-hnm]at hc hp;have HNX:=A1 hp.1;have hns:=hp.2;have hgl:g<wr.heap.size:=World.block_lt_of_cell? _ _ hc;have hgn:wr.heap.size≠g:=by omega
      clear hcur hnm hp;go_wp2_with fail
      go_region
      go_wp2_with fail
      have hx:wr.grownBy (wr.alloc (H #[.int .u8 nm.size] 5)).drew N:=A0 (A2 _ _ _) (A7 _ _)
      exact⟨⟨j+1,hlt,by go_num,by rw[HNX.o],HP.o.keep hx Os,A0 HG.o hx,λi hi=>by
       obtain⟨g,h1,h2⟩:=HC.o i hi;exact⟨g,h1,hx.cell h2 Os⟩⟩,by simp[ld];omega⟩
     ·obtain rfl:j=3:=by omega
      have HE:X (cur++out=aF):=by
       unfold X;rw[hcur,HO.o];apply lf;rfl
      clear hcur;go_wp2_with fail
      go_ret2
      exact⟨by rw[HE.o];rfl,HG.o⟩
end Xa
open Go.RowKit Go.Shelf Cf
namespace Kx
def V1:Me:=⟨⟨#[109]⟩,[],O4,1,1,[⟨0,7,D4,D4⟩,⟨20,0,D4,D4⟩],[]⟩
def aCl:Cl:=⟨⟨#[65]⟩,D5,[],[V1]⟩
abbrev aL:List Cl:=B6++ [aCl]
theorem c3z:Xa.aF.size<=maxLen:=by decide
theorem c4x:I9 Xa.aF= .ok aCl:=by kernel_rfl
theorem b4q:I9 ⟨#[87]⟩= .error (2,1):=by kernel_rfl
theorem c4w:a8 [aCl]= .ok ():=by kernel_rfl
theorem c2C:e8 aL V1=N:=by kernel_rfl
theorem c5e:X6 aL V1 0 0=[(1,1)]:=by kernel_rfl
theorem c5d:X6 aL V1 1 1=[]:=by kernel_rfl
theorem c5g:N5 aL V1 0 0=true:=by kernel_rfl
theorem c5f:N5 aL V1 1 1=true:=by kernel_rfl
theorem c3B:C8 aL ⟨#[65]⟩=O 9:=by kernel_rfl
theorem a4C{a h:Nat}(d:Cf.G2 aL V1 a h):(a=0/\h=0)\/(a=1/\h=1):=
 a4T (S:=λa h=>(a=0/\h=0)\/(a=1/\h=1)) ⟨.inl ⟨rfl,rfl⟩,by
  rintro a h (⟨rfl,rfl⟩|⟨rfl,rfl⟩) p hp
  ·rw[c5e]at hp;rw[le.1 hp];exact .inr ⟨rfl,rfl⟩
  ·rw[c5d]at hp;cases hp⟩ d
theorem c2B(a:Nat):¬a0F aL V1 a:=by
 rintro(⟨h,hr,hb⟩|⟨⟨d,hd,-⟩,-,-⟩|⟨h,k,hne,h1,h2⟩)
 ·rcases a4C hr with⟨rfl,rfl⟩|⟨rfl,rfl⟩
  ·rw[c5g]at hb;cases hb
  ·rw[c5f]at hb;cases hb
 ·cases hd
 ·have i:=a4C h1;have j:=a4C h2;omega
def aS(a:Nat):List Ty:=if a=0 then [C5 ⟨#[65]⟩]else [C5 ⟨#[65]⟩,O4]
theorem b4z:D9 aL (C5 ⟨#[65]⟩):=⟨by simp[C5],by simp only[C5];rw[if_pos (.inl trivial)];exact⟨9,c3B⟩⟩
theorem c4u:D9 aL O4:=a3H Oo Oo Oo
theorem c4v:Sol aL ⟨#[65]⟩ V1 aS:=by
 refine⟨λa h d=> ?_,λa h d t j=> ?_,?_,λa h d q i=> ?_⟩
 ·rcases a4C d with⟨rfl,rfl⟩|⟨rfl,rfl⟩<;>rfl
 ·rcases a4C d with⟨rfl,rfl⟩|⟨rfl,rfl⟩
  ·rw[le.1 j];exact b4z
  ·rcases List.mem_cons.1 j with rfl|j
   ·exact b4z
   ·rw[le.1 j];exact c4u
 ·have e:T5 ⟨#[65]⟩ V1=aS 0:=by kernel_rfl
  rw[e];exact a4u _ _
 ·rcases a4C d with⟨rfl,rfl⟩|⟨rfl,rfl⟩
  ·have e:R4 aL V1 0=[(1,X9 aL V1 (A5 V1 0))]:=by kernel_rfl
   rw[e]at i;rw[le.1 i];have v:X9 aL V1 (A5 V1 0) (aS 0)=aS 1:=by kernel_rfl
   show K5 aL (X9 aL V1 (A5 V1 0) (aS 0)) (aS 1);rw[v];exact a4u _ _
  ·have e:R4 aL V1 1=[]:=by kernel_rfl
   rw[e]at i;cases i
theorem c4y{er at_:Nat}(h:N3 aL ⟨#[65]⟩ V1 er at_):er=0:=by
 unfold N3 at h;rw[c2C]at h;obtain⟨f,E,h⟩:=h;cases f with
 |some a=>exact absurd E.2.1 (c2B a)
 |none=>
  obtain⟨T,B,⟨k,-,-,q,d,-⟩|⟨D,-⟩⟩:=h
  ·exfalso;have C:=B.sol.shape _ _ q;have j:=B.least aS c4v _ _ q;rcases a4C q with⟨rfl,rfl⟩|⟨rfl,rfl⟩
   ·obtain⟨x,v⟩:=len1 (l:=T 0) C;rw[v]at d;have:Z5 aL V1 (A5 V1 0) [] [x]=true:=by rfl
    have i:Z5 aL V1 (A5 V1 0) [] [x]=false:=d;rw[this]at i;cases i
   ·obtain⟨x,y,v⟩:=len2 (l:=T 1) C;rw[v]at d j;have K:C4 aL y O4=true:=j.2 1 Os;have:Z5 aL V1 (A5 V1 1) [y] [x]=((C4 aL y O4&&true)&&true):=by rfl
    have i:Z5 aL V1 (A5 V1 1) [y] [x]=false:=d;rw[this,K]at i;cases i
  ·exact D
variable {F:ByteArray}{B0:Nat}{e:Ending}{w':World}
theorem c3A(S:I9 F= .ok aCl)(h:a5A B0 [F] e w'):∃P,e= Y (.tuple #[U (O (A P 0 N)), J I 0, Q #[J I 0, J I 0, J I 0]]):=by
 rcases h with⟨i,-⟩|⟨-,j,hj,C,hd,-⟩|⟨-,M,T,hd,h⟩
 ·simp at i
 ·have:j=0:=by simpa using hj
  subst this;have q:I9 F= .error C:=hd;rw[S]at q;cases q
 ·obtain⟨c,rfl⟩:∃c,M=[c]:=by
   cases M with
   |nil=>simp at T
   |cons c l=>cases l with
    |nil=>exact⟨c,rfl⟩
    |cons d l=>simp at T
  have hc:c=aCl:=by
   have i:I9 F= .ok c:=hd 0 Os;rw[S]at i;exact(Except.ok.inj i).symm
  subst hc;rcases h with⟨C,D,-⟩|⟨-,C,f,k,W,hA,h⟩
  ·rw[c4w]at D;cases D
  ·have E:C=0:=by
    rcases hA with⟨y,i,h2,h3,-⟩|⟨E,-⟩
    ·have K:f=0:=by simpa using i
     subst K
     have L:k=0:=by
      have:k<1:=h2;omega
     subst L;exact c4y h3
    ·exact E
   rcases h with⟨y,-⟩|⟨-,P,B,b,v,m1,m2,m3,qf,D,-⟩
   ·exact absurd E y
   ·exact⟨P,D⟩
theorem c2F(h:a5A B0 [⟨#[87]⟩] e w'):e= Y (.tuple #[U N, J I 2, Q #[J I 0, J I 0, J I 1]]):=by
 rcases h with⟨i,-⟩|⟨-,j,B,q,hd,-,y⟩|⟨-,v,C,hd,h⟩
 ·simp at i
 ·have:j=0:=by simpa using B
  subst this;have d:I9 ⟨#[87]⟩= .error q:=hd;rw[b4q]at d;cases d;exact y
 ·have i:I9 ⟨#[87]⟩= .ok (cl v 0):=hd 0 Os;rw[b4q]at i;cases i
theorem b4d{W:la}{B:Nat}{t:TypeId}(d:A4 W B #[Z F] t):C0 W W.heap.size 1 X3 (O (A B 0 N)) [F]:=λj q=>by
 have:j=0:=by simpa using q
 subst this;refine⟨(A B 0 N),rfl,d.lt,λr u i=> ?_⟩
 have v:r=0:=by
  have:=(lj.1 i).1;simpa[X3]using this
 subst v;exact d.cell 0 u (by simpa[X3]using i)
theorem c5o(w:la)(hS:X (Shp w))(hBin:X (Bin w)):
 lb prog 33 #[] w λe w'=>e= Y (G true)/\w.grownBy w' N:=by
 obtain⟨F,hF⟩:=Oe Xa.aF
 have HLA:X (∀(W:la) (B:Nat),w.grownBy W N->A4 W B #[Z F] 9->lb prog 31 #[V (O (A B 0 N)) 1 1, G true] W λe w'=>(∃P,e= Y (.tuple #[U (O (A P 0 N)), J I 0, Q #[J I 0, J I 0, J I 0]]))/\W.grownBy w' N):=λW B hW hb=>by
  have h:=a8C W W.heap.size (Nat.le_refl _) [F] (O (A B 0 N)) 1 (b4d hb) (λs hs=>by rw[le.1 hs,hF];exact c3z) (hS.o.keep hW Os) (hBin.o.keep hW);refine h.mono ?_;rintro e w' ⟨hg,hA⟩;exact⟨c3A (by rw[hF];exact c4x) hA,hg⟩
 have HLW:X (∀(W:la) (B:Nat),w.grownBy W N->A4 W B #[Z ⟨#[87]⟩] 9->lb prog 31 #[V (O (A B 0 N)) 1 1, G true] W λe w'=>e= Y (.tuple #[U N, J I 2, Q #[J I 0, J I 0, J I 1]])/\W.grownBy w' N):=λW B hW hb=>by
  have h:=a8C W W.heap.size (Nat.le_refl _) [⟨#[87]⟩] (O (A B 0 N)) 1 (b4d hb) (λs hs=>by rw[le.1 hs];exact b4F Od) (hS.o.keep hW Os) (hBin.o.keep hW);refine h.mono ?_;rintro e w' ⟨hg,hA⟩;exact⟨c2F hA,hg⟩
 clear hS hBin;go_enter func33,ntmps33;obtain⟨w3,hw3⟩:=Oe (((w.alloc (H #[J I 0, J I 7, Z ⟨#[]⟩, Z ⟨#[]⟩, J I 20, J I 0, Z ⟨#[]⟩, Z ⟨#[]⟩] 120)).alloc (H #[Z ⟨#[109]⟩, V N 0 0, J I 1, Z ⟨#[]⟩, J I 1, J I 1, V (O (A w.heap.size 0 N)) 2 2, V N 0 0] 102)).alloc (H #[Z ⟨#[109]⟩, V N 0 0, J I 1, Z ⟨#[]⟩, J I 1, J I 1, V (O (A w.heap.size 0 N)) 2 2, V N 0 0] 102))
 have hb1:=((A4.new w #[J I 0, J I 7, Z ⟨#[]⟩, Z ⟨#[]⟩, J I 20, J I 0, Z ⟨#[]⟩, Z ⟨#[]⟩] 120).keep (A2 _ (H #[Z ⟨#[109]⟩, V N 0 0, J I 1, Z ⟨#[]⟩, J I 1, J I 1, V (O (A w.heap.size 0 N)) 2 2, V N 0 0] 102) N) B9).keep (A2 _ (H #[Z ⟨#[109]⟩, V N 0 0, J I 1, Z ⟨#[]⟩, J I 1, J I 1, V (O (A w.heap.size 0 N)) 2 2, V N 0 0] 102) N) B9;have hb3:=A4.new ((w.alloc (H #[J I 0, J I 7, Z ⟨#[]⟩, Z ⟨#[]⟩, J I 20, J I 0, Z ⟨#[]⟩, Z ⟨#[]⟩] 120)).alloc (H #[Z ⟨#[109]⟩, V N 0 0, J I 1, Z ⟨#[]⟩, J I 1, J I 1, V (O (A w.heap.size 0 N)) 2 2, V N 0 0] 102)) #[Z ⟨#[109]⟩, V N 0 0, J I 1, Z ⟨#[]⟩, J I 1, J I 1, V (O (A w.heap.size 0 N)) 2 2, V N 0 0] 102;rw[<-hw3]at hb1 hb3;rw[li,li]at hb3;have HG3:X (w.grownBy w3 N):=by unfold X;rw[hw3];exact A0 (A0 (A2 _ _ _) (A2 _ _ _)) (A2 _ _ _)
 go_wp2_with fail
 rw[<-hw3];have h:=Xa.c5p hb1 hb3;rw[<-hF]at h;refine h.mono ?_;clear hb1 hb3 hF hw3 h;rintro e w4 ⟨rfl,hg4⟩;have HG4:=A1 (A0 HG3.o hg4);have HL5:=HLA.o (w4.alloc (H #[Z F] 9)) w4.heap.size (A0 HG4.o (A2 _ _ N)) (A4.new w4 _ _);have HL5:=A1 HL5;clear hg4;go_upto_region 4 with(go_at_call 31;go_loud (refine HL5.o.mono ?_;rintro e w5 ⟨⟨P,rfl⟩,hg5⟩))
 have HG5:=A1 (A0 (A0 HG4.o (A2 _ _ N)) hg5);have hg6:=A0 HG5.o (A2 w5 (H #[J I 0, J I 0, J I 0] 78) N);generalize w5.alloc (H #[J I 0, J I 0, J I 0] 78)=w6 at hg6⊢;have HG6:=A1 hg6;have HL7:=A1 (HLW.o (w6.alloc (H #[Z ⟨#[87]⟩] 9)) w6.heap.size (A0 HG6.o (A2 _ _ N)) (A4.new w6 _ _));clear hg5 hg6;go_wp2_with (go_at_call 31;go_loud (refine HL7.o.mono ?_;rintro e w7 ⟨rfl,hg7⟩))
 have hg8:=A0 (A0 (A0 HG6.o (A2 _ _ N)) hg7) (A2 w7 (H #[J I 0, J I 0, J I 1] 78) N);go_ret;exact⟨rfl,hg8⟩
end Kx
end
end Go.Proofs.YtdhophglnhcjbaaGreatDoor
