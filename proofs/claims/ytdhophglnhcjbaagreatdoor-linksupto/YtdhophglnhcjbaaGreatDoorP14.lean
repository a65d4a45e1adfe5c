/- P14: a part of the proof that the last text tells. -/
import Derived.Test.YtdhophglnhcjbaaGreatDoorP09
import Derived.Test.YtdhophglnhcjbaaGreatDoorP11
import Derived.Test.YtdhophglnhcjbaaGreatDoorP13
set_option linter.all false
namespace Go.Proofs.YtdhophglnhcjbaaGreatDoor
namespace Cf
def sq(s:List (List Bool))(a h:Nat):Bool:=(s.getD a []).getD h false
def wq(s:List Bool)(a:Nat):Bool:=s.getD a false
def f9(s:List (List Bool))(a h:Nat):List (List Bool):=s.set a ((s.getD a []).set h true)
theorem a2T{α:Type}(l:List α)(n j:Nat)(x d:α):(l.set n x).getD j d=if n=j∧j<l.length then x else l.getD j d:=by
 simp only[List.getD_eq_getElem?_getD,List.getElem?_set];by_cases h:n=j
 ·subst h;by_cases h2:n<l.length
  ·simp[h2]
  ·simp[h2]
 ·simp[h]
theorem a9W(s:List (List Bool))(a h b:Nat):((f9 s a h).getD b []).length=(s.getD b []).length:=by
 unfold f9;rw[a2T];split
 ·rename_i e;rw[List.length_set,e.1]
 ·rfl
theorem a9X(s:List (List Bool))(a h:Nat):(f9 s a h).length=s.length:=by unfold f9;simp
variable {a h:Nat}
theorem a5M{s:List (List Bool)}(ha:a<s.length)(hh:h<(s.getD a []).length)(b k:Nat):sq (f9 s a h) b k=if a=b∧h=k then true else sq s b k:=by
 unfold sq f9;rw[a2T];by_cases e:a=b
 ·subst e;rw[if_pos ⟨rfl,ha⟩,a2T];by_cases e2:h=k
  ·subst e2;rw[if_pos ⟨rfl,hh⟩,if_pos ⟨rfl,rfl⟩]
  ·rw[if_neg (by simp[e2]),if_neg (by simp[e2])]
 ·rw[if_neg (by simp[e]),if_neg (by simp[e])]
theorem a5N{s:List (List Bool)}(ha:a<s.length)(hh:h<(s.getD a []).length){b k:Nat}(hq:sq s b k=true):sq (f9 s a h) b k=true:=by
 rw[a5M ha hh];split<;>simp[hq]
def a4O(s:List (List Bool)):Nat:=(s.map fun r=>r.countP (fun x=> !x)).sum
theorem b4R(r:List Bool)(h:Nat)(hh:h<r.length)(hf:r.getD h false=false):(r.set h true).countP (fun x=> !x)+1=r.countP (fun x=> !x):=by
 induction r generalizing h with
 |nil=>simp at hh
 |cons x r ih=>
  cases h with
  |zero=>
   have:x=false:=by simpa using hf
   subst this;simp
  |succ h=>
   have h1:=ih h (by simpa using hh) (by simpa using hf);rw[List.set_cons_succ,List.countP_cons,List.countP_cons];omega
theorem b2Z{s:List (List Bool)}(ha:a<s.length)(hh:h<(s.getD a []).length)(hf:sq s a h=false):a4O (f9 s a h)+1=a4O s:=by
 unfold a4O f9;induction s generalizing a with
 |nil=>simp at ha
 |cons r s ih=>
  cases a with
  |zero=>
   have:=b4R r h (by simpa using hh) (by simpa[sq]using hf);simp only[List.getD_cons_zero,List.set_cons_zero,List.map_cons,List.sum_cons];omega
  |succ a=>
   have:=ih (a:=a) (by simpa using ha) (by simpa using hh) (by simpa[sq]using hf);simp only[List.getD_cons_succ,List.set_cons_succ,List.map_cons,List.sum_cons]at this⊢;omega
structure Wk where
 seen:List (List Bool)
 wrong:List Bool
 heights:List Int
 work:List (Nat×Nat)
structure U4(l:List Cl)(m:Me)(s:Wk):Prop where
 len1:s.seen.length=m.code.length
 row:∀a,a<m.code.length→(s.seen.getD a []).length=m.stack+1
 len2:s.wrong.length=m.code.length
 len3:s.heights.length=m.code.length
 snd:∀a h,sq s.seen a h=true→G3 l m a h
 wrs:∀a,wq s.wrong a=true→a0e l m a
 none_:∀a,s.heights.getD a (-1)= -1→∀h,sq s.seen a h=false
 some_:∀a,s.heights.getD a (-1)≠-1→∃h:Nat,s.heights.getD a (-1)=h∧sq s.seen a h=true
 two:∀a h k,h≠k→sq s.seen a h=true→sq s.seen a k=true→wq s.wrong a=true
 work:∀p∈s.work,sq s.seen p.1 p.2=true
def a3W(l:List Cl)(m:Me)(s:Wk)(a h:Nat):Prop:=
 (∀p∈a0m l m a h,sq s.seen p.1 p.2=true)∧(Y5 l m a h=false→wq s.wrong a=true)∧((∃d∈m.handlers,O8 d a=true)→m.stack=0→wq s.wrong a=true)
def j5(l:List Cl)(m:Me)(s:Wk)(cur:Option (Nat×Nat)):Prop:=∀a h,sq s.seen a h=true→(a,h)∈s.work∨cur=some (a,h)∨a3W l m s a h
structure a0H(s t:Wk):Prop where
 seen:∀a h,sq s.seen a h=true→sq t.seen a h=true
 wrong:∀a,wq s.wrong a=true→wq t.wrong a=true
theorem a0H.refl(s:Wk):a0H s s:=⟨fun _ _ h=>h,fun _ h=>h⟩
variable {s t:Wk}
theorem a0H.trans{u:Wk}(h1:a0H s t)(h2:a0H t u):a0H s u:=⟨fun a h e=>h2.seen a h (h1.seen a h e),fun a e=>h2.wrong a (h1.wrong a e)⟩
variable {l:List Cl}
variable {m:Me}
theorem a3W.up(hu:a0H s t)(hd:a3W l m s a h):a3W l m t a h:=
 ⟨fun p hp=>hu.seen _ _ (hd.1 p hp),fun e=>hu.wrong _ (hd.2.1 e),fun e e2=>hu.wrong _ (hd.2.2 e e2)⟩
theorem a3V{s:List Bool}(ha:a<s.length)(b:Nat):wq (s.set a true) b=if a=b then true else wq s b:=by
 unfold wq;rw[a2T];by_cases e:a=b
 ·subst e;simp[ha]
 ·simp[e]
def T7(s:Wk)(a h:Nat):Wk:=
 if sq s.seen a h then s else
  {seen:=f9 s.seen a h,work:=s.work++ [(a,h)]
   heights:=if s.heights.getD a (-1)= -1 then s.heights.set a h else s.heights
   wrong:=if s.heights.getD a (-1)= -1 then s.wrong else s.wrong.set a true}
def a1u(s:Wk)(a:Nat):Wk:={s with wrong:=s.wrong.set a true}
def a0G(s:Wk):Nat:=2*a4O s.seen+s.work.length
theorem a5k(hs:U4 l m s)(ha:a<m.code.length)(hh:h≤m.stack):a0H s (T7 s a h):=by
 unfold T7;split
 ·exact a0H.refl s
 ·have h1:a<s.seen.length:=by rw[hs.len1];exact ha
  have h2:h<(s.seen.getD a []).length:=by rw[hs.row a ha];omega
  refine⟨fun b k hq=>a5N h1 h2 hq,fun b hq=> ?_⟩;dsimp only;split
  ·exact hq
  ·rw[a3V (by rw[hs.len2];exact ha)];split<;>simp[hq]
theorem a6s(hs:U4 l m s)(ha:a<m.code.length)(hh:h≤m.stack):sq (T7 s a h).seen a h=true:=by
 unfold T7;split
 ·assumption
 ·have h1:a<s.seen.length:=by rw[hs.len1];exact ha
  have h2:h<(s.seen.getD a []).length:=by rw[hs.row a ha];omega
  dsimp only;rw[a5M h1 h2];simp
theorem a8T(hs:U4 l m s)(ha:a<m.code.length)(hh:h≤m.stack):a0G (T7 s a h)≤a0G s:=by
 unfold T7;split
 ·exact Nat.le_refl _
 ·rename_i hn;have h1:a<s.seen.length:=by rw[hs.len1];exact ha
  have h2:h<(s.seen.getD a []).length:=by rw[hs.row a ha];omega
  have:=b2Z h1 h2 (by simpa using hn);unfold a0G;simp only[List.length_append,List.length_cons,List.length_nil];omega
theorem a8G(hs:U4 l m s)(ha:a<m.code.length)(hh:h≤m.stack)(hr:G3 l m a h):U4 l m (T7 s a h):=by
 unfold T7;split
 ·exact hs
 ·rename_i hn;have h1:a<s.seen.length:=by rw[hs.len1];exact ha
  have h2:h<(s.seen.getD a []).length:=by rw[hs.row a ha];omega
  have hq:=a5M h1 h2;have h3:a<s.wrong.length:=by rw[hs.len2];exact ha
  have h4:a<s.heights.length:=by rw[hs.len3];exact ha
  by_cases hz:s.heights.getD a (-1)= -1
  ·rw[if_pos hz,if_pos hz];have hno:=hs.none_ a hz;refine⟨by rw[a9X];exact hs.len1,fun b hb=>by rw[a9W];exact hs.row b hb,hs.len2,by rw[List.length_set];exact hs.len3,fun b k hk=> ?_,hs.wrs,fun b hb k=> ?_,fun b hb=> ?_,fun b k j hne hk hj=> ?_,fun p hp=> ?_⟩
   ·rw[hq]at hk;split at hk
    ·rename_i e;rw[←e.1,←e.2];exact hr
    ·exact hs.snd b k hk
   ·dsimp only at hb⊢;rw[a2T]at hb;by_cases e:a=b
    ·subst e;rw[if_pos ⟨rfl,h4⟩]at hb;omega
    ·rw[if_neg (by simp[e])]at hb;rw[hq,if_neg (by simp[e])];exact hs.none_ b hb k
   ·dsimp only at hb⊢;rw[a2T]at hb⊢;by_cases e:a=b
    ·subst e;rw[if_pos ⟨rfl,h4⟩];exact⟨h,rfl,by rw[hq];simp⟩
    ·rw[if_neg (by simp[e])]at hb⊢;obtain⟨k,hk,hk2⟩:=hs.some_ b hb;exact⟨k,hk,by rw[hq,if_neg (by simp[e])];exact hk2⟩
   ·dsimp only at hk hj⊢;rw[hq]at hk hj;by_cases e:a=b
    ·subst e
     have f1:h=k:=by
      apply Classical.byContradiction;intro n1;rw[if_neg (by simp[n1]),hno k]at hk;cases hk
     have f2:h=j:=by
      apply Classical.byContradiction;intro n1;rw[if_neg (by simp[n1]),hno j]at hj;cases hj
     exact absurd (f1.symm.trans f2) hne
    ·rw[if_neg (by simp[e])]at hk hj;exact hs.two b k j hne hk hj
   ·rcases List.mem_append.1 hp with hp|hp
    ·exact a5N h1 h2 (hs.work p hp)
    ·rw[List.mem_singleton.1 hp,hq];simp
  ·rw[if_neg hz,if_neg hz];obtain⟨k0,hk0,hsk0⟩:=hs.some_ a hz;have hne0:k0≠h:=fun e=>by rw[e]at hsk0;exact hn hsk0
   have hbad:a0e l m a:= .inr (.inr ⟨k0,h,hne0,hs.snd a k0 hsk0,hr⟩);have hw:=a3V h3;refine⟨by rw[a9X];exact hs.len1,fun b hb=>by rw[a9W];exact hs.row b hb,by rw[List.length_set];exact hs.len2,hs.len3,fun b k hk=> ?_,fun b hb=> ?_,fun b hb k=> ?_,fun b hb=> ?_,fun b k j hne hk hj=> ?_,fun p hp=> ?_⟩
   ·rw[hq]at hk;split at hk
    ·rename_i e;rw[←e.1,←e.2];exact hr
    ·exact hs.snd b k hk
   ·dsimp only at hb;rw[hw]at hb;split at hb
    ·rename_i e;rw[←e];exact hbad
    ·exact hs.wrs b hb
   ·dsimp only at hb⊢;have e:a≠b:=fun e=>by subst e;exact hz hb
    rw[hq,if_neg (by simp[e])];exact hs.none_ b hb k
   ·dsimp only at hb⊢;obtain⟨k,hk,hk2⟩:=hs.some_ b hb;exact⟨k,hk,a5N h1 h2 hk2⟩
   ·dsimp only at hk hj⊢;rw[hw];by_cases e:a=b
    ·simp[e]
    ·rw[if_neg e];rw[hq,if_neg (by simp[e])]at hk hj;exact hs.two b k j hne hk hj
   ·rcases List.mem_append.1 hp with hp|hp
    ·exact a5N h1 h2 (hs.work p hp)
    ·rw[List.mem_singleton.1 hp,hq];simp
variable {cur:Option (Nat×Nat)}
theorem a8x(hs:U4 l m s)(ha:a<m.code.length)(hh:h≤m.stack)(hg:j5 l m s cur):j5 l m (T7 s a h) cur:=by
 have hup:=a5k hs ha hh;intro b k hk;by_cases hn:sq s.seen b k=true
 ·rcases hg b k hn with h1|h1|h1
  ·refine .inl ?_;unfold T7;split
   ·exact h1
   ·exact List.mem_append_left _ h1
  ·exact .inr (.inl h1)
  ·exact .inr (.inr (h1.up hup))
 ·refine .inl ?_;unfold T7 at hk⊢;split at hk
  ·exact absurd hk hn
  ·rename_i h0;rw[if_neg h0];have h1:a<s.seen.length:=by rw[hs.len1];exact ha
   have h2:h<(s.seen.getD a []).length:=by rw[hs.row a ha];omega
   dsimp only at hk⊢;rw[a5M h1 h2]at hk;split at hk
   ·rename_i e;rw[e.1,e.2];simp
   ·exact absurd hk hn
theorem a9R(hs:U4 l m s)(ha:a<m.code.length):a0H s (a1u s a):=
 ⟨fun _ _ h=>h,fun b hb=>by unfold a1u;dsimp only;rw[a3V (by rw[hs.len2];exact ha)];split<;>simp[hb]⟩
theorem b5g(hs:U4 l m s)(ha:a<m.code.length)(hb:a0e l m a):U4 l m (a1u s a):=by
 have hw:=a3V (s:=s.wrong) (a:=a) (by rw[hs.len2];exact ha);refine⟨hs.len1,hs.row,by unfold a1u;rw[List.length_set];exact hs.len2,hs.len3,hs.snd,fun b hb2=> ?_,hs.none_,hs.some_,fun b h k hne h1 h2=> ?_,hs.work⟩
 ·unfold a1u at hb2;dsimp only at hb2;rw[hw]at hb2;split at hb2
  ·rename_i e;rw[←e];exact hb
  ·exact hs.wrs b hb2
 ·exact(a9R hs ha).wrong b (hs.two b h k hne h1 h2)
theorem j5.up(hg:j5 l m s cur)(hu:a0H s t)(h1:t.seen=s.seen)(h2:t.work=s.work):j5 l m t cur:=fun a h hq=>by
 rw[h1]at hq;rw[h2];rcases hg a h hq with e|e|e
 ·exact .inl e
 ·exact .inr (.inl e)
 ·exact .inr (.inr (e.up hu))
def a1t(s:Wk):Wk:={s with work:=s.work.dropLast}
theorem b5f(hs:U4 l m s):U4 l m (a1t s):=
 ⟨hs.len1,hs.row,hs.len2,hs.len3,hs.snd,hs.wrs,hs.none_,hs.some_,hs.two,fun p hp=>hs.work p (List.dropLast_subset _ hp)⟩
theorem b3X{xs:List (Nat×Nat)}{p:Nat×Nat}(hw:s.work=xs++ [p])(hg:j5 l m s none):j5 l m (a1t s) (some p):=fun a h hq=>by
 have hu:a0H s (a1t s):=⟨fun _ _ h=>h,fun _ h=>h⟩
 rcases hg a h hq with e|e|e
 ·rw[hw]at e;rcases List.mem_append.1 e with e|e
  ·refine .inl ?_;unfold a1t;rw[hw];simpa using e
  ·exact .inr (.inl (by rw[List.mem_singleton.1 e]))
 ·cases e
 ·exact .inr (.inr (e.up hu))
theorem b6z(h:s.work≠ []):a0G (a1t s)+1=a0G s:=by
 unfold a0G a1t;have:=List.length_pos_iff.2 h;simp only[List.length_dropLast];omega
theorem j5.close(hg:j5 l m s (some (a,h)))(hd:a3W l m s a h):j5 l m s none:=fun b k hq=>by
 rcases hg b k hq with e|e|e
 ·exact .inl e
 ·cases e;exact .inr (.inr hd)
 ·exact .inr (.inr e)
theorem b8M(hs:U4 l m s)(hg:j5 l m s none)(h0:sq s.seen 0 0=true)(hw:s.work=[]):
 (∀a h,sq s.seen a h=true↔G3 l m a h)∧(∀a,wq s.wrong a=true↔a0e l m a):=by
 have hd:∀a h,sq s.seen a h=true→a3W l m s a h:=fun a h hq=>by
  rcases hg a h hq with e|e|e
  ·rw[hw]at e;cases e
  ·cases e
  ·exact e
 have hr:=fun a h (hr:G3 l m a h)=>a5s (S:=fun a h=>sq s.seen a h=true) ⟨h0,fun a h hq p hp=>(hd a h hq).1 p hp⟩ hr
 refine⟨fun a h=>⟨hs.snd a h,hr a h⟩,fun a=>⟨hs.wrs a,fun hb=> ?_⟩⟩;rcases hb with⟨h,h1,h2⟩|⟨h1,⟨h,h2⟩,h3⟩|⟨h,k,hne,h1,h2⟩
 ·exact(hd a h (hr a h h1)).2.1 h2
 ·exact(hd a h (hr a h h2)).2.2 h1 h3
 ·exact hs.two a h k hne (hr a h h1) (hr a k h2)
def X8(m:Me):Wk:={seen:=List.replicate m.code.length (List.replicate (m.stack+1) false),wrong:=List.replicate m.code.length false,heights:=List.replicate m.code.length (-1),work:=[]}
theorem a5V(m:Me)(a h:Nat):sq (X8 m).seen a h=false:=by
 unfold sq X8;dsimp only;simp only[List.getD_eq_getElem?_getD,List.getElem?_replicate];by_cases h1:a<m.code.length
 ·by_cases h2:h<m.stack+1<;>simp[h1,h2]
 ·simp[h1]
theorem b7U(l:List Cl)(m:Me):U4 l m (X8 m):=by
 have hh:∀a,(X8 m).heights.getD a (-1)= -1:=fun a=>by
  unfold X8;simp only[List.getD_eq_getElem?_getD,List.getElem?_replicate];split<;>rfl
 refine⟨by simp[X8],fun a ha=> ?_,by simp[X8],by simp[X8],fun a h hq=> ?_,fun a hq=> ?_,fun a _ h=>a5V m a h,fun a hne=>absurd (hh a) hne,fun a h k _ hq _=> ?_,fun p hp=> ?_⟩
 ·unfold X8;simp only[List.getD_eq_getElem?_getD,List.getElem?_replicate,ha,if_true,Option.getD_some,List.length_replicate]
 ·rw[a5V]at hq;cases hq
 ·unfold wq X8 at hq;simp only[List.getD_eq_getElem?_getD,List.getElem?_replicate]at hq;split at hq<;>cases hq
 ·rw[a5V]at hq;cases hq
 ·unfold X8 at hp;cases hp
theorem b6A(l:List Cl)(m:Me):j5 l m (X8 m) none:=fun a h hq=>by rw[a5V]at hq;cases hq
end Cf
open Go.RowKit Cf
namespace Kx
variable {P:Program}
variable {w:World}
variable {o:Oper}
variable {a:Act}
variable {Q:Exit→Act→World→Prop}
theorem b2i{K:Act→World→Prop}(s x:Operand)(t:TypeId)
 (ho:o.op= .call {callee:= .builtin .append,args:= #[s,x],argTypes:= #[t,t]})
 (base:Nat) (e:TypeId) (i:TypeInfo) (z:Value) (size bytes:Nat) (ht:P.underlying t=some (.slice e)) (hi:P.info? e=some i) (hz:i.zero=some z)
 (hsize:i.size=size) (hby:i.bytes=bytes) (hzs:z.cells.size=size) (hsz:0<size)
 (v0:Option Addr) (n k0:Nat) (xs:List Value) (hs:a.eval s= .slice v0 n k0) (hown:w.ownsRow base e size (.slice v0 n k0) n xs)
 (oa:Option Addr) (m c:Nat) (news:List Value) (hx:a.eval x= .slice oa m c) (hl:news.length=m*size) (hnews:∀j u,news[j]? =some u→∃ad,oa=some ad∧w.cell? (ad.add j)=some u) (h1:∀u∈news,u.oneCell'=true)
 (h63:n+m≤maxLen) (hbytes:(n+m)*bytes≤140737488355328) (hbase:base≤w.heap.size)
 (h:∀a' cap w',w'.ownsRow base e size (.slice a' (n+m) cap) (n+m) (xs++news)→w.grownBy w' (Value.slice v0 n k0).ownBlock→(∀p,a'=some p→(∃q,v0=some q∧q.block=p.block)∨w.heap.size≤p.block)→K (a.put o.dst (.slice a' (n+m) cap)) w'):o.wp P a w K Q:=by
 by_cases hm:m=0
 ·subst hm
  have hnil:news=[]:=by
   apply List.eq_nil_of_length_eq_zero;omega
  subst hnil
  have hle:n≤k0:=by
   rcases hown.2 with⟨h2,h3⟩|⟨g,cap,cur,hv,_,_,hc,_⟩
   ·injection h2 with _ _ h4;omega
   ·injection hv with _ h5 h4;omega
  have hsrc:Src P i.size t (.slice oa 0 c) 0 [] w:=by
   cases oa with
   |none=>exact Src.ofNil w ht c
   |some ad=>exact Src.ofSlice w ht ad 0 c [] (by simp) (fun j u hu=>by cases hu) (fun u hu=>by cases hu)
  have hr:=run_append_nothing (P:=P) w t t o.type e i ht hi v0 n k0 hle (.slice oa 0 c) hsrc;unfold Oper.wp execOp;simp only[ho,resolve,invoke,builtin,Sem.run_bind,Sem.run_pure,Result.andThen_ok,List.map_toArray,List.map_cons,List.map_nil,hs,hx,hr];exact h v0 k0 w (by simpa using hown) (G1 _ _) (fun p e=> .inl ⟨p,e,rfl⟩)
 ·obtain⟨ad,rfl⟩:∃ad,oa=some ad:=by
   have:0<news.length:=by rw[hl];exact Nat.mul_pos (by omega) hsz
   obtain⟨ad,h2,_⟩:=hnews 0 news[0] (by simp[this]);exact⟨ad,h2⟩
  exact wp_append_lies w s x t ho base e i z size bytes ht hi hz hsize hby hzs hsz _ n xs hs hown ad m c news hx hl (fun j u hu=>by
   obtain⟨ad',h2,h3⟩:=hnews j u hu;cases h2;exact h3) h1 (by omega) h63 hbytes hbase w.heap.size rfl (fun g cap w' g1 g2 g3 _=>h _ cap w' g1 g2 (fun p e=>by
   cases e;rcases g3 with g3|g3
   ·cases v0 with
    |none=>simp[Value.ownBlock]at g3
    |some q=>exact .inl ⟨q,rfl,by simpa[Value.ownBlock]using g3⟩
   ·exact .inr (by show w.heap.size≤g;omega)))
theorem a5c{ops:Array Oper}{rest:List Oper}(hgd:o.guard=none)(s x:Operand)(t:TypeId)
 (ho:o.op= .call {callee:= .builtin .append,args:= #[s,x],argTypes:= #[t,t]})
 (base:Nat) (e:TypeId) (i:TypeInfo) (z:Value) (size bytes:Nat) (ht:P.underlying t=some (.slice e)) (hi:P.info? e=some i) (hz:i.zero=some z)
 (hsize:i.size=size) (hby:i.bytes=bytes) (hzs:z.cells.size=size) (hsz:0<size)
 (v0:Option Addr) (n k0:Nat) (xs:List Value) (hs:a.eval s= .slice v0 n k0) (hown:w.ownsRow base e size (.slice v0 n k0) n xs)
 (oa:Option Addr) (m c:Nat) (news:List Value) (hx:a.eval x= .slice oa m c) (hl:news.length=m*size) (hnews:∀j u,news[j]? =some u→∃ad,oa=some ad∧w.cell? (ad.add j)=some u) (h1:∀u∈news,u.oneCell'=true)
 (h63:n+m≤maxLen) (hbytes:(n+m)*bytes≤140737488355328) (hbase:base≤w.heap.size)
 (h:∀a' cap w',w'.ownsRow base e size (.slice a' (n+m) cap) (n+m) (xs++news)→w.grownBy w' (Value.slice v0 n k0).ownBlock→(∀p,a'=some p→(∃q,v0=some q∧q.block=p.block)∨w.heap.size≤p.block)→wpList P ops Q rest (a.put o.dst (.slice a' (n+m) cap)) w'):
 wpList P ops Q (o::rest) a w:=
 wpList_plain hgd fun _ hK=>b2i s x t ho base e i z size bytes ht hi hz hsize hby hzs hsz v0 n k0 xs hs hown oa m c news hx hl hnews h1 h63 hbytes hbase fun g cap w' h2 h3 h4=>hK _ _ (h g cap w' h2 h3 h4)
open Go.RowKit Go.Shelf Cf
def P5(p:Nat×Nat):List Value:=[.int .i64 p.1, .int .i64 p.2]
def WkV(m:Me)(pa:Option Addr)(pk:Nat)(ca:Option Addr)(ck:Nat)(ha:Option Addr)(hk eg hg sg wg n:Nat)(wa:Option Addr)(wl wk:Nat):List Value:=
 [.string m.name, .slice pa m.params.length pk, .int .i64 m.ret.kind, .string m.ret.name, .int .i64 m.stack, .int .i64 m.locals, .slice ca m.code.length ck, .slice ha m.handlers.length hk, .slice (some ⟨eg,0,none⟩) n n, .slice (some ⟨hg,0,none⟩) n n, .slice (some ⟨sg,0,none⟩) n n, .slice (some ⟨wg,0,none⟩) n n, .slice wa wl wk]
structure L3(w:World)(base b eg hg sg wg:Nat)(g:Nat→Nat)(m:Me)(pa:Option Addr)(pk:Nat)(ca:Option Addr)(ck:Nat)(ha:Option Addr)(hk n st:Nat)(s:Wk)(wa:Option Addr)(wk:Nat):Prop where
 blk:A3 w b (WkV m pa pk ca ck ha hk eg hg sg wg n wa s.work.length wk).toArray 308
 hts:A3 w hg (s.heights.map fun x=>Value.int .i64 x).toArray 3
 seen:A3 w sg ((List.range n).map fun a=>Value.slice (some ⟨g a,0,none⟩) (st+1) (st+1)).toArray 264
 rows:∀a,a<n→A3 w (g a) ((s.seen.getD a []).map Value.bool).toArray 4
 wrong:A3 w wg (s.wrong.map Value.bool).toArray 4
 work:w.ownsRow base 372 2 (.slice wa s.work.length wk) s.work.length (s.work.flatMap P5)
 d1:∀a,a<n→g a≠wg
 d2:∀a c,a<n→c<n→g a=g c→a=c
 low:base≤b∧base≤hg∧base≤sg∧base≤wg∧∀a,a<n→base≤g a
structure Fr(base:Nat)(w w':World):Prop where
 os:w'.os=w.os
 tape:w'.tape=w.tape
 output:w'.output=w.output
 size:w.heap.size≤w'.heap.size
 low:∀k,k<base→w'.heap[k]? =w.heap[k]?
 blk:∀(k:Nat) (cs:Array Value) (fr:Nat×Nat),w.heap[k]? =some (Obj.cells cs 98 fr)→w'.heap[k]? =some (Obj.cells cs 98 fr)
 eff:∀(k:Nat) (cs:Array Value) (fr:Nat×Nat),w.heap[k]? =some (Obj.cells cs 315 fr)→w'.heap[k]? =some (Obj.cells cs 315 fr)
theorem Fr.refl(base:Nat)(w:World):Fr base w w:=⟨rfl,rfl,rfl,Nat.le_refl _,fun _ _=>rfl,fun _ _ _ h=>h,fun _ _ _ h=>h⟩
variable {b base hg n wg:Nat}
theorem Fr.trans{a b c:World}(h:Fr base a b)(k:Fr base b c):Fr base a c:=
 ⟨k.os.trans h.os,k.tape.trans h.tape,k.output.trans h.output,Nat.le_trans h.size k.size,fun j hj=>(k.low j hj).trans (h.low j hj),fun j cs fr e=>k.blk j cs fr (h.blk j cs fr e),fun j cs fr e=>k.eff j cs fr (h.eff j cs fr e)⟩
variable {w w':World}
theorem a5v{k:Nat}{o:Obj}(h:w.heap[k]? =some o):k<w.heap.size:=(Array.getElem?_eq_some_iff.1 h).1
theorem Fr.grown(hg:w.grownBy w' none)(hb:base≤w.heap.size):Fr base w w':=
 ⟨hg.os,hg.tape,hg.output,hg.size,fun k hk=>hg.block k (Nat.lt_of_lt_of_le hk hb) (by simp),fun k cs fr h=>by rw[hg.block k (a5v h) (by simp)];exact h,fun k cs fr h=>by rw[hg.block k (a5v h) (by simp)];exact h⟩
structure Fx(b hg wg:Nat)(g:Nat→Nat)(n:Nat)(wa wa':Option Addr)(w w':World):Prop where
 os:w'.os=w.os
 tape:w'.tape=w.tape
 output:w'.output=w.output
 size:w.heap.size≤w'.heap.size
 block:∀k,k<w.heap.size→k≠b→k≠hg→k≠wg→(∀a,a<n→k≠g a)→(∀p,wa=some p→k≠p.block)→w'.heap[k]? =w.heap[k]?
 own:∀p,wa'=some p→(∃q,wa=some q∧q.block=p.block)∨w.heap.size≤p.block
variable {g:Nat→Nat}
variable {wa:Option Addr}
theorem Fx.refl(w:World):Fx b hg wg g n wa wa w w:=⟨rfl,rfl,rfl,Nat.le_refl _,fun _ _ _ _ _ _ _=>rfl,fun p e=> .inl ⟨p,e,rfl⟩⟩
theorem Fx.trans{wb wc:Option Addr}{x y z:World}(h:Fx b hg wg g n wa wb x y)(h2:Fx b hg wg g n wb wc y z):Fx b hg wg g n wa wc x z:=by
 refine⟨h2.os.trans h.os,h2.tape.trans h.tape,h2.output.trans h.output,Nat.le_trans h.size h2.size,fun k hk n1 n2 n3 n4 n5=> ?_,fun p e=> ?_⟩
 ·refine(h2.block k (Nat.lt_of_lt_of_le hk h.size) n1 n2 n3 n4 (fun p e=> ?_)).trans (h.block k hk n1 n2 n3 n4 n5);rcases h.own p e with⟨q,e2,e3⟩|e2
  ·rw[←e3];exact n5 q e2
  ·omega
 ·rcases h2.own p e with⟨q,e2,e3⟩|e2
  ·rcases h.own q e2 with⟨r,e4,e5⟩|e4
   ·exact .inl ⟨r,e4,e5.trans e3⟩
   ·exact .inr (by omega)
  ·exact .inr (Nat.le_trans h.size e2)
theorem Fx.grown(h:w.grownBy w' none):Fx b hg wg g n wa wa w w':=
 ⟨h.os,h.tape,h.output,h.size,fun k hk _ _ _ _ _=>h.block k hk (by simp),fun p e=> .inl ⟨p,e,rfl⟩⟩
theorem Fx.at{r:Nat}(h:w.grownBy w' (some r))(hr:r=b∨r=hg∨r=wg∨∃a,a<n∧r=g a):Fx b hg wg g n wa wa w w':=
 ⟨h.os,h.tape,h.output,h.size,fun k hk n1 n2 n3 n4 _=>h.block k hk (by
  intro e;cases e;rcases hr with e|e|e|⟨a,h1,e⟩
  ·exact n1 e
  ·exact n2 e
  ·exact n3 e
  ·exact n4 a h1 e),fun p e=> .inl ⟨p,e,rfl⟩⟩
theorem I7{g g':Nat}{cs cs':Array Value}{t t':TypeId}(h:A3 w g cs t)(h':A3 w g' cs' t')(ht:t≠t'):g≠g':=fun e=>by
 subst e;have h1:w.heap[g]? =some (Obj.cells cs t (0,0)):=h;have h2:w.heap[g]? =some (Obj.cells cs' t' (0,0)):=h';rw[h2]at h1;cases h1;exact ht rfl
theorem a7v{α:Type}(f:α→Value)(l:List α)(k:Nat)(x:α):(l.map f).toArray.setIfInBounds k (f x)=((l.set k x).map f).toArray:=by
 rw[List.setIfInBounds_toArray,List.map_set]
section
variable{w:World}{base b eg hg sg wg:Nat}{g:Nat→Nat}{m:Me}{pa:Option Addr}{pk:Nat}{ca:Option Addr}{ck:Nat}{ha:Option Addr}{hk n st:Nat}{s:Wk}{wa:Option Addr}{wk:Nat}
theorem L3.keep{w':World}(h:L3 w base b eg hg sg wg g m pa pk ca ck ha hk n st s wa wk)(hgr:w.grownBy w' none):L3 w' base b eg hg sg wg g m pa pk ca ck ha hk n st s wa wk:=
 ⟨h.blk.keep hgr (by simp),h.hts.keep hgr (by simp),h.seen.keep hgr (by simp),fun a ha'=>(h.rows a ha').keep hgr (by simp),h.wrong.keep hgr (by simp),h.work.kept hgr (by cases hv:(Value.slice wa s.work.length wk).ownBlock<;>simp),h.d1,h.d2,h.low⟩
theorem L3.mark(h:L3 w base b eg hg sg wg g m pa pk ca ck ha hk n st s wa wk){a k:Nat}(ha':a<n)(hlen:s.seen.length=n):
 L3 (w.setCell ⟨g a,k,none⟩ (.bool true)) base b eg hg sg wg g m pa pk ca ck ha hk n st {s with seen:=f9 s.seen a k} wa wk∧Fx b hg wg g n wa wa w (w.setCell ⟨g a,k,none⟩ (.bool true)):=by
 have hr:=h.rows a ha';have hs:=A6 w ⟨g a,k,none⟩ (.bool true);have n1:some b≠some (g a):=fun e=>I7 h.blk hr (by decide) (Option.some.inj e)
 have n2:some hg≠some (g a):=fun e=>I7 h.hts hr (by decide) (Option.some.inj e)
 have n3:some sg≠some (g a):=fun e=>I7 h.seen hr (by decide) (Option.some.inj e)
 have n4:some wg≠some (g a):=fun e=>h.d1 a ha' (Option.some.inj e).symm
 refine⟨⟨h.blk.keep hs n1,h.hts.keep hs n2,h.seen.keep hs n3,fun c hc=> ?_,h.wrong.keep hs n4,h.work.kept hs (.inr (M7 h.work hr (by decide))),h.d1,h.d2,h.low⟩,Fx.at hs (.inr (.inr (.inr ⟨a,ha',rfl⟩)))⟩;dsimp only;unfold f9;rw[a2T];by_cases e:a=c
 ·subst e;rw[if_pos ⟨rfl,by omega⟩];have:=hr.set k (.bool true);rw[a7v]at this;exact this
 ·rw[if_neg (by simp[e])];exact(h.rows c hc).keep hs (fun e2=>e (h.d2 c a hc ha' (Option.some.inj e2)).symm)
theorem L3.push{w7:World}{a7:Option Addr}{k7:Nat}(h:L3 w base b eg hg sg wg g m pa pk ca ck ha hk n st s wa wk){p:Nat×Nat}{o:Obj}(hb:base≤w.heap.size)
 (hown:w7.ownsRow base 372 2 (.slice a7 (s.work.length+1) k7) (s.work.length+1) (s.work.flatMap P5++P5 p)) (hgr:(w.alloc o).grownBy w7 (Value.slice wa s.work.length wk).ownBlock) (hat:∀p,a7=some p→(∃q,wa=some q∧q.block=p.block)∨(w.alloc o).heap.size≤p.block):
 L3 (w7.setCell ⟨b,12,none⟩ (.slice a7 (s.work.length+1) k7)) base b eg hg sg wg g m pa pk ca ck ha hk n st {s with work:=s.work++ [p]} a7 k7∧Fx b hg wg g n wa a7 w (w7.setCell ⟨b,12,none⟩ (.slice a7 (s.work.length+1) k7)):=by
 have hgA:=C7 (A2 w o _) hgr (fun k e=> .inr e.symm);have hb7:A3 w7 b _ _:=h.blk.keep hgA (fun e=>M7 h.work h.blk (by decide) e.symm);have k2:=h.hts.keep hgA (fun e=>M7 h.work h.hts (by decide) e.symm);have k3:=h.seen.keep hgA (fun e=>M7 h.work h.seen (by decide) e.symm);have k4:=fun c (hc:c<n)=>(h.rows c hc).keep hgA (fun e=>M7 h.work (h.rows c hc) (by decide) e.symm)
 have k5:=h.wrong.keep hgA (fun e=>M7 h.work h.wrong (by decide) e.symm);have hs:=A6 w7 ⟨b,12,none⟩ (.slice a7 (s.work.length+1) k7)
 have hF1:Fx b hg wg g n wa a7 w w7:=⟨hgA.os,hgA.tape,hgA.output,hgA.size,fun k hk _ _ _ _ n5=>hgA.block k hk (by
  intro e;cases wa with
  |none=>simp[Value.ownBlock]at e
  |some q=>simp only[Value.ownBlock,Option.some.injEq]at e;exact n5 q rfl e),fun p e=>by
  rcases hat p e with h1|h1
  ·exact .inl h1
  ·exact .inr (Nat.le_trans (A2 w o none).size h1)⟩
 refine⟨⟨?_,k2.keep hs (fun e=>I7 k2 hb7 (by decide) (Option.some.inj e)),k3.keep hs (fun e=>I7 k3 hb7 (by decide) (Option.some.inj e)),fun c hc=>(k4 c hc).keep hs (fun e=>I7 (k4 c hc) hb7 (by decide) (Option.some.inj e)),k5.keep hs (fun e=>I7 k5 hb7 (by decide) (Option.some.inj e)),?_,h.d1,h.d2,h.low⟩,hF1.trans (Fx.at hs (.inl rfl))⟩
 ·have:=hb7.set 12 (.slice a7 (s.work.length+1) k7);simp only[List.length_append,List.length_cons,List.length_nil,Nat.zero_add];exact this
 ·have:=hown.kept hs (.inr (M7 hown hb7 (by decide)));simp only[List.length_append,List.length_cons,List.length_nil,Nat.zero_add,List.flatMap_append,List.flatMap_cons,List.flatMap_nil,List.append_nil];exact this
theorem L3.high(h:L3 w base b eg hg sg wg g m pa pk ca ck ha hk n st s wa wk)(a:Nat)(x:Int):
 L3 (w.setCell ⟨hg,a,none⟩ (.int .i64 x)) base b eg hg sg wg g m pa pk ca ck ha hk n st {s with heights:=s.heights.set a x} wa wk∧Fx b hg wg g n wa wa w (w.setCell ⟨hg,a,none⟩ (.int .i64 x)):=by
 have hs:=A6 w ⟨hg,a,none⟩ (.int .i64 x);refine⟨⟨h.blk.keep hs (fun e=>I7 h.blk h.hts (by decide) (Option.some.inj e)),?_,h.seen.keep hs (fun e=>I7 h.seen h.hts (by decide) (Option.some.inj e)),fun c hc=>(h.rows c hc).keep hs (fun e=>I7 (h.rows c hc) h.hts (by decide) (Option.some.inj e)),h.wrong.keep hs (fun e=>I7 h.wrong h.hts (by decide) (Option.some.inj e)),h.work.kept hs (.inr (M7 h.work h.hts (by decide))),h.d1,h.d2,h.low⟩,Fx.at hs (.inr (.inl rfl))⟩;have:=h.hts.set a (.int .i64 x);rw[a7v (fun x=>Value.int .i64 x)]at this;exact this
theorem L3.bad(h:L3 w base b eg hg sg wg g m pa pk ca ck ha hk n st s wa wk)(a:Nat):
 L3 (w.setCell ⟨wg,a,none⟩ (.bool true)) base b eg hg sg wg g m pa pk ca ck ha hk n st {s with wrong:=s.wrong.set a true} wa wk∧Fx b hg wg g n wa wa w (w.setCell ⟨wg,a,none⟩ (.bool true)):=by
 have hs:=A6 w ⟨wg,a,none⟩ (.bool true);refine⟨⟨h.blk.keep hs (fun e=>I7 h.blk h.wrong (by decide) (Option.some.inj e)),h.hts.keep hs (fun e=>I7 h.hts h.wrong (by decide) (Option.some.inj e)),h.seen.keep hs (fun e=>I7 h.seen h.wrong (by decide) (Option.some.inj e)),fun c hc=>(h.rows c hc).keep hs (fun e=>h.d1 c hc (Option.some.inj e)),?_,h.work.kept hs (.inr (M7 h.work h.wrong (by decide))),h.d1,h.d2,h.low⟩,Fx.at hs (.inr (.inr (.inl rfl)))⟩;have:=h.wrong.set a (.bool true);rw[a7v]at this;exact this
theorem L3.fr{w':World}{wa':Option Addr}(h:L3 w base b eg hg sg wg g m pa pk ca ck ha hk n st s wa wk)(hf:Fx b hg wg g n wa wa' w w')(hbw:base≤w.heap.size):Fr base w w':=by
 have key:∀(k:Nat) (cs:Array Value) (fr:Nat×Nat) (t:TypeId),t≠308→t≠3→t≠4→t≠372→w.heap[k]? =some (Obj.cells cs t fr)→w'.heap[k]? =some (Obj.cells cs t fr):=fun k cs fr t t1 t2 t3 t4 hk=>by
  have ne:∀{r:Nat} {cs':Array Value} {t':TypeId},A3 w r cs' t'→t≠t'→k≠r:=fun{r cs' t'} hb ht e=>by
   subst e;have h2:w.heap[k]? =some (Obj.cells cs' t' (0,0)):=hb;rw[hk]at h2;cases h2;exact ht rfl
  rw[hf.block k (a5v hk) (ne h.blk t1) (ne h.hts t2) (ne h.wrong t3) (fun a ha'=>ne (h.rows a ha') t3) (fun p e=> ?_)]
  ·exact hk
  ·intro e2;subst e;rcases h.work.2 with⟨e3,-⟩|⟨q,cap,cur,e3,-,hq2,-⟩
   ·cases e3
   ·injection e3 with e4 _ _
    cases e4;have e5:k=q:=e2;subst e5;rw[hk]at hq2;cases hq2;exact t4 rfl
 exact⟨hf.os,hf.tape,hf.output,hf.size,fun k hk=>hf.block k (Nat.lt_of_lt_of_le hk hbw) (by have:=h.low.1;omega) (by have:=h.low.2.1;omega) (by have:=h.low.2.2.2.1;omega) (fun a ha'=>by have:=h.low.2.2.2.2 a ha';omega) (fun p e=>by
  subst e;rcases h.work.2 with⟨e3,-⟩|⟨q,cap,cur,e3,hq,-⟩
  ·cases e3
  ·injection e3 with e4 _ _
   cases e4;show k≠q;omega),fun k cs fr hk=>key k cs fr _ (by decide) (by decide) (by decide) (by decide) hk,fun k cs fr hk=>key k cs fr _ (by decide) (by decide) (by decide) (by decide) hk⟩
theorem a9A{w:World}{base e sz n k:Nat}{a:Option Addr}{cs:List Value}(h:w.ownsRow base e sz (.slice a (n+1) k) (n+1) cs):w.ownsRow base e sz (.slice a n k) n (cs.take (n*sz)):=by
 obtain⟨hl,h2⟩:=h;rcases h2 with⟨e1,e2⟩|⟨q,cap,cur,e1,hq,hc,h5,h6,h7,h8⟩
 ·cases e2
 ·injection e1 with e1 _ e3
  subst e1 e3;refine⟨by rw[List.length_take,hl,Nat.succ_mul];omega, .inr ⟨q,k,cur,rfl,hq,hc,by omega,h6,h7,?_⟩⟩;rw[←h8,List.take_take];congr 1
  rw[Nat.succ_mul];omega
theorem L3.pop{xs:List (Nat×Nat)}{p:Nat×Nat}(h:L3 w base b eg hg sg wg g m pa pk ca ck ha hk n st s wa wk)(hw:s.work=xs++ [p]):
 L3 (w.setCell ⟨b,12,none⟩ (.slice wa xs.length wk)) base b eg hg sg wg g m pa pk ca ck ha hk n st (a1t s) wa wk∧Fx b hg wg g n wa wa w (w.setCell ⟨b,12,none⟩ (.slice wa xs.length wk)):=by
 have hs:=A6 w ⟨b,12,none⟩ (.slice wa xs.length wk);have hwp:(a1t s).work=xs:=by unfold a1t;rw[hw];simp
 refine⟨⟨?_,h.hts.keep hs (fun e=>I7 h.hts h.blk (by decide) (Option.some.inj e)),h.seen.keep hs (fun e=>I7 h.seen h.blk (by decide) (Option.some.inj e)),fun c hc=>(h.rows c hc).keep hs (fun e=>I7 (h.rows c hc) h.blk (by decide) (Option.some.inj e)),h.wrong.keep hs (fun e=>I7 h.wrong h.blk (by decide) (Option.some.inj e)),?_,h.d1,h.d2,h.low⟩,Fx.at hs (.inl rfl)⟩
 ·have:=h.blk.set 12 (.slice wa xs.length wk);rw[hwp];exact this
 ·have h1:=h.work;rw[hw]at h1;simp only[List.length_append,List.length_cons,List.length_nil,Nat.zero_add]at h1;have h2:=a9A h1;rw[hwp]
  have h3:((xs++ [p]).flatMap P5).take (xs.length*2)=xs.flatMap P5:=by
   have hl:(xs.flatMap P5).length=xs.length*2:=by
    clear h1 h2 hw hwp hs h;induction xs with
    |nil=>rfl
    |cons x l ih=>rw[List.flatMap_cons,List.length_append,ih,List.length_cons];simp only[P5,List.length_cons,List.length_nil];omega
   rw[List.flatMap_append,←hl,List.take_left'];rfl
  rw[h3]at h2;exact h2.kept hs (.inr (M7 h2 h.blk (by decide)))
end
theorem b8s:(Tryz.prog.info? 372).map (fun i=>(i.zero,i.size,i.bytes))=some (some (.agg #[.int .i64 0, .int .i64 0]),2,16):=by kernel_rfl
theorem b5X{l:List Bool}{j:Nat}(hj:j<l.length):l[j]? =some (l.getD j false):=by simp[hj]
theorem U9{w:World}{g:Nat}{l:List Value}{t:TypeId}(h:A3 w g l.toArray t)(j:Nat)(v:Value)(hv:l[j]? =some v):w.cell? ⟨g,j,none⟩=some v:=h.cell j v (by simpa using hv)
set_option maxRecDepth 100000 in
set_option maxHeartbeats 40000000 in
theorem b5w(w:World)(base b eg hg sg wg:Nat)(g:Nat→Nat)(m:Me)(pa:Option Addr)(pk:Nat)(ca:Option Addr)(ck:Nat)(ha:Option Addr)(hk n st:Nat)(s:Wk)(wa:Option Addr)(wk:Nat)(h:Hid (L3 w base b eg hg sg wg g m pa pk ca ck ha hk n st s wa wk))(hn:n≤65535)(hst:st≤1000)(hsl:s.seen.length=n)(hsr:∀a,a<n→(s.seen.getD a []).length=st+1)(hhl:s.heights.length=n)(hwl:s.wrong.length=n)(hwk:s.work.length≤200000000)(a h0:Nat)(ha0:a<n)(hh0:h0≤st)(hbw:base≤w.heap.size):
 Calls Tryz.prog 274 #[.pointer (some ⟨b,0,none⟩), .int .i64 a, .int .i64 h0] w fun e w'=>e= .returned (.tuple #[])∧∃wa' wk',L3 w' base b eg hg sg wg g m pa pk ca ck ha hk n st (T7 s a h0) wa' wk'∧Fx b hg wg g n wa wa' w w':=by
 have haI:(a:Int)<(n:Int):=by omega
 have hhI:(h0:Int)<((st+1:Nat):Int):=by omega
 have hhN:h0<st+1:=by omega
 have hrow:=hsr a ha0;obtain⟨ls,hls⟩:∃ls,ls=st+1:=⟨_,rfl⟩
 have hg2:w.cell? ⟨sg,a,none⟩=some (.slice (some ⟨g a,0,none⟩) ls ls):=by rw[hls];exact U9 h.out.seen a _ (by simp[ha0])
 rw[←hls]at hhI hhN
 have hx:w.cell? ⟨g a,h0,none⟩=some (.bool (sq s.seen a h0)):=U9 (h.out.rows a ha0) h0 _ (by
  unfold sq;rw[List.getElem?_map,b5X (by omega)];rfl)
 have hfx:=(h.out.rows a ha0).frozen h0;have c10:w.cell? ⟨b,10,none⟩=some (Value.slice (some ⟨sg,0,none⟩) n n):=h.out.blk.cell 10 _ rfl;have hlsz:ls≤1001:=by omega
 by_cases hq:sq s.seen a h0=true
 ·rw[hq]at hx;have HR:Hid (T7 s a h0=s):=by unfold Hid T7;rw[if_pos hq]
  rw[HR.out];clear hq hls hsr hrow;go_enter Tryz.func274,Tryz.ntmps274;go_wp2_with fail
  refine bodyPost_ret (results_none rfl _ _ _) rfl ?_;exact⟨rfl,_,_,h.out,Fx.refl _⟩
 ·have hq':sq s.seen a h0=false:=by simpa using hq
  rw[hq']at hx;obtain⟨S2,hS2⟩:∃S2,S2=T7 s a h0:=⟨_,rfl⟩
  have HR:Hid (S2={seen:=f9 s.seen a h0,work:=s.work++ [(a,h0)],heights:=if s.heights.getD a (-1)= -1 then s.heights.set a h0 else s.heights,wrong:=if s.heights.getD a (-1)= -1 then s.wrong else s.wrong.set a true}):=by unfold Hid;rw[hS2];unfold T7;rw[if_neg hq]
  rw[←hS2];clear hS2;obtain⟨hM1,hF1⟩:=h.out.mark (k:=h0) ha0 hsl;have HM1:=A0 hM1;have HF1:=A0 hF1;have hs1:=Nat.le_trans hbw hF1.size;clear hM1 hF1 hq hq' hls hsr hrow;obtain⟨wl,hwl0⟩:∃wl,wl=s.work.length:=⟨_,rfl⟩
  have HWL:=A0 hwl0;have c12:w.cell? ⟨b,12,none⟩=some (.slice wa wl wk):=by rw[hwl0];exact h.out.blk.cell 12 _ rfl
  rw[←hwl0]at hwk;clear hwl0;obtain⟨inf,ii0,iz0,iz1,iz2⟩:=info_parts b8s;go_enter Tryz.func274,Tryz.ntmps274;go_upto_region 2 with fail
  generalize w.setCell ⟨g a,h0,none⟩ (.bool true)=W1 at HM1 HF1 hs1⊢;have d12:W1.cell? ⟨b,12,none⟩=some (.slice wa wl wk):=by rw[HWL.out];exact HM1.out.blk.cell 12 _ rfl
  have HOW:Hid ((W1.alloc (.cells #[.int .i64 a, .int .i64 h0] 372)).ownsRow base 372 2 (.slice wa wl wk) wl (s.work.flatMap P5)):=by
   have h5:W1.ownsRow base 372 2 (.slice wa wl wk) wl (s.work.flatMap P5):=by rw[HWL.out];exact HM1.out.work
   exact h5.kept (A2 _ _ none) (by cases hv:(Value.slice wa wl wk).ownBlock<;>simp)
  have hfb:=(HM1.out.blk).frozen 12;go_upto_region 3 with(at_builtin;go_loud (refine a5c rfl _ _ 306 rfl base 372 inf _ 2 16 Tryz.underlying306 ii0 iz0 iz1 iz2 rfl (by decide) wa wl wk (s.work.flatMap P5) rfl HOW.out (some ⟨W1.heap.size,0,none⟩) 1 1 [.int .i64 a, .int .i64 h0] rfl rfl (fun jj u hu=>⟨_,rfl,O5 W1 _ _ jj u hu⟩) (by simp[Value.oneCell']) (by unfold maxLen;omega) (by omega) (Nat.le_trans hs1 (A2 W1 _ none).size) ?_;intro a7 k7 w7 hown7 hg7 hat7;have hf7:=(HM1.out.blk.keep (C7 (A2 W1 (.cells #[.int .i64 a, .int .i64 h0] 372) _) hg7 (fun k e=> .inr e.symm)) (M7 (by rw[HWL.out];exact HM1.out.work) HM1.out.blk (by decide)).symm).frozen 12;have hc7:=(C7 (A2 W1 (.cells #[.int .i64 a, .int .i64 h0] 372) _) hg7 (fun k e=> .inr e.symm)).cell d12 (M7 (by rw[HWL.out];exact HM1.out.work) HM1.out.blk (by decide)).symm))
  have hP:=HM1.out.push (p:=(a,h0)) hs1 (by rw[←HWL.out];exact hown7) (by rw[←HWL.out];exact hg7) hat7;rw[←HWL.out]at hP;obtain⟨hM2,hF2⟩:=hP;generalize w7.setCell ⟨b,12,none⟩ (.slice a7 (wl+1) k7)=W2 at hM2 hF2⊢;have HM2:Hid (L3 W2 base b eg hg sg wg g m pa pk ca ck ha hk n st {s with seen:=f9 s.seen a h0,work:=s.work++ [(a,h0)]} a7 k7):=hM2;have HF2:=A0 (HF1.out.trans hF2);clear hown7 hg7 hat7 hf7 hc7 hM2 hF2 d12 hfb;have e9:=HM2.out.blk.c9;have e11:W2.cell? ⟨b,11,none⟩=some (Value.slice (some ⟨wg,0,none⟩) n n):=HM2.out.blk.cell 11 _ rfl;have eh:W2.cell? ⟨hg,a,none⟩=some (.int .i64 (s.heights.getD a (-1))):=U9 HM2.out.hts a _ (by simp[hhl,ha0]);have ew:W2.cell? ⟨wg,a,none⟩=some (.bool (s.wrong.getD a false)):=U9 HM2.out.wrong a _ (by simp[hwl,ha0]);have fh:=HM2.out.hts.frozen a;have fw:=HM2.out.wrong.frozen a;by_cases hz:s.heights.getD a (-1)= -1
  ·rw[hz]at eh;have hfin:=HM2.out.high a h0;have HS:Hid (S2={seen:=f9 s.seen a h0,work:=s.work++ [(a,h0)],heights:=s.heights.set a h0,wrong:=s.wrong}):=by unfold Hid;rw[HR.out,if_pos hz,if_pos hz]
   clear hz;go_wp2_with fail
   go_end0;exact⟨rfl,a7,⟨k7,by rw[HS.out];exact hfin.1⟩,HF2.out.trans hfin.2⟩
  ·have hzb:(s.heights.getD a (-1)== -1)=false:=by rw[beq_eq_false_iff_ne];exact hz
   have hfin:=HM2.out.bad a;have HS:Hid (S2={seen:=f9 s.seen a h0,work:=s.work++ [(a,h0)],heights:=s.heights,wrong:=s.wrong.set a true}):=by unfold Hid;rw[HR.out,if_neg hz,if_neg hz]
   generalize s.heights.getD a (-1)=hv at eh hz hzb;go_wp2_with fail
   go_end0;exact⟨rfl,a7,⟨k7,by rw[HS.out];exact hfin.1⟩,HF2.out.trans hfin.2⟩
end Kx
end Go.Proofs.YtdhophglnhcjbaaGreatDoor
