/- P16: a part of the proof that the last text tells. -/
import Derived.Test.YtdhophglnhcjbaaGreatDoorP15
import Derived.Test.YtdhophglnhcjbaaGreatDoorP09
set_option linter.all false
namespace Go.Proofs.YtdhophglnhcjbaaGreatDoor
open Go.RowKit Go.Shelf Cf
namespace Kx
def a0W(W:World)(base:Nat)(L:List Cl)(m:Me)(cs:Array Value)(a:Nat):Prop:=
 ∃ta tk ua uk,cs[a*3]? =some (.slice ta (F3 L m (A8 m a)).length tk)∧cs[a*3+1]? =some (.slice ua (C4 L (A8 m a)).length uk)∧cs[a*3+2]? =some (.bool (V7 (A8 m a)))∧
  W.ownsRow base 98 2 (.slice ta (F3 L m (A8 m a)).length tk) (F3 L m (A8 m a)).length ((F3 L m (A8 m a)).flatMap C1)∧
  W.ownsRow base 98 2 (.slice ua (C4 L (A8 m a)).length uk) (C4 L (A8 m a)).length ((C4 L (A8 m a)).flatMap C1)
structure Z1(w W:World)(base b0 bw eg hg sg wg:Nat)(g:Nat→Nat)(L:List Cl)(m:Me)(pa:Option Addr)(pk:Nat)(ca:Option Addr)(ck:Nat)(ha:Option Addr)(hk je j:Nat):Prop where
 gb:w.grownBy W none
 meth:A3 W b0 (mV m pa pk ca ck ha hk) 102
 walk:A3 W bw (WkV m pa pk ca ck ha hk eg hg sg wg m.code.length none 0 0).toArray 308
 hts:A3 W hg (List.replicate m.code.length (Value.int .i64 (-1))).toArray 3
 wrong:A3 W wg (List.replicate m.code.length (Value.bool false)).toArray 4
 eff:∃cs:List Value,A3 W eg cs.toArray 315∧cs.length=m.code.length*3∧∀a,a<je→a0W W base L m cs.toArray a
 seen:∃cs:List Value,A3 W sg cs.toArray 264∧cs.length=m.code.length∧∀a,a<j→cs[a]? =some (.slice (some ⟨g a,0,none⟩) (m.stack+1) (m.stack+1))
 rows:∀a,a<j→A3 W (g a) (List.replicate (m.stack+1) (Value.bool false)).toArray 4
 d1:∀a,a<j→base≤g a∧g a≠wg
 d2:∀a c,a<j→c<j→g a=g c→a=c
 b0lt:b0<base∧w.heap.size≤base
 low:base≤bw∧base≤eg∧base≤hg∧base≤sg∧base≤wg
theorem b4l(n:Nat)(v:Value):D7 n [v]=List.replicate n v:=by
 induction n with
 |zero=>rfl
 |succ n ih=>rw[a7x,ih,a7w,←List.replicate_succ']
theorem a9E(n:Nat):(madeCells (Value.bool false).cells (n*1)).toList=List.replicate n (Value.bool false):=by
 apply List.ext_getElem
 ·simp[madeCells]
 ·intro i h1 h2;simp[madeCells,Value.cells,Nat.mod_one]
variable {W W' w w':World}
variable {cs:Array Value}
variable {e t:TypeId}
theorem A3.grow{g:Nat}(h:A3 w g cs t)(hg:w.grownBy w' none):A3 w' g cs t:=by
 unfold A3;rw[hg.block g h.lt (by simp)];exact h
variable {a b0 base base0 bw ck eg gn hg hk j n pk sg sz wg:Nat}
variable {v:Value}
variable {xs:List Value}
theorem b5E{g:Nat}(h:w.ownsRow base e sz v n xs)(hb:A3 w g cs t)(ht:t≠e):v.ownBlock=none∨v.ownBlock≠some g:=by
 rcases h.2 with⟨rfl,_⟩|⟨g',cap,cur,rfl,_,hg,_⟩
 ·exact .inl rfl
 ·refine .inr fun e=> ?_
  injection e with e
  have e2:g'=g:=e;subst e2;have hb2:w.heap[g']? =some (.cells cs t (0,0)):=hb;rw[hg]at hb2;injection hb2 with hb2
  injection hb2 with _ h2
  exact ht h2.symm
variable {L:List Cl}
variable {m:Me}
theorem a0W.keep(h:a0W W base L m cs a)(hg:W.grownBy W' none):a0W W' base L m cs a:=by
 obtain⟨ta,tk,ua,uk,h1,h2,h3,h4,h5⟩:=h;exact⟨ta,tk,ua,uk,h1,h2,h3,h4.kept hg (by cases hv:(Value.slice ta (F3 L m (A8 m a)).length tk).ownBlock<;>simp),h5.kept hg (by cases hv:(Value.slice ua (C4 L (A8 m a)).length uk).ownBlock<;>simp)⟩
theorem a3O{g:Nat}(h:w.ownsRow base e sz v n xs)(hg:w.grownBy w' (some g))(hb:A3 w g cs t)(ht:t≠e):w'.ownsRow base e sz v n xs:=
 h.kept hg (by
  rcases b5E h hb ht with h1|h1
  ·exact .inl h1
  ·exact .inr h1)
variable {g:Nat→Nat}
variable {ca ha pa:Option Addr}
theorem Z1.keep{je:Nat}(h:Z1 w W base b0 bw eg hg sg wg g L m pa pk ca ck ha hk je j)(hgr:W.grownBy W' none):Z1 w W' base b0 bw eg hg sg wg g L m pa pk ca ck ha hk je j:=by
 obtain⟨cs,e1,e2,e3⟩:=h.eff;obtain⟨ds,s1,s2,s3⟩:=h.seen;exact⟨K2 h.gb hgr,A3.grow h.meth hgr,A3.grow h.walk hgr,A3.grow h.hts hgr,A3.grow h.wrong hgr,⟨cs,A3.grow e1 hgr,e2,fun a ha=>(e3 a ha).keep hgr⟩,⟨ds,A3.grow s1 hgr,s2,s3⟩,fun a ha=>A3.grow (h.rows a ha) hgr,h.d1,h.d2,h.b0lt,h.low⟩
theorem Z1.effset(h:Z1 w W base b0 bw eg hg sg wg g L m pa pk ca ck ha hk j j)(hj:j<m.code.length)
 {ta ua:Option Addr} {tk uk:Nat} (ht:W.ownsRow base 98 2 (.slice ta (F3 L m (A8 m j)).length tk) (F3 L m (A8 m j)).length ((F3 L m (A8 m j)).flatMap C1))
 (hu:W.ownsRow base 98 2 (.slice ua (C4 L (A8 m j)).length uk) (C4 L (A8 m j)).length ((C4 L (A8 m j)).flatMap C1)):
 Z1 w (((W.setCell ⟨eg,j*3,none⟩ (.slice ta (F3 L m (A8 m j)).length tk)).setCell ⟨eg,j*3+1,none⟩ (.slice ua (C4 L (A8 m j)).length uk)).setCell ⟨eg,j*3+2,none⟩ (.bool (V7 (A8 m j)))) base b0 bw eg hg sg wg g L m pa pk ca ck ha hk (j+1) j:=by
 obtain⟨cs,e1,e2,e3⟩:=h.eff;obtain⟨ds,s1,s2,s3⟩:=h.seen;have hb:=((e1.set (j*3) (.slice ta (F3 L m (A8 m j)).length tk)).set (j*3+1) (.slice ua (C4 L (A8 m j)).length uk)).set (j*3+2) (.bool (V7 (A8 m j)))
 have hgr:W.grownBy (((W.setCell ⟨eg,j*3,none⟩ (.slice ta (F3 L m (A8 m j)).length tk)).setCell ⟨eg,j*3+1,none⟩ (.slice ua (C4 L (A8 m j)).length uk)).setCell ⟨eg,j*3+2,none⟩ (.bool (V7 (A8 m j)))) (some eg):=
  A1 (A1 (A6 _ ⟨eg,j*3,none⟩ _) (A6 _ ⟨eg,j*3+1,none⟩ _)) (A6 _ ⟨eg,j*3+2,none⟩ _)
 generalize (((W.setCell ⟨eg,j*3,none⟩ (.slice ta (F3 L m (A8 m j)).length tk)).setCell ⟨eg,j*3+1,none⟩ (.slice ua (C4 L (A8 m j)).length uk)).setCell ⟨eg,j*3+2,none⟩ (.bool (V7 (A8 m j))))=W' at hb hgr⊢;have kp:∀{k:Nat} {c:Array Value} {t:TypeId},A3 W k c t→t≠315→A3 W' k c t:=fun hk ht'=>A3.keep hk hgr (fun e=>I7 hk e1 ht' (Option.some.inj e))
 refine⟨C7 h.gb hgr (fun k e=> .inl (by cases e;exact Nat.le_trans h.b0lt.2 h.low.2.1)),kp h.meth (by decide),kp h.walk (by decide),kp h.hts (by decide),kp h.wrong (by decide),⟨((cs.set (j*3) (.slice ta (F3 L m (A8 m j)).length tk)).set (j*3+1) (.slice ua (C4 L (A8 m j)).length uk)).set (j*3+2) (.bool (V7 (A8 m j))),?_,by simp[e2],fun a ha'=> ?_⟩,⟨ds,kp s1 (by decide),s2,s3⟩,fun a ha'=>kp (h.rows a ha') (by decide),h.d1,h.d2,h.b0lt,h.low⟩
 ·simpa using hb
 ·have hl:j*3+2<cs.length:=by rw[e2];omega
  by_cases e:a=j
  ·subst e;refine⟨ta,tk,ua,uk,?_,?_,?_,a3O ht hgr e1 (by decide),a3O hu hgr e1 (by decide)⟩
   ·simp[List.getElem?_set];omega
   ·simp[List.getElem?_set];omega
   ·simp[List.getElem?_set];omega
  ·obtain⟨ta',tk',ua',uk',h1,h2,h3,h4,h5⟩:=e3 a (by omega);refine⟨ta',tk',ua',uk',?_,?_,?_,a3O h4 hgr e1 (by decide),a3O h5 hgr e1 (by decide)⟩
   ·rw[←h1];simp only[List.getElem?_toArray,List.getElem?_set];rw[if_neg (by omega),if_neg (by omega),if_neg (by omega)]
   ·rw[←h2];simp only[List.getElem?_toArray,List.getElem?_set];rw[if_neg (by omega),if_neg (by omega),if_neg (by omega)]
   ·rw[←h3];simp only[List.getElem?_toArray,List.getElem?_set];rw[if_neg (by omega),if_neg (by omega),if_neg (by omega)]
theorem Z1.seenset(h:Z1 w W base b0 bw eg hg sg wg g L m pa pk ca ck ha hk (j+1) j)(hj:j<m.code.length)
 (hn:A3 W gn (List.replicate (m.stack+1) (Value.bool false)).toArray 4) (hbn:base≤gn) (hwn:gn≠wg) (hd:∀a,a<j→g a≠gn):
 Z1 w (W.setCell ⟨sg,j,none⟩ (.slice (some ⟨gn,0,none⟩) (m.stack+1) (m.stack+1))) base b0 bw eg hg sg wg (fun a=>if a=j then gn else g a) L m pa pk ca ck ha hk (j+1) (j+1):=by
 obtain⟨cs,e1,e2,e3⟩:=h.eff;obtain⟨ds,s1,s2,s3⟩:=h.seen;have hb:=s1.set j (.slice (some ⟨gn,0,none⟩) (m.stack+1) (m.stack+1));have hgr:W.grownBy (W.setCell ⟨sg,j,none⟩ (.slice (some ⟨gn,0,none⟩) (m.stack+1) (m.stack+1))) (some sg):=A6 _ ⟨sg,j,none⟩ _;generalize W.setCell ⟨sg,j,none⟩ (.slice (some ⟨gn,0,none⟩) (m.stack+1) (m.stack+1))=W' at hb hgr⊢;have kp:∀{k:Nat} {c:Array Value} {t:TypeId},A3 W k c t→t≠264→A3 W' k c t:=fun hk ht'=>A3.keep hk hgr (fun e=>I7 hk s1 ht' (Option.some.inj e))
 refine⟨C7 h.gb hgr (fun k e=> .inl (by cases e;exact Nat.le_trans h.b0lt.2 h.low.2.2.2.1)),kp h.meth (by decide),kp h.walk (by decide),kp h.hts (by decide),kp h.wrong (by decide),⟨cs,kp e1 (by decide),e2,fun a ha'=> ?_⟩,⟨ds.set j (.slice (some ⟨gn,0,none⟩) (m.stack+1) (m.stack+1)),by simpa using hb,by simp[s2],fun a ha'=> ?_⟩,fun a ha'=> ?_,fun a ha'=> ?_,fun a c ha' hc' he=> ?_,h.b0lt,h.low⟩
 ·obtain⟨ta',tk',ua',uk',h1,h2,h3,h4,h5⟩:=e3 a ha';exact⟨ta',tk',ua',uk',h1,h2,h3,a3O h4 hgr s1 (by decide),a3O h5 hgr s1 (by decide)⟩
 ·by_cases e:a=j
  ·subst e;simp[s2,hj]
  ·rw[List.getElem?_set,if_neg (fun e'=>e e'.symm)];simpa[e]using s3 a (by omega)
 ·try dsimp only
  by_cases e:a=j
  ·rw[if_pos e];exact kp hn (by decide)
  ·rw[if_neg e];exact kp (h.rows a (by omega)) (by decide)
 ·try dsimp only
  by_cases e:a=j
  ·rw[if_pos e];exact⟨hbn,hwn⟩
  ·rw[if_neg e];exact h.d1 a (by omega)
 ·try dsimp only at he
  by_cases e:a=j
  ·by_cases e':c=j
   ·rw[e,e']
   ·rw[if_pos e,if_neg e']at he;exact absurd he.symm (hd c (by omega))
  ·by_cases e':c=j
   ·rw[if_neg e,if_pos e']at he;exact absurd he (hd a (by omega))
   ·rw[if_neg e,if_neg e']at he;exact h.d2 a c (by omega) (by omega) he
theorem Z1.done(h:Z1 w W base b0 bw eg hg sg wg g L m pa pk ca ck ha hk m.code.length m.code.length):
 L3 W base bw eg hg sg wg g m pa pk ca ck ha hk m.code.length m.stack (X8 m) none 0:=by
 obtain⟨ds,s1,s2,s3⟩:=h.seen
 have hds:ds=(List.range m.code.length).map fun a=>Value.slice (some ⟨g a,0,none⟩) (m.stack+1) (m.stack+1):=by
  apply List.ext_getElem?;intro a;by_cases ha':a<m.code.length
  ·rw[s3 a ha'];simp[ha']
  ·rw[List.getElem?_eq_none (by omega),List.getElem?_eq_none (by simp;omega)]
 refine⟨h.walk,?_,by rw[←hds];exact s1,fun a ha'=> ?_,?_,⟨rfl, .inl ⟨rfl,rfl⟩⟩,fun a ha'=>(h.d1 a ha').2,fun a c ha' hc'=>h.d2 a c ha' hc',⟨h.low.1,h.low.2.2.1,h.low.2.2.2.1,h.low.2.2.2.2,fun a ha'=>(h.d1 a ha').1⟩⟩
 ·simpa[X8]using h.hts
 ·have:=h.rows a ha';simpa[X8,List.getD_eq_getElem?_getD,List.getElem?_replicate,ha']using this
 ·simpa[X8]using h.wrong
theorem Z1.effset2{i:In}(h:Z1 w W base b0 bw eg hg sg wg g L m pa pk ca ck ha hk j j)(hj:j<m.code.length)(hi:i=A8 m j)
 {ta ua:Option Addr} {tk uk:Nat} (ht:W.ownsRow base 98 2 (.slice ta (F3 L m i).length tk) (F3 L m i).length ((F3 L m i).flatMap C1))
 (hu:W.ownsRow base 98 2 (.slice ua (C4 L i).length uk) (C4 L i).length ((C4 L i).flatMap C1)):
 Z1 w (((W.setCell ⟨eg,j*3,none⟩ (.slice ta (F3 L m i).length tk)).setCell ⟨eg,j*3+1,none⟩ (.slice ua (C4 L i).length uk)).setCell ⟨eg,j*3+2,none⟩ (.bool (V7 i))) base b0 bw eg hg sg wg g L m pa pk ca ck ha hk (j+1) j:=by
 subst hi;exact h.effset hj ht hu
theorem Z1.seenset2{st1:Nat}(h:Z1 w W base b0 bw eg hg sg wg g L m pa pk ca ck ha hk (j+1) j)(hj:j<m.code.length)(hs:st1=m.stack+1)
 (hn:A3 W gn (List.replicate st1 (Value.bool false)).toArray 4) (hbn:base≤gn) (hwn:gn≠wg) (hd:∀a,a<j→g a≠gn):
 Z1 w (W.setCell ⟨sg,j,none⟩ (.slice (some ⟨gn,0,none⟩) st1 st1)) base b0 bw eg hg sg wg (fun a=>if a=j then gn else g a) L m pa pk ca ck ha hk (j+1) (j+1):=by
 subst hs;exact h.seenset hj hn hbn hwn hd
theorem b1m(h:w.ownsRow base 98 sz v n xs)(hf:Fr base0 w w'):w'.ownsRow base 98 sz v n xs:=by
 refine⟨h.1,?_⟩;rcases h.2 with h1|⟨g,cap,cur,hv,hb,hg,h2⟩
 ·exact .inl h1
 ·exact .inr ⟨g,cap,cur,hv,hb,hf.blk g cur (0,0) hg,h2⟩
theorem a0W.fr(h:a0W W base L m cs a)(hf:Fr base0 W W'):a0W W' base L m cs a:=by
 obtain⟨ta,tk,ua,uk,h1,h2,h3,h4,h5⟩:=h;exact⟨ta,tk,ua,uk,h1,h2,h3,b1m h4 hf,b1m h5 hf⟩
theorem c0p(h:w.grownBy W none)(hf:Fr base W W')(hb:w.heap.size≤base):w.grownBy W' none:=
 ⟨hf.os.trans h.os,hf.tape.trans h.tape,hf.output.trans h.output,Nat.le_trans h.size hf.size,fun k hk hne=>(hf.low k (Nat.lt_of_lt_of_le hk hb)).trans (h.block k hk hne)⟩
def b8K(w w':World)(L:List Cl)(m:Me)(pa:Option Addr)(pk:Nat)(ca:Option Addr)(ck:Nat)(ha:Option Addr)(hk:Nat)(e:Ending):Prop:=
 ∃(base b eg hg sg wg:Nat) (g:Nat→Nat) (s:Wk) (wa:Option Addr) (wk:Nat),e= .returned (.pointer (some ⟨b,0,none⟩))∧w.heap.size≤base∧base≤w'.heap.size∧L3 w' base b eg hg sg wg g m pa pk ca ck ha hk m.code.length m.stack s wa wk∧U4 L m s∧
  (∀a k,sq s.seen a k=true↔Cf.G3 L m a k)∧(∀a,wq s.wrong a=true↔a0e L m a)∧(∃cs:Array Value,A3 w' eg cs 315∧∀a,a<m.code.length→a0W w' base L m cs a)∧w.grownBy w' none
def SlM(c:Bool)(W:World)(base:Nat)(e:TypeId)(sz n:Nat)(xs:List Value)(v:Value):Prop:=
 (c=false∧v=undef)∨(c=true∧∃g,v= .slice (some ⟨g,0,none⟩) n n∧W.ownsRow base e sz v n xs)
theorem SlM.keep{c:Bool}(h:SlM c W base e sz n xs v)(hg:W.grownBy W' none):SlM c W' base e sz n xs v:=by
 rcases h with h|⟨h1,g,h2,h3⟩
 ·exact .inl h
 ·exact .inr ⟨h1,g,h2,h3.kept hg (by cases hv:(v:Value).ownBlock<;>simp)⟩
def SlR(c:Nat)(W:World)(base n:Nat)(v15 v17:Value):Prop:=
 (c=0∧v15=undef∧v17=undef)∨(c=1∧v17=undef∧∃g,v15= .slice (some ⟨g,0,none⟩) 1 1∧W.cell? ⟨g,0,none⟩=some (.int .i64 (-1)))∨
 (c=2∧∃g,v17= .slice (some ⟨g,0,none⟩) n n∧W.ownsRow base 3 1 v17 n (D7 n [.int .i64 (-1)]))
theorem SlR.keep{c:Nat}{v15 v17:Value}(h:SlR c W base n v15 v17)(hg:W.grownBy W' none):SlR c W' base n v15 v17:=by
 rcases h with h|⟨h1,h2,g,h3,h4⟩|⟨h1,g,h2,h3⟩
 ·exact .inl h
 ·exact .inr (.inl ⟨h1,h2,g,h3,hg.cell h4 (by simp)⟩)
 ·exact .inr (.inr ⟨h1,g,h2,h3.kept hg (by cases hv:(v17:Value).ownBlock<;>simp)⟩)
theorem a3b{g:Nat}(h:w.ownsRow base e sz (.slice (some ⟨g,0,none⟩) n n) n xs):A3 w g xs.toArray e∧base≤g:=by
 rcases h.2 with⟨hv,_⟩|⟨g',cap,cur,hv,hb,hg,_,_,hs,ht⟩
 ·cases hv
 ·cases hv;refine⟨?_,hb⟩;have:cur.toList=xs:=by rw[←ht,List.take_of_length_le (by simp[hs])]
  rw[←this];simpa[A3]using hg
def w2F(b b0 n:Nat)(ca:Option Addr)(ck:Nat)(mv v14 v15 v17 v19 v21:Value):Act:={tmps:= #[.pointer (some ⟨b,0,none⟩),mv,undef, .pointer (some ⟨b0,0,none⟩), .pointer none, .int .i64 n,undef,undef,undef, .pointer (some ⟨b0,6,none⟩), .slice ca n ck, .int .i64 n,mv, .int .i64 n,v14,v15, .int .i64 n,v17, .int .i64 n,v19, .int .i64 n,v21,undef,undef,undef,undef,undef,undef,undef,undef,undef,undef,undef,undef,undef,undef,undef,undef,undef,undef,undef,undef,undef,undef,undef,undef,undef,undef,undef,undef,undef,undef,undef,undef,undef,undef],defers:=[]}
abbrev FgW:=Bool×Bool×Bool×Fin 3
def w2L(c:FgW):Array Bool:= #[true,true,c.1,decide (1≤c.2.2.2.val),true,decide (2≤c.2.2.2.val),true,c.2.1,true,c.2.2.1,false,false,false]
def W2I(W1:World)(base b b0 n:Nat)(ca:Option Addr)(ck:Nat)(mv:Value)(zE zS zO:List Value)(c:FgW)(a:Act)(W:World):Prop:=
 ∃v14 v15 v17 v19 v21:Value,a=w2F b b0 n ca ck mv v14 v15 v17 v19 v21∧
  W1.grownBy W none∧SlM c.1 W base 315 3 n zE v14∧SlR c.2.2.2.val W base n v15 v17∧SlM c.2.1 W base 264 1 n zS v19∧SlM c.2.2.1 W base 4 1 n zO v21
theorem b9q:(Tryz.prog.info? 315).map (fun i=>(i.zero,i.size,i.bytes))=some (some (.agg #[.slice none 0 0, .slice none 0 0, .bool false]),3,56):=by kernel_rfl
theorem b9n:(Tryz.prog.info? 264).map (fun i=>(i.zero,i.size,i.bytes))=some (some (.slice none 0 0),1,24):=by kernel_rfl
theorem b9o:(Tryz.prog.info? 4).map (fun i=>(i.zero,i.size,i.bytes))=some (some (.bool false),1,1):=by kernel_rfl
set_option maxRecDepth 100000 in
set_option maxHeartbeats 40000000 in
theorem b3Y(w:World)(lim b:Nat)(L:List Cl)(m:Me)(pa ca ha:Option Addr)(pk ck hk:Nat)(hn:m.code.length≤65535)(p:Addr)(cap m1 m2 m3:Nat)(q:Nat→Qs)(h:Hid (Lk w lim b L p cap m1 m2 m3 q))(hl:lim≤w.heap.size)(hRc:Hid (C0 w lim 4 L8 ca m.code))(hRh:Hid (C0 w lim 4 M6 ha m.handlers))(hco:T2 L m)(hin:∀i∈m.code,a1s L i)(hst:m.stack≤255)(hhl:m.handlers.length≤65535):
 Calls Tryz.prog 128 #[.pointer (some ⟨b,0,none⟩), .agg (mV m pa pk ca ck ha hk)] w fun e w'=>b8K w w' L m pa pk ca ck ha hk e:=by
 have hio:=A0 (fun i hi=>(hin i hi).ok);have HFI:Hid (T2 L m∧(∀i∈m.code,a1s L i)∧m.code.length≤65535∧m.stack≤255∧m.handlers.length≤65535):=⟨hco,hin,hn,hst,hhl⟩
 clear hco hin hhl;go_enter Tryz.func128,Tryz.ntmps128;go_upto_region 2 with fail
 have hbk:A3 (w.alloc (.cells (mV m pa pk ca ck ha hk) 102)) w.heap.size (mV m pa pk ca ck ha hk) 102:=heap_alloc_new w _;have hgw:w.grownBy (w.alloc (.cells (mV m pa pk ca ck ha hk) 102)) none:=A2 w _ none;have hsz:=hbk.lt;generalize w.alloc (.cells (mV m pa pk ca ck ha hk) 102)=W1 at hbk hgw hsz⊢;obtain⟨inE,iE0,iE1,iE2,iE3⟩:=info_parts b9q;obtain⟨inS,iS0,iS1,iS2,iS3⟩:=info_parts b9n;obtain⟨inO,iO0,iO1,iO2,iO3⟩:=info_parts b9o;have HBK:Hid (A3 W1.drew w.heap.size (mV m pa pk ca ck ha hk) 102):=hbk;clear hbk;refine wp_region_held_drew (S:=(fun w'=>W1.drew.grownBy w' none)) (by kernel_rfl) (G1 _ _) (fun hHeld=> ?_);refine wpAnyH_take (i:=0) (v:= .agg (mV m pa pk ca ck ha hk)) rfl (by kernel_rfl) (by kernel_rfl) (by kernel_rfl) (fun _ _ _ h=>h) (Or.inl ⟨by rfl,?h0⟩) (by assumption) ?r0
 case h0=>
  intro w5 hSw;have h0:=hSw.cell (HBK.out.cell 0 _ rfl) (by simp);have h1:=hSw.cell (HBK.out.cell 1 _ rfl) (by simp);have h2:=hSw.cell (HBK.out.cell 2 _ rfl) (by simp);have h3:=hSw.cell (HBK.out.cell 3 _ rfl) (by simp);have h4:=hSw.cell (HBK.out.cell 4 _ rfl) (by simp);have h5:=hSw.cell (HBK.out.cell 5 _ rfl) (by simp);have h6:=hSw.cell (HBK.out.cell 6 _ rfl) (by simp);have h7:=hSw.cell (HBK.out.cell 7 _ rfl) (by simp);go_simp
  try rfl
 try simp only[Act.put,lz]
 refine A4 1 ?_;refine A4 4 ?_;refine A4 6 ?_;refine A4 8 ?_;have hs1:W1.drew.heap.size≤W1.drew.heap.size:=Nat.le_refl _;refine a8F w2L (fun c=>3+(!c.1).toNat+(!c.2.1).toNat+(!c.2.2.1).toNat+(2-c.2.2.2.val)) (W2I W1.drew W1.heap.size b w.heap.size m.code.length ca ck (.agg (mV m pa pk ca ck ha hk)) (madeCells (Value.agg #[.slice none 0 0, .slice none 0 0, .bool false]).cells (m.code.length*3)).toList (madeCells (Value.slice none 0 0).cells (m.code.length*1)).toList (madeCells (Value.bool false).cells (m.code.length*1)).toList) (fun c=>c.1&&c.2.1&&c.2.2.1&&decide (c.2.2.2.val=2)) (fun c i=>(i=2∧c.1=false)∨(i=3∧c.2.2.2.val=0)∨(i=5∧c.2.2.2.val=1)∨(i=7∧c.2.1=false)∨(i=9∧c.2.2.1=false)) ?hr ?hd ?hs (false,false,false,0) _ _ ⟨undef,undef,undef,undef,undef,rfl,hHeld, .inl ⟨rfl,rfl⟩, .inl ⟨rfl,rfl,rfl⟩, .inl ⟨rfl,rfl⟩, .inl ⟨rfl,rfl⟩⟩ _ _ rfl rfl
 case hr=>rintro⟨a,b,c,d⟩;revert a b c d;decide+kernel
 case hs=>
  rintro⟨c2,c7,c9,c⟩ a W ⟨v14,v15,v17,v19,v21,rfl,hgb,f14,f17,f19,f21⟩-i hi;have HBS:W1.heap.size≤W.heap.size:=hgb.size;have HK7:=A0 hn;dsimp only at hi f14 f17 f19 f21;rcases hi with⟨rfl,rfl⟩|⟨rfl,hc⟩|⟨rfl,hc⟩|⟨rfl,rfl⟩|⟨rfl,rfl⟩
  ·refine⟨_,rfl,fun K' hK=>(if_pos (by rfl)).mpr ?_⟩;refine a5h _ (.tmp 13) (.tmp 13) 305 rfl W1.heap.size 315 inE _ _ Tryz.underlying305 iE0 iE1 rfl .i64 .i64 m.code.length rfl rfl (by rw[iE3];have:=HK7.out;omega) (by have:=HK7.out;unfold maxLen;omega) HBS fun w' ho hg=> ?_
   rw[iE2]at ho;exact hK.out (true,c7,c9,c) _ _ (K2 hgb hg) ⟨_,_,_,_,_,rfl,K2 hgb hg, .inr ⟨rfl,_,rfl,ho⟩,f17.keep hg,f19.keep hg,f21.keep hg⟩ (by simp<;>omega) rfl
  ·rcases f17 with⟨_,rfl,rfl⟩|⟨h0,_⟩|⟨h0,_⟩<;>try omega
   obtain rfl:c=0:=Fin.ext hc;refine⟨_,rfl,fun K' hK=>(if_pos (by rfl)).mpr ?_⟩;go_simp
   have hg:W.grownBy (W.alloc (.cells #[.int .i64 (-1)] 3)) none:=A2 W _ none;exact hK.out (c2,c7,c9,1) _ _ (K2 hgb hg) ⟨_,_,_,_,_,rfl,K2 hgb hg,f14.keep hg, .inr (.inl ⟨rfl,rfl,_,rfl,O5 W _ _ 0 _ rfl⟩),f19.keep hg,f21.keep hg⟩ (by simp<;>omega) rfl
  ·rcases f17 with⟨h0,_⟩|⟨_,rfl,g3,rfl,hc3⟩|⟨h0,_⟩<;>try omega
   obtain rfl:c=1:=Fin.ext hc
   have hrep:=b8a W ⟨g3,0,none⟩ m.code.length 1 [.int .i64 (-1)] rfl (fun j v hj=>by
    cases j with
    |zero=>cases hj;exact hc3
    |succ j=>cases hj) (by simp[Value.oneCell']) (by have:=HK7.out;omega)
   refine⟨_,rfl,fun K' hK=>(if_pos (by rfl)).mpr ?_⟩;go_simp
   go_wp2_with (go_at_call 196;refine hrep.mono ?_;rintro e w' ⟨g,rfl,ho,hg⟩;dsimp only)
   exact hK.out (c2,c7,c9,2) _ _ (K2 hgb hg) ⟨_,_,_,_,_,rfl,K2 hgb hg,f14.keep hg, .inr (.inr ⟨rfl,g,rfl,S0 ho HBS⟩),f19.keep hg,f21.keep hg⟩ (by simp<;>omega) rfl
  ·refine⟨_,rfl,fun K' hK=>(if_pos (by rfl)).mpr ?_⟩;refine a5h _ (.tmp 18) (.tmp 18) 250 rfl W1.heap.size 264 inS _ _ Tryz.underlying250 iS0 iS1 rfl .i64 .i64 m.code.length rfl rfl (by rw[iS3];have:=HK7.out;omega) (by have:=HK7.out;unfold maxLen;omega) HBS fun w' ho hg=> ?_
   rw[iS2]at ho;exact hK.out (c2,true,c9,c) _ _ (K2 hgb hg) ⟨_,_,_,_,_,rfl,K2 hgb hg,f14.keep hg,f17.keep hg, .inr ⟨rfl,_,rfl,ho⟩,f21.keep hg⟩ (by simp<;>omega) rfl
  ·refine⟨_,rfl,fun K' hK=>(if_pos (by rfl)).mpr ?_⟩;refine a5h _ (.tmp 20) (.tmp 20) 264 rfl W1.heap.size 4 inO _ _ Tryz.underlying264 iO0 iO1 rfl .i64 .i64 m.code.length rfl rfl (by rw[iO3];have:=HK7.out;omega) (by have:=HK7.out;unfold maxLen;omega) HBS fun w' ho hg=> ?_
   rw[iO2]at ho;exact hK.out (c2,c7,true,c) _ _ (K2 hgb hg) ⟨_,_,_,_,_,rfl,K2 hgb hg,f14.keep hg,f17.keep hg,f19.keep hg, .inr ⟨rfl,_,rfl,ho⟩⟩ (by simp<;>omega) rfl
 case hd=>
  rintro⟨c2,c7,c9,c⟩ a W ⟨v14,v15,v17,v19,v21,rfl,hgb,f14,f17,f19,f21⟩ hdn;have HGB:=A0 hgb;have HBS:W1.heap.size≤W.heap.size:=hgb.size;have HK7:=A0 hn;simp only[Bool.and_eq_true,decide_eq_true_eq]at hdn;obtain⟨⟨⟨rfl,rfl⟩,rfl⟩,hc⟩:=hdn;obtain rfl:c=2:=Fin.ext hc;dsimp only at f14 f17 f19 f21;rcases f14 with⟨h0,_⟩|⟨_,g14,rfl,ho14⟩
  ·cases h0
  rcases f17 with⟨h0,_⟩|⟨h0,_⟩|⟨_,g17,rfl,ho17⟩
  ·cases h0
  ·cases h0
  rcases f19 with⟨h0,_⟩|⟨_,g19,rfl,ho19⟩
  ·cases h0
  rcases f21 with⟨h0,_⟩|⟨_,g21,rfl,ho21⟩
  ·cases h0
  have HO14:Hid (A3 W g14 _ 315∧W1.heap.size≤g14):=a3b ho14;have HO17:Hid (A3 W g17 _ 3∧W1.heap.size≤g17):=a3b ho17;have HO19:Hid (A3 W g19 _ 264∧W1.heap.size≤g19):=a3b ho19;have HO21:Hid (A3 W g21 _ 4∧W1.heap.size≤g21):=a3b ho21;clear ho14 ho17 ho19 ho21 hgb hc hHeld;unfold w2L w2F;dsimp only;show wpAnyH _ _ _ _ _ 3 _ _ _;have hgb:=HGB.out;refine A4 10 ?_;refine wpAnyH_ready (rs:=[11]) (by kernel_rfl) (by simp) ?_;refine AllReadyH.cons rfl (fun K hK=> ?_) AllReadyH.nil;go_simp
  refine hK.out _ _ ?_ (fun hHeld=> ?_)
  case refine_1=>exact K2 hgb (A2 _ _ _)
  try clear hK K
  try simp only[Act.put,lz]
  refine A4 12 ?_;refine wpAnyH_done (by kernel_rfl) ?_ _;have HM0:=A0 (A3.grow HBK.out hgb);obtain⟨WB,hWB⟩:∃WB,WB=W.alloc (.cells (WkV m pa pk ca ck ha hk g14 g17 g19 g21 m.code.length none 0 0).toArray 308):=⟨_,rfl⟩
  obtain⟨bw,hbw⟩:∃bw,bw=W.heap.size:=⟨_,rfl⟩
  have hg2:W.grownBy WB none:=by rw[hWB];exact A2 _ _ _
  have HW:Hid (Z1 w WB W1.heap.size w.heap.size bw g14 g17 g19 g21 (fun _=>0) L m pa pk ca ck ha hk 0 0):=by
   refine⟨K2 (K2 hgw (B8 _ _)) (K2 hgb hg2),A3.grow HM0.out hg2,by rw[hWB,hbw];exact heap_alloc_new W _,?_,?_,⟨_,A3.grow HO14.out.1 hg2,?_,fun a h=>absurd h (Nat.not_lt_zero _)⟩,⟨_,A3.grow HO19.out.1 hg2,?_,fun a h=>absurd h (Nat.not_lt_zero _)⟩,fun a h=>absurd h (Nat.not_lt_zero _),fun a h=>absurd h (Nat.not_lt_zero _),fun a c h=>absurd h (Nat.not_lt_zero _),⟨hsz,Nat.le_of_lt hsz⟩,⟨by rw[hbw];exact HBS,HO14.out.2,HO17.out.2,HO19.out.2,HO21.out.2⟩⟩
   ·have:=A3.grow HO17.out.1 hg2;have e:D7 m.code.length [Value.int .i64 (-1)]=List.replicate m.code.length (Value.int .i64 (-1)):=b4l _ _;rw[e]at this;exact this
   ·have:=A3.grow HO21.out.1 hg2;have e:(madeCells (Value.bool false).cells (m.code.length*1)).toList=List.replicate m.code.length (Value.bool false):=a9E _;rw[e]at this;exact this
   ·simp[madeCells,Value.cells]
   ·simp[madeCells,Value.cells]
  rw[←hbw];have hWB2:W.alloc (.cells #[.string m.name, .slice pa m.params.length pk, .int .i64 m.ret.kind, .string m.ret.name, .int .i64 m.stack, .int .i64 m.locals, .slice ca m.code.length ck, .slice ha m.handlers.length hk, .slice (some ⟨g14,0,none⟩) m.code.length m.code.length, .slice (some ⟨g17,0,none⟩) m.code.length m.code.length, .slice (some ⟨g19,0,none⟩) m.code.length m.code.length, .slice (some ⟨g21,0,none⟩) m.code.length m.code.length, .slice none 0 0] 308)=WB:=hWB.symm;rw[hWB2];clear hWB hWB2 hbw hg2 HM0 HO14 HO17 HO19 HO21 HGB hgb HBS;have c6:=HW.out.meth.cell 6 _ rfl;go_wp2_with fail
  go_loopw [27] (fun c W=>∃(j:Nat) (g:Nat→Nat),c= .int .i64 j∧j≤m.code.length∧Z1 w W W1.heap.size w.heap.size bw g14 g17 g19 g21 g L m pa pk ca ck ha hk j j) (fun c _=>m.code.length-(intOf c).toNat)
  case atStart=>exact⟨0,_,rfl,Nat.zero_le _,HW.out⟩
  case round=>
   obtain⟨j,g,rfl,hj,hI⟩:=hrel;have HI:=A0 hI;clear hI c6;by_cases hlt:j<m.code.length
   ·have HB2:=A0 (Nat.le_trans HI.out.low.1 (Nat.le_of_lt HI.out.walk.lt));obtain⟨pd,hpd,hpl,hcd⟩:=(C0.keep hRc.out HI.out.gb) j hlt;obtain⟨i,hi⟩:∃i,i=m.code[j]:=⟨_,rfl⟩
    rw[←hi]at hcd;have him:i∈m.code:=by rw[hi];exact List.getElem_mem hlt
    have hic:i=A8 m j:=by rw[hi];unfold A8;simp[hlt]
    subst hpd;have y0:wr.cell? (pd.add (j*4))=some (.int .i64 i.op):=hcd 0 _ rfl;have y1:wr.cell? ⟨(pd.add (j*4)).block,(pd.add (j*4)).off+1,none⟩=some (.int .i64 i.a):=by rw[B9 pd (j*4) 0];exact hcd 1 _ rfl
    have y2:wr.cell? ⟨(pd.add (j*4)).block,(pd.add (j*4)).off+2,none⟩=some (.string i.cls):=by rw[B9 pd (j*4) 1];exact hcd 2 _ rfl
    have y3:wr.cell? ⟨(pd.add (j*4)).block,(pd.add (j*4)).off+3,none⟩=some (.string i.mem):=by rw[B9 pd (j*4) 2];exact hcd 3 _ rfl
    have HIC:Hid (i=A8 m j∧a3l L i):=⟨hic,hio.out i him⟩
    have HPL:=A0 (Nat.lt_of_lt_of_le hpl hl);clear hcd hi him hic hpl;have hjI:(j:Int)<(m.code.length:Int):=by omega
    go_upto_region 6 with fail
    have hbi:A3 (wr.alloc (.cells #[.int .i64 i.op, .int .i64 i.a, .string i.cls, .string i.mem] 120)) wr.heap.size #[.int .i64 i.op, .int .i64 i.a, .string i.cls, .string i.mem] 120:=heap_alloc_new wr _;have hga:wr.grownBy (wr.alloc (.cells #[.int .i64 i.op, .int .i64 i.a, .string i.cls, .string i.mem] 120)) none:=A2 wr _ none;have HI2:=A0 (HI.out.keep (A1 hga (B8 _ _)));obtain⟨bi,hbi0⟩:∃bi,bi=wr.heap.size:=⟨_,rfl⟩
    have HBI0:=A0 hbi0;rw[←hbi0]at hbi;generalize wr.alloc (.cells #[.int .i64 i.op, .int .i64 i.a, .string i.cls, .string i.mem] 120)=W2 at hbi hga HI2⊢;have HGW:=A0 (K2 HI.out.gb hga);rw[←hbi0];clear hbi0 y0 y1 y2 y3;have HBI:Hid (A3 W2.drew bi #[.int .i64 i.op, .int .i64 i.a, .string i.cls, .string i.mem] 120):=hbi;clear hbi
    have HE:Hid (∀W,W2.grownBy W none→Calls Tryz.prog 197 #[.pointer (some ⟨b,0,none⟩), .agg (mV m pa pk (some pd) ck ha hk), .agg #[.int .i64 i.op, .int .i64 i.a, .string i.cls, .string i.mem]] W fun e w'=>W.grownBy w' none∧∃v,e= .returned v∧a6m w' W.heap.size L m i v):=fun W hW=>by
     exact a8D W lim b L p cap m1 m2 m3 q (h.out.keep (K2 HGW.out hW) hl) (Nat.le_trans hl (K2 HGW.out hW).size) m pa (some pd) ha pk ck hk i HIC.out.2
    refine wp_region_held_drew (S:=(fun w'=>A3 w' bw (WkV m pa pk (some pd) ck ha hk g14 g17 g19 g21 m.code.length none 0 0).toArray 308∧A3 w' w.heap.size (mV m pa pk (some pd) ck ha hk) 102∧A3 w' bi #[.int .i64 i.op, .int .i64 i.a, .string i.cls, .string i.mem] 120)) (by kernel_rfl) ⟨HI2.out.walk,HI2.out.meth,HBI.out⟩ (fun hHeld=> ?_);refine A4 0 ?_;refine A4 1 ?_;refine A4 2 ?_;refine wpAnyH_take (i:=3) (v:= .slice (some ⟨g14,0,none⟩) m.code.length m.code.length) rfl (by kernel_rfl) (by kernel_rfl) (by kernel_rfl) (fun _ _ _ h=>h) (Or.inl ⟨by rfl,?h4⟩) (by assumption) ?r4
    case h4=>
     intro w5 hSw;have q0:=hSw.1.cell 8 (.slice (some ⟨g14,0,none⟩) m.code.length m.code.length) rfl;go_simp
     try with_reducible rfl
    try simp only[Act.put,lz]
    refine A4 4 ?_;refine A4 5 ?_;refine wpAnyH_take (i:=6) (v:= .agg (mV m pa pk (some pd) ck ha hk)) rfl (by kernel_rfl) (by kernel_rfl) (by kernel_rfl) (fun _ _ _ h=>h) (Or.inl ⟨by rfl,?h7⟩) (by assumption) ?r7
    case h7=>
     intro w5 hSw;have q0:=hSw.2.1.cell 0 _ rfl;have q1:=hSw.2.1.cell 1 _ rfl;have q2:=hSw.2.1.cell 2 _ rfl;have q3:=hSw.2.1.cell 3 _ rfl;have q4:=hSw.2.1.cell 4 _ rfl;have q5:=hSw.2.1.cell 5 _ rfl;have q6:=hSw.2.1.cell 6 _ rfl;have q7:=hSw.2.1.cell 7 _ rfl;go_simp
     try with_reducible rfl
    try simp only[Act.put,lz]
    refine wpAnyH_take (i:=7) (v:= .agg #[.int .i64 i.op, .int .i64 i.a, .string i.cls, .string i.mem]) rfl (by kernel_rfl) (by kernel_rfl) (by kernel_rfl) (fun _ _ _ h=>h) (Or.inl ⟨by rfl,?h8⟩) (by assumption) ?r8
    case h8=>
     intro w5 hSw;have q0:=hSw.2.2.cell 0 _ rfl;have q1:=hSw.2.2.cell 1 _ rfl;have q2:=hSw.2.2.cell 2 _ rfl;have q3:=hSw.2.2.cell 3 _ rfl;go_simp
     try with_reducible rfl
    try simp only[Act.put,lz]
    refine wpAnyH_ready (rs:=[8]) (by kernel_rfl) (by simp) ?_;refine AllReadyH.cons rfl (fun K hK=> ?_) AllReadyH.nil;go_simp
    go_wp2_with (go_at_call 197;refine(HE.out W2.drew (B8 _ _)).mono ?_;rintro e w3 ⟨hg3,v,rfl,hv⟩;dsimp only)
    refine hK.out _ _ ⟨A3.grow hHeld.1 hg3,A3.grow hHeld.2.1 hg3,A3.grow hHeld.2.2 hg3⟩ (fun hHeld3=> ?_);try clear hK K
    obtain⟨ta,tk,ua,uk,rfl,ho1,ho2⟩:=hv;have HI3:=A0 (HI2.out.keep hg3);have HEV:Hid (w3.ownsRow W1.heap.size 98 2 (.slice ta (F3 L m i).length tk) (F3 L m i).length ((F3 L m i).flatMap C1)∧w3.ownsRow W1.heap.size 98 2 (.slice ua (C4 L i).length uk) (C4 L i).length ((C4 L i).flatMap C1)):=⟨S0 ho1 (Nat.le_trans HB2.out hga.size),S0 ho2 (Nat.le_trans HB2.out hga.size)⟩
    clear ho1 ho2;obtain⟨cs,hcs,hcsl,hca⟩:=HI3.out.eff;have hj3:j*3+3≤cs.length:=by rw[hcsl];omega
    obtain⟨u0,x0⟩:∃u,w3.cell? ⟨g14,j*3,none⟩=some u:=⟨_,U9 hcs (j*3) (cs[j*3]'(by omega)) (List.getElem?_eq_getElem (by omega))⟩
    obtain⟨u1,x1⟩:∃u,w3.cell? ⟨g14,j*3+1,none⟩=some u:=⟨_,U9 hcs (j*3+1) (cs[j*3+1]'(by omega)) (List.getElem?_eq_getElem (by omega))⟩
    obtain⟨u2,x2⟩:∃u,w3.cell? ⟨g14,j*3+2,none⟩=some u:=⟨_,U9 hcs (j*3+2) (cs[j*3+2]'(by omega)) (List.getElem?_eq_getElem (by omega))⟩
    have z0:=hcs.frozen (j*3);have z1:=hcs.frozen (j*3+1);have z2:=hcs.frozen (j*3+2);have HCS:Hid (A3 w3 g14 cs.toArray 315∧cs.length=m.code.length*3∧∀a,a<j→a0W w3 W1.heap.size L m cs.toArray a):=⟨hcs,hcsl,hca⟩
    clear hcs hcsl hca hj3;try simp only[Act.put,lz]
    refine A4 9 ?_;refine wpAnyH_ready (rs:=[10]) (by kernel_rfl) (by simp) ?_;refine AllReadyH.cons rfl (fun K hK=> ?_) AllReadyH.nil;go_simp
    have HI4:=A0 (HI3.out.effset2 hlt HIC.out.1 HEV.out.1 HEV.out.2);have hg4:w3.grownBy (((w3.setCell ⟨g14,j*3,none⟩ (.slice ta (F3 L m i).length tk)).setCell ⟨g14,j*3+1,none⟩ (.slice ua (C4 L i).length uk)).setCell ⟨g14,j*3+2,none⟩ (.bool (V7 i))) (some g14):=A1 (A1 (A6 _ ⟨g14,j*3,none⟩ _) (A6 _ ⟨g14,j*3+1,none⟩ _)) (A6 _ ⟨g14,j*3+2,none⟩ _);refine hK.out _ _ ⟨HI4.out.walk,HI4.out.meth,A3.keep hHeld3.2.2 hg4 (fun e=>I7 hHeld3.2.2 HCS.out.1 (by decide) (Option.some.inj e))⟩ (fun hHeld4=> ?_);clear hK K hHeld hHeld3 hHeld4 x0 x1 x2 z0 z1 z2 HCS HEV HI3 hg3 hg4;refine wpAnyH_done (by kernel_rfl) ?_ _;generalize (((w3.setCell ⟨g14,j*3,none⟩ (.slice ta (F3 L m i).length tk)).setCell ⟨g14,j*3+1,none⟩ (.slice ua (C4 L i).length uk)).setCell ⟨g14,j*3+2,none⟩ (.bool (V7 i)))=W4 at HI4⊢;go_upto_region 7 with fail
    obtain⟨st1,hst1⟩:∃st1,st1=m.stack+1:=⟨_,rfl⟩
    have e7:IntKind.i64.wrap ((m.stack:Int)+1)=(st1:Int):=by rw[IntKind.wrap_i64,hst1];omega
    have HST:Hid (st1=m.stack+1∧st1≤256):=⟨hst1,by omega⟩
    clear hst1;have HI5:=A0 (HI4.out.keep (B8 _ _));clear HI4;refine wp_region_held_drew (S:=(fun w'=>A3 w' bw (WkV m pa pk (some pd) ck ha hk g14 g17 g19 g21 m.code.length none 0 0).toArray 308∧A3 w' w.heap.size (mV m pa pk (some pd) ck ha hk) 102)) (by kernel_rfl) ⟨HI5.out.walk,HI5.out.meth⟩ (fun hHeld=> ?_);refine A4 0 ?_;refine A4 1 ?_;refine A4 2 ?_;refine wpAnyH_take (i:=3) (v:= .slice (some ⟨g19,0,none⟩) m.code.length m.code.length) rfl (by kernel_rfl) (by kernel_rfl) (by kernel_rfl) (fun _ _ _ h=>h) (Or.inl ⟨by rfl,?h13⟩) (by assumption) ?r13
    case h13=>
     intro w5 hSw;have q0:=hSw.1.cell 10 (.slice (some ⟨g19,0,none⟩) m.code.length m.code.length) rfl;go_simp
     try with_reducible rfl
    try simp only[Act.put,lz]
    refine A4 4 ?_;refine A4 5 ?_;refine wpAnyH_take (i:=6) (v:= .int .i64 m.stack) rfl (by kernel_rfl) (by kernel_rfl) (by kernel_rfl) (fun _ _ _ h=>h) (Or.inl ⟨by rfl,?h16⟩) (by assumption) ?r16
    case h16=>
     intro w5 hSw;have q0:=hSw.2.cell 4 (.int .i64 m.stack) rfl;go_simp
     try with_reducible rfl
    try simp only[Act.put,lz]
    refine A4 7 ?_;refine wpAnyH_ready (rs:=[8]) (by kernel_rfl) (by simp) ?_;refine AllReadyH.cons rfl (fun K hK=> ?_) AllReadyH.nil;refine(if_pos (by rfl)).mpr ?_;refine a5h _ (.tmp 49) (.tmp 49) 264 rfl W4.drew.heap.size 4 inO _ 1 Tryz.underlying264 iO0 iO1 iO2 .i64 .i64 st1 rfl rfl (by rw[iO3];have:=HST.out.2;omega) (by have:=HST.out.2;unfold maxLen;omega) (Nat.le_refl _) ?_;intro w5 ho5 hg5;have hb5:=(a3b ho5).1;have HN5:Hid (A3 w5 W4.drew.heap.size (List.replicate st1 (Value.bool false)).toArray 4):=by rw[a9E]at hb5;exact hb5
    clear ho5 hb5;refine hK.out _ _ ⟨A3.grow hHeld.1 hg5,A3.grow hHeld.2 hg5⟩ (fun hHeld5=> ?_);clear hK K;have HI6:=A0 (HI5.out.keep hg5);obtain⟨gn,hgn⟩:∃gn,gn=W4.drew.heap.size:=⟨_,rfl⟩
    have HGN:Hid (W1.heap.size≤gn∧gn≠g21∧∀a,a<j→g a≠gn):=by
     refine⟨?_,?_,fun a ha=> ?_⟩
     ·rw[hgn];exact Nat.le_trans HI5.out.low.1 (Nat.le_of_lt HI5.out.walk.lt)
     ·rw[hgn];exact Nat.ne_of_gt HI5.out.wrong.lt
     ·rw[hgn];exact Nat.ne_of_lt (HI5.out.rows a ha).lt
    rw[←hgn]at HN5;rw[←hgn];clear hgn;obtain⟨ds,hds,hdl,-⟩:=HI6.out.seen;obtain⟨u0,x0⟩:∃u,w5.cell? ⟨g19,j,none⟩=some u:=⟨_,U9 hds j (ds[j]'(by omega)) (List.getElem?_eq_getElem (by omega))⟩
    have z0:=hds.frozen j;clear hds hdl HI5 hHeld hg5;try simp only[Act.put,lz]
    refine A4 9 ?_;refine wpAnyH_ready (rs:=[10]) (by kernel_rfl) (by simp) ?_;refine AllReadyH.cons rfl (fun K hK=> ?_) AllReadyH.nil;go_simp
    have HI7:=A0 (HI6.out.seenset2 hlt HST.out.1 HN5.out HGN.out.1 HGN.out.2.1 HGN.out.2.2);refine hK.out _ _ ⟨HI7.out.walk,HI7.out.meth⟩ (fun hHeld7=> ?_);clear hK K hHeld5 hHeld7 x0 z0 HI6;refine wpAnyH_done (by kernel_rfl) ?_ _;go_wp2_with fail
    go_roundw
    case rel=>exact⟨j+1,_,by first|rfl|go_num,by omega,HI7.out⟩
    case measure=>first|omega|(go_num;omega)|(simp[intOf];omega)
   ·have hjn:m.code.length=j:=by omega
    subst hjn;have HM:=A0 HI.out.done;obtain⟨cs,ce1,ce2,ce3⟩:=HI.out.eff
    have HE:Hid (a4Z wr g14 L m):=⟨cs.toArray,ce1,fun a ha'=>by
     obtain⟨ta,tk,ua,uk,h1,h2,h3,-⟩:=ce3 a ha';exact⟨ta,tk,ua,uk,h1,h2,h3⟩⟩
    have HCE:Hid (A3 wr g14 cs.toArray 315∧∀a,a<m.code.length→a0W wr W1.heap.size L m cs.toArray a):=⟨ce1,ce3⟩
    clear ce1 ce2 ce3;have HBW:=A0 (Nat.le_trans HI.out.low.1 (Nat.le_of_lt HI.out.walk.lt));have HRC:=A0 (C0.keep hRc.out HI.out.gb);have HRH:=A0 (C0.keep hRh.out HI.out.gb);have HRUN:=b7Z wr W1.heap.size bw g14 g17 g19 g21 g L m pa pk ca ck ha hk (X8 m) rfl 0 HM HE lim (Nat.le_trans hl (Nat.le_of_lt hsz)) HBW.out HRC HRH HFI.out.1 HFI.out.2.1 HFI.out.2.2.1 HFI.out.2.2.2.1 HFI.out.2.2.2.2;go_wp2_with (go_at_call 198;refine HRUN.mono ?_;rintro e w9 ⟨rfl,s9,wa9,wk9,hM9,hS9,hR9,hW9,hF9⟩;dsimp only)
    go_ret;have hsz2:=Nat.le_of_lt hsz;exact⟨W1.heap.size,bw,g14,g17,g19,g21,g,s9,wa9,wk9,rfl,hsz2,Nat.le_trans HBW.out hF9.size,hM9,hS9,hR9,hW9,⟨cs.toArray,hF9.eff _ _ _ HCE.out.1,fun a ha'=>(HCE.out.2 a ha').fr hF9⟩,c0p HI.out.gb hF9 hsz2⟩
def a8f(l:List Bool)(r:Int):Prop:=(r= -1∧∀i,l.getD i false=false)∨∃k:Nat,r=(k:Int)∧k<l.length∧l.getD k false=true∧∀i,i<k→l.getD i false=false
set_option maxRecDepth 100000 in
set_option maxHeartbeats 4000000 in
theorem b2s(w:World)(g:Nat)(l:List Bool)(hb:A3 w g (l.map Value.bool).toArray 4)(hl:l.length≤65535):
 Calls Tryz.prog 251 #[.slice (some ⟨g,0,none⟩) l.length l.length, .bool true] w fun e w'=>(∃r,e= .returned (.int .i64 r)∧a8f l r)∧w'=w:=by
 have HB:=A0 hb;obtain⟨n,hn⟩:∃n,n=l.length:=⟨_,rfl⟩
 have HN:=A0 hn;rw[←hn]at hl⊢;clear hb hn;go_enter Tryz.func251,Tryz.ntmps251;go_wp2_with fail
 go_loopw [8] (fun c W=>∃j:Nat,c= .int .i64 j∧j≤n∧W=w∧∀i,i<j→l.getD i false=false) (fun c _=>n-(intOf c).toNat)
 case atStart=>exact⟨0,rfl,Nat.zero_le _,rfl,fun i hi=>absurd hi (Nat.not_lt_zero _)⟩
 case round=>
  obtain⟨j,rfl,hj,rfl,hall⟩:=hrel;have HALL:=A0 hall;clear hall;by_cases hlt:j<n
  ·have hjI:(j:Int)<(n:Int):=by omega
   have hjl:j<l.length:=by rw[←HN.out];exact hlt
   obtain⟨x,hx⟩:∃x,x=l.getD j false:=⟨_,rfl⟩
   have HX:=A0 hx;have c0:wr.cell? ⟨g,j,none⟩=some (.bool x):=U9 HB.out j _ (by rw[hx];simp[hjl]);clear hx;cases x with
   |true=>
    go_wp2_with fail
    refine bodyPost_ret (v:= .int .i64 j) (by simp[results,Tryz.results251,go_sem]) rfl ⟨⟨_,rfl, .inr ⟨j,rfl,hjl,HX.out.symm,HALL.out⟩⟩,by first|rfl|trivial⟩
   |false=>
    go_wp2_with fail
    go_roundw
    case rel=>exact⟨j+1,by first|rfl|go_num,by omega,by first|rfl|trivial,fun i hi=>by
     by_cases e:i=j
     ·rw[e];exact HX.out.symm
     ·exact HALL.out i (by omega)⟩
    case measure=>first|omega|(go_num;omega)|(simp[intOf];omega)
  ·have hjn:n=j:=by omega
   subst hjn;go_wp2_with fail
   go_ret
   exact⟨⟨_,rfl, .inl ⟨rfl,fun i=>by
    by_cases hi:i<n
    ·exact HALL.out i hi
    ·rw[List.getD_eq_getElem?_getD,List.getElem?_eq_none (by have:=HN.out;omega)];rfl⟩⟩,by first|rfl|trivial⟩
set_option maxRecDepth 100000 in
set_option maxHeartbeats 4000000 in
theorem b2j(w:World)(base b eg hg sg wg:Nat)(g:Nat→Nat)(m:Me)(pa:Option Addr)(pk:Nat)(ca:Option Addr)(ck:Nat)(ha:Option Addr)(hk:Nat)(s:Wk)(wa:Option Addr)(wk:Nat)
 (h:Hid (L3 w base b eg hg sg wg g m pa pk ca ck ha hk m.code.length m.stack s wa wk)) (hl2:s.wrong.length=m.code.length) (hn:m.code.length≤65535):
 Calls Tryz.prog 165 #[.pointer (some ⟨b,0,none⟩)] w fun e w'=>(∃r,e= .returned (.tuple #[.int .i64 r, .bool (decide (0≤r))])∧a8f s.wrong r)∧w'=w:=by
 have c11:w.cell? ⟨b,11,none⟩=some (.slice (some ⟨wg,0,none⟩) m.code.length m.code.length):=h.out.blk.cell 11 _ rfl;have hI:=b2s w wg s.wrong h.out.wrong (by omega);rw[hl2]at hI;clear hl2;go_enter Tryz.func165,Tryz.ntmps165;go_wp2_with (go_at_call 251;refine hI.mono ?_;rintro e w' ⟨⟨r,rfl,hr⟩,rfl⟩;dsimp only)
 go_ret2
 exact⟨⟨r,rfl,hr⟩,rfl⟩
theorem a9m(h:m.code.length=0∨m.locals<1+m.params.length):f8 L m=some 0:=by unfold f8;rw[if_pos h]
theorem b4U(h:¬(m.code.length=0∨m.locals<1+m.params.length))(hj:j<m.code.length)(hb:a0h L m j=true)(hall:∀i,i<j→a0h L m i=false):f8 L m=some j:=by
 unfold f8;rw[if_neg h,a5e hj hb hall]
theorem a8B{p:Nat→Bool}(hall:∀i,i<n→p i=false):o6 p n=none:=by
 unfold o6;rw[List.find?_eq_none];intro x hx;simp[hall x (List.mem_range.1 hx)]
theorem b7O(h:¬(m.code.length=0∨m.locals<1+m.params.length))(hall:∀i,i<m.code.length→a0h L m i=false)(hj:j<m.handlers.length)(hb:a0V L m m.handlers[j]=true)(hh:∀i (hi:i<m.handlers.length),i<j→a0V L m m.handlers[i]=false):f8 L m=some m.handlers[j].from_:=by
 unfold f8;rw[if_neg h,a8B hall];dsimp only
 have:m.handlers.find? (a0V L m)=some m.handlers[j]:=by
  rw[List.find?_eq_some_iff_getElem];exact⟨hb,j,hj,rfl,fun i hi=>by simp[hh i (by omega) hi]⟩
 rw[this];rfl
theorem b4T(h:¬(m.code.length=0∨m.locals<1+m.params.length))(hall:∀i,i<m.code.length→a0h L m i=false)(hh:∀i (hi:i<m.handlers.length),a0V L m m.handlers[i]=false):f8 L m=none:=by
 unfold f8;rw[if_neg h,a8B hall];dsimp only
 have:m.handlers.find? (a0V L m)=none:=by
  rw[List.find?_eq_none];intro x hx;obtain⟨i,hi,rfl⟩:=List.getElem_of_mem hx;simp[hh i hi]
 rw[this];rfl
set_option maxRecDepth 100000 in
set_option maxHeartbeats 40000000 in
theorem b2w(w:World)(lim b:Nat)(L:List Cl)(m:Me)(pa ca ha:Option Addr)(pk ck hk:Nat)(hn:m.code.length≤65535)(p:Addr)(cap m1 m2 m3:Nat)(q:Nat→Qs)(h:Hid (Lk w lim b L p cap m1 m2 m3 q))(hl:lim≤w.heap.size)(hRc:Hid (C0 w lim 4 L8 ca m.code))(hRh:Hid (C0 w lim 4 M6 ha m.handlers))(hin:Hid (∀i∈m.code,i.cls.size≤maxLen∧i.mem.size≤maxLen))(hhd:Hid (∀d∈m.handlers,d.cls.size≤maxLen))(hpl:m.params.length≤65535)(hhl:m.handlers.length≤65535):
 Calls Tryz.prog 164 #[.pointer (some ⟨b,0,none⟩), .agg #[.string m.name, .slice pa m.params.length pk, .int .i64 m.ret.kind, .string m.ret.name, .int .i64 m.stack, .int .i64 m.locals, .slice ca m.code.length ck, .slice ha m.handlers.length hk]] w fun e w'=>e= .returned (.tuple #[.int .i64 ((f8 L m).getD 0:Nat), .bool (f8 L m).isSome])∧w.grownBy w' none:=by
 obtain⟨F,hF⟩:∃F,F=f8 L m:=⟨_,rfl⟩
 have HF:=A0 hF;rw[←hF];clear hF;have HGA:Hid (w.grownBy (w.alloc (.cells #[.string m.name, .slice pa m.params.length pk, .int .i64 m.ret.kind, .string m.ret.name, .int .i64 m.stack, .int .i64 m.locals, .slice ca m.code.length ck, .slice ha m.handlers.length hk] 102)) none):=A2 _ _ _;by_cases h0:m.code.length=0
 ·have HZ:=A0 (HF.out.trans (a9m (.inl h0)));rw[HZ.out];rw[h0]at HGA⊢;clear hn h0;go_enter Tryz.func164,Tryz.ntmps164;go_wp2_with fail
  go_ret2
  exact⟨rfl,HGA.out⟩
 have hz:((m.code.length:Int)==0)=false:=by rw[beq_eq_false_iff_ne];omega
 by_cases h1:m.locals<1+m.params.length
 ·have HZ:=A0 (HF.out.trans (a9m (.inr h1)));have h1I:(m.locals:Int)<1+(m.params.length:Int):=by omega
  rw[HZ.out];go_enter Tryz.func164,Tryz.ntmps164;go_wp2_with fail
  go_ret2
  exact⟨rfl,HGA.out⟩
 have h1I:¬(m.locals:Int)<1+(m.params.length:Int):=by omega
 have HNZ:Hid (¬(m.code.length=0∨m.locals<1+m.params.length)):=by rintro(e|e);exact h0 e;exact h1 e
 clear h0 h1;go_enter Tryz.func164,Tryz.ntmps164;go_wp2_with fail
 obtain⟨W1,hW1⟩:∃W1,W1=w.alloc (.cells #[.string m.name, .slice pa m.params.length pk, .int .i64 m.ret.kind, .string m.ret.name, .int .i64 m.stack, .int .i64 m.locals, .slice ca m.code.length ck, .slice ha m.handlers.length hk] 102):=⟨_,rfl⟩
 have HG1:Hid (w.grownBy W1 none):=by rw[hW1];exact HGA.out
 have HB1:Hid (A3 W1 w.heap.size #[.string m.name, .slice pa m.params.length pk, .int .i64 m.ret.kind, .string m.ret.name, .int .i64 m.stack, .int .i64 m.locals, .slice ca m.code.length ck, .slice ha m.handlers.length hk] 102):=by rw[hW1];exact A3.new w _ _
 rw[←hW1];clear hW1 HGA h1I hz;go_loopw [28] (fun c W=>∃j:Nat,c= .int .i64 j∧j≤m.code.length∧W1.grownBy W none∧∀i,i<j→a0h L m i=false) (fun c _=>m.code.length-(intOf c).toNat)
 case atStart=>exact⟨0,rfl,Nat.zero_le _,G1 _ _,fun i hi=>absurd hi (Nat.not_lt_zero _)⟩
 case round=>
  obtain⟨j,rfl,hj,hgr,hall⟩:=hrel;have HGW:=A0 (A1 HG1.out hgr);have HG1W:=A0 hgr;have HBW:=A0 (HB1.out.keep hgr A7);have HALL:=A0 hall;clear hgr hall;by_cases hlt:j<m.code.length
  ·obtain⟨pd,hpd,hpl,hcd⟩:=(C0.keep hRc.out HGW.out) j hlt;obtain⟨i,hi⟩:∃i,i=m.code[j]:=⟨_,rfl⟩
   rw[←hi]at hcd;have him:=hin.out i (by rw[hi];exact List.getElem_mem hlt);have HIC:Hid (i=A8 m j):=by unfold Hid;rw[hi];unfold A8;simp[hlt]
   subst hpd;have y0:wr.cell? (pd.add (j*4))=some (.int .i64 i.op):=hcd 0 _ rfl;have y1:wr.cell? ⟨(pd.add (j*4)).block,(pd.add (j*4)).off+1,none⟩=some (.int .i64 i.a):=by rw[B9 pd (j*4) 0];exact hcd 1 _ rfl
   have y2:wr.cell? ⟨(pd.add (j*4)).block,(pd.add (j*4)).off+2,none⟩=some (.string i.cls):=by rw[B9 pd (j*4) 1];exact hcd 2 _ rfl
   have y3:wr.cell? ⟨(pd.add (j*4)).block,(pd.add (j*4)).off+3,none⟩=some (.string i.mem):=by rw[B9 pd (j*4) 2];exact hcd 3 _ rfl
   have HIT:=A0 (fun W hW=>b3F W lim b L p cap m1 m2 m3 q (h.out.keep hW hl) (Nat.le_trans hl hW.size) m pa (some pd) ha pk ck hk i him.1 him.2);have HIE:=A0 (fun W=>b5S W i.op);have HCB:Hid (a0h L m j=(!L7 L m i||(decide (j+1=m.code.length)&& !a1o i.op))):=by unfold Hid a0h;rw[←HIC.out]
   have hjI:(j:Int)<(m.code.length:Int):=by omega
   have hwl:=HBW.out.lt;have k0:=(HBW.out).cell 0 _ rfl;have k1:=(HBW.out).cell 1 _ rfl;have k2:=(HBW.out).cell 2 _ rfl;have k3:=(HBW.out).cell 3 _ rfl;have k4:=(HBW.out).cell 4 _ rfl;have k5:=(HBW.out).cell 5 _ rfl;have k6:=(HBW.out).cell 6 _ rfl;have k7:=(HBW.out).cell 7 _ rfl;clear hcd hi him hpl;obtain⟨nd,hnd⟩:∃nd,nd=L7 L m i:=⟨_,rfl⟩
   obtain⟨ie,hie⟩:∃ie,ie=a1o i.op:=⟨_,rfl⟩
   rw[←hnd]at HIT HCB;rw[←hie]at HIE HCB;clear hnd hie;have HRET:=A0 (fun hb=>HF.out.trans (b4U HNZ.out hlt hb HALL.out));cases nd with
   |false=>
    have HFJ:=A0 (HRET.out (by rw[HCB.out];rfl));go_wp2_with (first|(go_at_call 229;go_loud (refine(HIT.out _ (A1 HGW.out (A2 _ _ none))).mono ?_;rintro e w1 ⟨rfl,hg1⟩;obtain⟨hc1,hf1⟩:=e8 hg1;have hz1:wr.heap.size<w1.heap.size:=by(have:=hg1.size;simp only[World.size_alloc]at this;omega)))|(go_at_call 250;go_loud (refine(HIE.out _).mono ?_;rintro e w9 ⟨rfl,rfl⟩)))
    exact bodyPost_ret (v:= .tuple #[.int .i64 j, .bool true]) (by simp[results,Tryz.results164,go_sem]) rfl ⟨by rw[HFJ.out];rfl,A1 (A1 HGW.out (A2 _ _ none)) hg1⟩
   |true=>
    by_cases hjn:j+1=m.code.length
    ·have hjnI:((j:Int)==(m.code.length:Int)-1)=true:=by rw[beq_iff_eq];omega
     have HJN:=A0 hjn;clear hjn;cases ie with
     |false=>
      have HFJ:=A0 (HRET.out (by rw[HCB.out];simp[HJN.out]));go_wp2_with (first|(go_at_call 229;go_loud (refine(HIT.out _ (A1 HGW.out (A2 _ _ none))).mono ?_;rintro e w1 ⟨rfl,hg1⟩;obtain⟨hc1,hf1⟩:=e8 hg1;have hz1:wr.heap.size<w1.heap.size:=by(have:=hg1.size;simp only[World.size_alloc]at this;omega)))|(go_at_call 250;go_loud (refine(HIE.out _).mono ?_;rintro e w9 ⟨rfl,rfl⟩)))
      exact bodyPost_ret (v:= .tuple #[.int .i64 j, .bool true]) (by simp[results,Tryz.results164,go_sem]) rfl ⟨by rw[HFJ.out];rfl,A1 (A1 HGW.out (A2 _ _ none)) hg1⟩
     |true=>
      have HCF:Hid (a0h L m j=false):=by unfold Hid;rw[HCB.out];simp
      go_wp2_with (first|(go_at_call 229;go_loud (refine(HIT.out _ (A1 HGW.out (A2 _ _ none))).mono ?_;rintro e w1 ⟨rfl,hg1⟩;obtain⟨hc1,hf1⟩:=e8 hg1;have hz1:wr.heap.size<w1.heap.size:=by(have:=hg1.size;simp only[World.size_alloc]at this;omega)))|(go_at_call 250;go_loud (refine(HIE.out _).mono ?_;rintro e w9 ⟨rfl,rfl⟩)))
      go_roundw
      case rel=>exact⟨j+1,by first|rfl|go_num,by omega,A1 (A1 HG1W.out (A2 _ _ none)) hg1,fun r hr=>by
       by_cases e:r=j
       ·rw[e];exact HCF.out
       ·exact HALL.out r (by omega)⟩
      case measure=>first|omega|(go_num;omega)|(simp[intOf];omega)
    ·have hjnI:((j:Int)==(m.code.length:Int)-1)=false:=by rw[beq_eq_false_iff_ne];omega
     have HCF:Hid (a0h L m j=false):=by unfold Hid;rw[HCB.out];simp[hjn]
     clear hjn;go_wp2_with (first|(go_at_call 229;go_loud (refine(HIT.out _ (A1 HGW.out (A2 _ _ none))).mono ?_;rintro e w1 ⟨rfl,hg1⟩;obtain⟨hc1,hf1⟩:=e8 hg1;have hz1:wr.heap.size<w1.heap.size:=by(have:=hg1.size;simp only[World.size_alloc]at this;omega)))|(go_at_call 250;go_loud (refine(HIE.out _).mono ?_;rintro e w9 ⟨rfl,rfl⟩)))
     go_roundw
     case rel=>exact⟨j+1,by first|rfl|go_num,by omega,A1 (A1 HG1W.out (A2 _ _ none)) hg1,fun r hr=>by
      by_cases e:r=j
      ·rw[e];exact HCF.out
      ·exact HALL.out r (by omega)⟩
     case measure=>first|omega|(go_num;omega)|(simp[intOf];omega)
  ·have hjn:j=m.code.length:=by omega
   have HALL2:Hid (∀i,i<m.code.length→a0h L m i=false):=by rw[←hjn];exact HALL.out
   have k7:=(HBW.out).cell 7 _ rfl;clear HALL;subst hjn;go_wp2_with fail
   clear k7;have HGW1:=A0 HGW.out;generalize wr=wq at HGW1 HGW HBW HG1W⊢;go_loopw [55] (fun c W=>∃j:Nat,c= .int .i64 j∧j≤m.handlers.length∧wq.grownBy W none∧∀r (hr:r<m.handlers.length),r<j→a0V L m m.handlers[r]=false) (fun c _=>m.handlers.length-(intOf c).toNat)
   case atStart=>exact⟨0,rfl,Nat.zero_le _,G1 _ _,fun i hi h=>absurd h (Nat.not_lt_zero _)⟩
   case round=>
    obtain⟨j0,rfl,hj0,hgr2,hall2⟩:=hrel;have HGW2:=A0 (A1 HGW1.out hgr2);have HGQ:=A0 hgr2;have HALL:=A0 hall2;clear hgr2 hall2;by_cases hlt:j0<m.handlers.length
    ·obtain⟨pd,hpd,hpl2,hcd⟩:=(C0.keep hRh.out HGW2.out) j0 hlt;obtain⟨d,hd⟩:∃d,d=m.handlers[j0]:=⟨_,rfl⟩
     rw[←hd]at hcd;have hds:=hhd.out d (by rw[hd];exact List.getElem_mem hlt);have HDE:=A0 hd;subst hpd;have y0:wr.cell? (pd.add (j0*4))=some (.int .i64 d.from_):=hcd 0 _ rfl;have y1:wr.cell? ⟨(pd.add (j0*4)).block,(pd.add (j0*4)).off+1,none⟩=some (.int .i64 d.to):=by rw[B9 pd (j0*4) 0];exact hcd 1 _ rfl
     have y2:wr.cell? ⟨(pd.add (j0*4)).block,(pd.add (j0*4)).off+2,none⟩=some (.int .i64 d.at_):=by rw[B9 pd (j0*4) 1];exact hcd 2 _ rfl
     have y3:wr.cell? ⟨(pd.add (j0*4)).block,(pd.add (j0*4)).off+3,none⟩=some (.string d.cls):=by rw[B9 pd (j0*4) 2];exact hcd 3 _ rfl
     have HBE:Hid (∀W,w.grownBy W none→Calls Tryz.prog 240 #[.pointer (some ⟨b,0,none⟩), .string d.cls, .string ⟨#[84,104,114,111,119]⟩] W fun e w'=>e= .returned (.bool (I6 L d.cls F9))∧W.grownBy w' none):=fun W hW=>b0q W lim b L p cap m1 m2 m3 q (h.out.keep hW hl) (Nat.le_trans hl hW.size) d.cls F9 hds
     have HHB:Hid (a0V L m d=(decide (d.to≤d.from_)||decide (m.code.length<d.to)||decide (m.code.length≤d.at_)|| !I6 L d.cls F9)):=rfl
     have HRET:Hid (a0V L m d=true→F=some d.from_):=fun hb=>by
      rw[HDE.out]at hb⊢;exact HF.out.trans (b7O HNZ.out HALL2.out hlt hb HALL.out)
     have hjI:(j0:Int)<(m.handlers.length:Int):=by omega
     clear hcd hd hds hpl2;by_cases g1:d.to≤d.from_
     ·have g1I:(d.to:Int)≤(d.from_:Int):=by omega
      have HFJ:=A0 (HRET.out (by rw[HHB.out];simp[g1]));clear g1;go_wp2_with fail
      exact bodyPost_ret (v:= .tuple #[.int .i64 d.from_, .bool true]) (by simp[results,Tryz.results164,go_sem]) rfl ⟨by rw[HFJ.out];rfl,A1 HGW2.out (A2 _ _ none)⟩
     have g1I:¬(d.to:Int)≤(d.from_:Int):=by omega
     by_cases g2:m.code.length<d.to
     ·have g2I:(m.code.length:Int)<(d.to:Int):=by omega
      have HFJ:=A0 (HRET.out (by rw[HHB.out];simp[g2]));clear g2 g1;go_wp2_with fail
      exact bodyPost_ret (v:= .tuple #[.int .i64 d.from_, .bool true]) (by simp[results,Tryz.results164,go_sem]) rfl ⟨by rw[HFJ.out];rfl,A1 HGW2.out (A2 _ _ none)⟩
     have g2I:¬(m.code.length:Int)<(d.to:Int):=by omega
     by_cases g3:m.code.length≤d.at_
     ·have g3I:(m.code.length:Int)≤(d.at_:Int):=by omega
      have HFJ:=A0 (HRET.out (by rw[HHB.out];simp[g3]));clear g3 g2 g1;go_wp2_with fail
      exact bodyPost_ret (v:= .tuple #[.int .i64 d.from_, .bool true]) (by simp[results,Tryz.results164,go_sem]) rfl ⟨by rw[HFJ.out];rfl,A1 HGW2.out (A2 _ _ none)⟩
     have g3I:¬(m.code.length:Int)≤(d.at_:Int):=by omega
     obtain⟨bl,hbl⟩:∃bl,bl=I6 L d.cls F9:=⟨_,rfl⟩
     rw[←hbl]at HBE HHB;clear hbl;cases bl with
     |false=>
      have HFJ:=A0 (HRET.out (by rw[HHB.out];simp));clear g3 g2 g1;go_wp2_with (go_at_call 240;go_loud (refine(HBE.out _ (A1 HGW2.out (A2 _ _ none))).mono ?_;rintro e w1 ⟨rfl,hg1⟩;obtain⟨hc1,hf1⟩:=e8 hg1;have hz1:wr.heap.size<w1.heap.size:=by(have:=hg1.size;simp only[World.size_alloc]at this;omega)))
      exact bodyPost_ret (v:= .tuple #[.int .i64 d.from_, .bool true]) (by simp[results,Tryz.results164,go_sem]) rfl ⟨by rw[HFJ.out];rfl,A1 (A1 HGW2.out (A2 _ _ none)) hg1⟩
     |true=>
      have HCF:Hid (a0V L m d=false):=by unfold Hid;rw[HHB.out];simp[g1,g2,g3]
      clear g3 g2 g1;go_wp2_with (go_at_call 240;go_loud (refine(HBE.out _ (A1 HGW2.out (A2 _ _ none))).mono ?_;rintro e w1 ⟨rfl,hg1⟩;obtain⟨hc1,hf1⟩:=e8 hg1;have hz1:wr.heap.size<w1.heap.size:=by(have:=hg1.size;simp only[World.size_alloc]at this;omega)))
      go_roundw
      case rel=>exact⟨j0+1,by first|rfl|go_num,by omega,A1 (A1 HGQ.out (A2 _ _ none)) hg1,fun r hr hlt2=>by
       by_cases e:r=j0
       ·subst e;rw[←HDE.out];exact HCF.out
       ·exact HALL.out r hr (by omega)⟩
      case measure=>first|omega|(go_num;omega)|(simp[intOf];omega)
    ·have hjn:j0=m.handlers.length:=by omega
     have HFN:=A0 (HF.out.trans (b4T HNZ.out HALL2.out (fun r hr=>HALL.out r hr (by omega))));clear HALL;subst hjn;go_wp2_with fail
     exact bodyPost_ret (v:= .tuple #[.int .i64 0, .bool false]) (by simp[results,Tryz.results164,go_sem]) rfl ⟨by rw[HFN.out];rfl,HGW2.out⟩
end Kx
namespace Cf
def P6(t:Ty):Ty:=if t.kind=4 then C9 t.name else if t.kind=5 then a0C else B6
def c1x(l:List Cl)(c:UInt8)(t first:Ty)(i:In):Bool:=
 if c=73 then decide (t.kind=1)
 else if c=78 then decide (t.kind≠0)
 else if c=79 then D0 l t (C9 D4)
 else if c=67 then D0 l t (C9 i.cls)
 else if c=70 then D0 l t (Y2 l i)
 else if c=84 then D0 l t (C9 F9)
 else if c=76 then decide (t.kind=3∨t.kind=4∨t.kind=5)
 else if c=74 then decide (t.kind=3∨t.kind=5)
 else if c=82 then decide (t.kind=4∨t.kind=5)
 else if c=69 then(if first.kind=5 then D0 l t (C9 D4)else D0 l t (P6 first))
 else true
variable {l:List Ty}
theorem len1(h:l.length=1):∃a,l=[a]:=by
 match l,h with
 | [a],_=>exact⟨a,rfl⟩
theorem len2(h:l.length=2):∃a b,l=[a,b]:=by
 match l,h with
 | [a,b],_=>exact⟨a,b,rfl⟩
end Cf
namespace Cf
def a2E(l:List Cl)(a b:List Ty):Prop:=a.length=b.length∧∀j,j<a.length→D0 l (a.getD j B6) (b.getD j B6)=true
def b9(l:List Cl)(a:List Ty):Prop:=∀t∈a,E3 l t
variable {l:List Cl}
variable {a:List Ty}
theorem o5(h:b9 l a)(j:Nat):E3 l (a.getD j B6):=by
 by_cases hj:j<a.length
 ·have:a.getD j B6=a[j]:=by simp[hj]
  rw[this];exact h _ (List.getElem_mem hj)
 ·have:a.getD j B6=B6:=by simp[Nat.le_of_not_lt hj]
  rw[this];exact a3v
theorem a9f(l:List Cl)(a:List Ty):a2E l a a:=⟨rfl,fun _ _=>a1K _ _⟩
theorem C2.leAll_trans(h:C2 l){b c:List Ty}(ha:b9 l a)(hb:b9 l b)(hc:b9 l c)(h1:a2E l a b)(h2:a2E l b c):a2E l a c:=
 ⟨h1.1.trans h2.1,fun j hj=>h.under_trans (o5 ha j) (o5 hb j) (o5 hc j) (h1.2 j hj) (h2.2 j (by rw[←h1.1];exact hj))⟩
def a0A(c:ByteArray)(m:Me):List Ty:=C9 c::(m.params++List.replicate (m.locals-1-m.params.length) B6)
def l6(l:List Cl)(i:In)(s:List Ty)(low:Nat):List Ty:=
 if i.op=2 then [s.getD i.a.toNat B6]
 else if i.op=5 then [s.getD low B6,s.getD low B6]
 else if i.op=6 then [s.getD (low+1) B6,s.getD low B6]
 else if i.op=26 then [P6 (s.getD low B6)]
 else C4 l i
def hdF(m:Me)(d:Hd)(s:List Ty):List Ty:=s.take m.locals++ [C9 d.cls]
def goF(l:List Cl)(m:Me)(i:In)(s:List Ty):List Ty:=
 (if i.op=3 then(s.take m.locals).set i.a.toNat (s.getD (s.length-G5 l m i) B6)else s.take m.locals)++((s.take (s.length-G5 l m i)).drop m.locals++l6 l i s (s.length-G5 l m i))
def a1A(l:List Cl)(m:Me)(at_:Nat):List (Nat×(List Ty→List Ty)):=
 ((m.handlers.filter fun d=>O8 d at_).map fun d=>(d.at_,hdF m d))++(G6 (A8 m at_) at_).map fun x=>(x,goF l m (A8 m at_))
structure Sol(l:List Cl)(c:ByteArray)(m:Me)(T:Nat→List Ty):Prop where
 shape:∀at_ h,G3 l m at_ h→(T at_).length=m.locals+h
 ok:∀at_ h,G3 l m at_ h→b9 l (T at_)
 entry:a2E l (a0A c m) (T 0)
 flow:∀at_ h,G3 l m at_ h→∀q∈a1A l m at_,a2E l (q.2 (T at_)) (T q.1)
structure a2Z(l:List Cl)(c:ByteArray)(m:Me)(T:Nat→List Ty):Prop where
 sol:Sol l c m T
 least:∀S,Sol l c m S→∀at_ h,G3 l m at_ h→a2E l (T at_) (S at_)
structure a0d(l:List Cl)(m:Me):Prop where
 room:∀at_ h,G3 l m at_ h→Y5 l m at_ h=true
 one:∀at_ h k,G3 l m at_ h→G3 l m at_ k→h=k
 hd:∀at_ h,G3 l m at_ h→∀d∈m.handlers,O8 d at_=true→m.stack≠0
variable {m:Me}
theorem b2P(hc:T2 l m)(hi:∀i∈m.code,T5 i)(h:a5L l m none):a0d l m:=by
 have hb:=fun at_ ht (hr:G3 l m at_ ht)=>h at_ (a1O hc hi hr).1
 refine⟨fun a ht hr=> ?_,fun a ht k h1 h2=> ?_,fun a ht hr d hd hcv h0=> ?_⟩
 ·cases he:Y5 l m a ht with
  |true=>rfl
  |false=>exact absurd (.inl ⟨ht,hr,he⟩) (hb a ht hr)
 ·by_cases e:ht=k
  ·exact e
  ·exact absurd (.inr (.inr ⟨ht,k,e,h1,h2⟩)) (hb a ht h1)
 ·exact absurd (.inr (.inl ⟨⟨d,hd,hcv⟩,⟨ht,hr⟩,h0⟩)) (hb a ht hr)
theorem a6T(h:a0d l m){at_ ht:Nat}(hr:G3 l m at_ ht):
 (∀d∈m.handlers,O8 d at_=true→G3 l m d.at_ 1)∧∀x∈G6 (A8 m at_) at_,G3 l m x (a0i l m at_ ht):=by
 refine⟨fun d hd hcv=> ?_,fun x hx=> ?_⟩
 ·refine(a1J l m).2 at_ ht hr (d.at_,1) ?_;unfold a0m;rw[if_neg (h.hd at_ ht hr d hd hcv)];exact List.mem_append_left _ (List.mem_map.2 ⟨d,List.mem_filter.2 ⟨hd,hcv⟩,rfl⟩)
 ·refine(a1J l m).2 at_ ht hr (x,a0i l m at_ ht) ?_;unfold a0m;rw[if_pos (h.room at_ ht hr)];exact List.mem_append_right _ (List.mem_map.2 ⟨x,hx,rfl⟩)
structure m9(l:List Cl):Prop where
 fields:∀i,i<l.length→∀f∈(cl l i).fields,E3 l f.ty∧f.ty.kind≠0
 meths:∀i,i<l.length→∀m∈(cl l i).methods,E3 l m.ret∧m.ret.kind≤4∧(∀p∈m.params,E3 l p∧p.kind≠0∧p.kind≤4)∧∀d∈m.handlers,E2 l d.cls=true
variable {t:Ty}
theorem a6G(h:y6 t)(ht:S9 l t=true):E3 l t:=by
 obtain⟨h1,h2,h3⟩:=h;refine⟨by omega,?_⟩;by_cases hk:t.kind=2∨t.kind=4
 ·rw[if_pos hk];have hn:t.name≠C3:=fun e=>(h2.1 e) hk
  unfold S9 at ht;simp only[hn,decide_false,Bool.false_or]at ht;exact Option.isSome_iff_exists.1 ht
 ·rw[if_neg hk];exact h2.2 hk
theorem b8P(fs:List Cl)(hok:∀c∈fs,a0I c)(h:Z7 fs= .ok ()):m9 (A5++fs):=by
 have hty:=a7i h (fun i=>y9 (A5++fs) (cl fs i)) (by simp);have hb:A5.length=9:=rfl
 have hbase:∀i,i<9→(cl (A5++fs) i).fields=[]∧(cl (A5++fs) i).methods=[]:=by
  intro i h9;rw[L9 (by omega)];rcases a0Y h9 with rfl|rfl|rfl|rfl|rfl|rfl|rfl|rfl|rfl<;>exact⟨rfl,rfl⟩
 have key:∀i,i<(A5++fs).length→9≤i→∃q,q<fs.length∧i=9+q∧a0I (cl fs q)∧y9 (A5++fs) (cl fs q)=false:=by
  intro i hi h9;have hq:i-9<fs.length:=by simp at hi;omega
  exact⟨i-9,hq,by omega,by rw[U3 hq];exact hok _ (List.getElem_mem hq),hty _ hq⟩
 constructor
 ·intro i hi f hf;by_cases h9:i<9
  ·rw[(hbase i h9).1]at hf;cases hf
  ·obtain⟨q,hq,rfl,ho,ht⟩:=key i hi (by omega);rw[R4]at hf;unfold y9 at ht;simp only[Bool.or_eq_false_iff,List.any_eq_false,Bool.not_eq_true,Bool.not_eq_false',decide_eq_false_iff_not]at ht;have:=ht.1 f hf;exact⟨a6G (ho.fields f hf).2 this.1,this.2⟩
 ·intro i hi m hm;by_cases h9:i<9
  ·rw[(hbase i h9).2]at hm;cases hm
  ·obtain⟨q,hq,rfl,ho,ht⟩:=key i hi (by omega);rw[R4]at hm;unfold y9 at ht;simp only[Bool.or_eq_false_iff,List.any_eq_false,Bool.not_eq_true]at ht;have:=ht.2 m hm;unfold a2z at this;simp only[Bool.not_eq_false',Bool.and_eq_true,List.all_eq_true,decide_eq_true_eq]at this;have hom:=ho.methods m hm;exact⟨a6G hom.2.1 this.1.1,hom.2.1.1,fun p hp=>⟨a6G (hom.2.2.1 p hp) (this.1.2 p hp).1,(this.1.2 p hp).2,(hom.2.2.1 p hp).1⟩,this.2⟩
variable {i:In}
theorem C2.field_ok(h:C2 l)(hw:m9 l)(hn:(R0 l i.cls i.mem).isSome=true):E3 l (Y2 l i)∧(Y2 l i).kind≠0:=by
 obtain⟨p,hp⟩:=Option.isSome_iff_exists.1 hn;unfold Y2;rw[hp];obtain⟨h1,h2,_⟩:=h.field_lt hp;have:(cl l p.1).fields.getD p.2 l7=(cl l p.1).fields[p.2]:=by simp[h2]
 simp only[this];exact hw.fields p.1 h1 _ (List.getElem_mem h2)
theorem C2.called_in(h:C2 l)(hn:(O7 l i.cls i.mem).isSome=true):∃k,k<l.length∧O0 l i∈(cl l k).methods:=by
 obtain⟨p,hp⟩:=Option.isSome_iff_exists.1 hn;obtain⟨h1,h2,_⟩:=h.meth_lt hp;refine⟨p.1,h1,?_⟩;unfold O0;rw[hp];unfold g9;have:(cl l p.1).methods.getD p.2 K8=(cl l p.1).methods[p.2]:=by simp[h2]
 simp only[this];exact List.getElem_mem h2
theorem C2.puts_ok(h:C2 l)(hw:m9 l)(hn:L7 l m i=true):b9 l (C4 l i)∧((∃t∈C4 l i,t.kind=0)→i.op=2∨i.op=5∨i.op=6∨i.op=26):=by
 have hc:i.op=16∨i.op=22∨i.op=28→∃k,C5 l i.cls=some k:=fun he=>by
  unfold L7 at hn;rw[if_neg (by omega),if_neg (by omega),if_pos (by omega)]at hn;exact Option.isSome_iff_exists.1 hn
 have hf:i.op=17→E3 l (Y2 l i)∧(Y2 l i).kind≠0:=fun he=>by
  unfold L7 at hn;rw[if_neg (by omega),if_neg (by omega),if_neg (by omega),if_pos (by omega)]at hn;exact h.field_ok hw hn
 have hm:i.op=19→E3 l (O0 l i).ret:=fun he=>by
  unfold L7 at hn;rw[if_neg (by omega),if_neg (by omega),if_neg (by omega),if_neg (by omega),if_pos he]at hn;obtain⟨k,hk,hk2⟩:=h.called_in hn;exact(hw.meths k hk _ hk2).1
 unfold C4;split
 ·exact⟨by intro t ht;rw[List.mem_singleton.1 ht];exact a3r (by omega) (by omega) (by omega),by rintro⟨t,ht,e⟩;rw[List.mem_singleton.1 ht]at e;simp[P0]at e⟩
 split
 ·exact⟨by intro t ht;rw[List.mem_singleton.1 ht];exact a3r (by omega) (by omega) (by omega),by rintro⟨t,ht,e⟩;rw[List.mem_singleton.1 ht]at e;simp[a0C]at e⟩
 split
 ·exact⟨by intro t ht;rw[List.mem_singleton.1 ht];exact a3v,fun _=>by omega⟩
 split
 ·exact⟨by intro t ht;simp only[List.mem_cons,List.not_mem_nil,or_false,or_self]at ht;rw[ht];exact a3v,fun _=>by omega⟩
 split
 ·rename_i e;obtain⟨k,hk⟩:=hc (by omega);exact⟨by intro t ht;rw[List.mem_singleton.1 ht];exact⟨by simp[C9],by simp[C9,hk]⟩,by rintro⟨t,ht,e⟩;rw[List.mem_singleton.1 ht]at e;simp[C9]at e⟩
 split
 ·rename_i e;obtain⟨h1,h2⟩:=hf e;exact⟨by intro t ht;rw[List.mem_singleton.1 ht];exact h1,by rintro⟨t,ht,e⟩;rw[List.mem_singleton.1 ht]at e;exact absurd e h2⟩
 split
 ·rename_i e;have h1:=hm e;unfold a0L;split
  ·exact⟨(by intro t ht;cases ht),(by rintro⟨t,ht,_⟩;cases ht)⟩
  ·rename_i h2;exact⟨by intro t ht;rw[List.mem_singleton.1 ht];exact h1,by rintro⟨t,ht,e⟩;rw[List.mem_singleton.1 ht]at e;exact absurd e h2⟩
 split
 ·exact⟨by intro t ht;rw[List.mem_singleton.1 ht];exact a3r (by omega) (by omega) (by omega),by rintro⟨t,ht,e⟩;rw[List.mem_singleton.1 ht]at e;simp at e⟩
 split
 ·rename_i e;obtain⟨k,hk⟩:=hc (by omega);exact⟨by intro t ht;rw[List.mem_singleton.1 ht];exact⟨by simp,by simp[hk]⟩,by rintro⟨t,ht,e⟩;rw[List.mem_singleton.1 ht]at e;simp at e⟩
 ·exact⟨(by intro t ht;cases ht),(by rintro⟨t,ht,_⟩;cases ht)⟩
theorem b0D(h:E3 l t):E3 l (P6 t):=by
 unfold P6;split
 ·rename_i e;have:=h.2;rw[if_pos (.inr e)]at this;exact⟨by simp[C9],by simpa[C9]using this⟩
 ·split
  ·exact a3r (by omega) (by omega) (by omega)
  ·exact a3v
theorem b4Q{a b:Ty}(ha:E3 l a)(hb:E3 l b)(h:D0 l a b=true):D0 l (P6 a) (P6 b)=true:=by
 rw[a0M ha hb]at h;rcases h with e|e|⟨e1,e2⟩|⟨e1,e2,_⟩|⟨e1,e⟩
 ·rw[e];exact a1K _ _
 ·rw[e];exact a2p _ _
 ·rcases e2 with e2|e2|e2
  ·have:P6 b=B6:=by unfold P6;rw[if_neg (by omega),if_neg (by omega)]
   rw[this];exact a2p _ _
  ·have:P6 b=B6:=by unfold P6;rw[if_neg (by omega),if_neg (by omega)]
   rw[this];exact a2p _ _
  ·have h1:P6 a=a0C:=by unfold P6;rw[if_neg (by omega),if_pos e1]
   have h2:P6 b=C9 b.name:=by unfold P6;rw[if_pos e2]
   rw[h1,h2];simp[D0,a0C,C9]
 ·have:P6 b=B6:=by unfold P6;rw[if_neg (by omega),if_neg (by omega)]
  rw[this];exact a2p _ _
 ·have:P6 b=B6:=by rw[e];simp[P6,C9]
  rw[this];exact a2p _ _
end Cf
namespace Cf
theorem b5Y(a:List Ty)(n j:Nat):(a.drop n).getD j B6=a.getD (n+j) B6:=by
 rw[List.getD_eq_getElem?_getD,List.getD_eq_getElem?_getD,List.getElem?_drop]
theorem b7y(a:List Ty)(n j:Nat)(x:Ty):(a.set n x).getD j B6=if n=j∧j<a.length then x else a.getD j B6:=by
 rw[List.getD_eq_getElem?_getD,List.getD_eq_getElem?_getD,List.getElem?_set];by_cases h:n=j
 ·subst h;by_cases h2:n<a.length
  ·simp[h2]
  ·simp[h2]
 ·simp[h]
variable {l:List Cl}
variable {a s:List Ty}
theorem a6t{b:List Ty}(h1:b9 l a)(h2:b9 l b):b9 l (a++b):=fun t ht=>by
 rcases List.mem_append.1 ht with ht|ht
 ·exact h1 t ht
 ·exact h2 t ht
theorem b5H(h:b9 l a)(n:Nat){x:Ty}(hx:E3 l x):b9 l (a.set n x):=fun t ht=>by
 rcases List.mem_or_eq_of_mem_set ht with ht|ht
 ·exact h t ht
 ·rw[ht];exact hx
theorem b6S(l:List Cl)(i:In)(s:List Ty)(low:Nat):(l6 l i s low).length=P1 l i:=by
 unfold l6 P1;split
 ·rename_i e;simp[C4,e]
 split
 ·rename_i e;simp[C4,e]
 split
 ·rename_i e;simp[C4,e]
 split
 ·rename_i e;simp[C4,e]
 ·rfl
variable {m:Me}
theorem C2.putR_ok(h:C2 l)(hw:m9 l){i:In}(hn:L7 l m i=true){low:Nat}(hs:b9 l s):b9 l (l6 l i s low):=by
 unfold l6;split
 ·intro t ht;rw[List.mem_singleton.1 ht];exact o5 hs _
 split
 ·intro t ht;simp only[List.mem_cons,List.not_mem_nil,or_false,or_self]at ht;rw[ht];exact o5 hs _
 split
 ·intro t ht;simp only[List.mem_cons,List.not_mem_nil,or_false]at ht;rcases ht with ht|ht<;>rw[ht]<;>exact o5 hs _
 split
 ·intro t ht;rw[List.mem_singleton.1 ht];exact b0D (o5 hs _)
 ·exact(h.puts_ok hw hn).1
variable {at_ h:Nat}
theorem a4L{d:Hd}(hl:s.length=m.locals+h):(hdF m d s).length=m.locals+1:=by
 unfold hdF;simp;omega
theorem a4M(hl:s.length=m.locals+h)(hr:Y5 l m at_ h=true):(goF l m (A8 m at_) s).length=m.locals+a0i l m at_ h:=by
 unfold Y5 at hr;simp only[Bool.and_eq_true,decide_eq_true_eq]at hr;unfold goF a0i
 have h1:(if(A8 m at_).op=3 then(s.take m.locals).set (A8 m at_).a.toNat (s.getD (s.length-G5 l m (A8 m at_)) B6)else s.take m.locals).length=m.locals:=by
  split<;>simp<;>omega
 simp only[List.length_append,h1,b6S,List.length_drop,List.length_take];omega
variable {q:Nat×(List Ty→List Ty)}
theorem b5F(hh:a0d l m)(hr:G3 l m at_ h)(hl:s.length=m.locals+h)(hq:q∈a1A l m at_):
 ∃k,G3 l m q.1 k∧(q.2 s).length=m.locals+k:=by
 have ho:=a6T hh hr;unfold a1A at hq;rcases List.mem_append.1 hq with hq|hq
 ·obtain⟨d,hd,rfl⟩:=List.mem_map.1 hq;obtain⟨h1,h2⟩:=List.mem_filter.1 hd;exact⟨1,ho.1 d h1 h2,a4L hl⟩
 ·obtain⟨x,hx,rfl⟩:=List.mem_map.1 hq;exact⟨_,ho.2 x hx,a4M hl (hh.room _ _ hr)⟩
theorem C2.out_ok(h:C2 l)(hw:m9 l)(hc:T2 l m)(ha:at_<m.code.length)(hs:b9 l s)(hq:q∈a1A l m at_):b9 l (q.2 s):=by
 have hn:=hc.need at_ ha;unfold a1A at hq;rcases List.mem_append.1 hq with hq|hq
 ·obtain⟨d,hd,rfl⟩:=List.mem_map.1 hq;have h1:=(hc.hds d (List.mem_filter.1 hd).1).2.2.2
  have h2:E3 l (C9 d.cls):=by
   have:∃i,C5 l d.cls=some i:=by
    cases hf:C5 l d.cls with
    |none=>rw[h.below_none hf]at h1;cases h1
    |some i=>exact⟨i,rfl⟩
   exact⟨by simp[C9],by simpa[C9]using this⟩
  exact a6t (fun t ht=>hs t (List.mem_of_mem_take ht)) (fun t ht=>by rw[List.mem_singleton.1 ht];exact h2)
 ·obtain⟨x,hx,rfl⟩:=List.mem_map.1 hq;unfold goF;refine a6t ?_ (a6t (fun t ht=>hs t (List.mem_of_mem_take (List.mem_of_mem_drop ht))) (h.putR_ok hw hn hs));split
  ·exact b5H (fun t ht=>hs t (List.mem_of_mem_take ht)) _ (o5 hs _)
  ·exact fun t ht=>hs t (List.mem_of_mem_take ht)
variable {c:ByteArray}
theorem C2.entry_ok(h:C2 l)(hc:E2 l c=true)(hp:∀p∈m.params,E3 l p):b9 l (a0A c m):=by
 intro t ht;unfold a0A at ht;rcases List.mem_cons.1 ht with rfl|ht
 ·exact⟨by simp[C9],by simpa[C9]using Option.isSome_iff_exists.1 hc⟩
 ·rcases List.mem_append.1 ht with ht|ht
  ·exact hp t ht
  ·rw[(List.mem_replicate.1 ht).2];exact a3v
theorem a7a(hc:T2 l m):(a0A c m).length=m.locals:=by
 have:=hc.locals;unfold a0A;simp;omega
end Cf
namespace Cf
def rk(l:List Cl)(t:Ty):Nat:=if t.kind=5 then l.length+1 else N1 l t
variable {l:List Cl}
theorem C2.rk_le(h:C2 l)(t:Ty):rk l t≤l.length+1:=by
 unfold rk;split
 ·omega
 ·have:=h.rank_le t;omega
theorem C2.rk_lt(h:C2 l){a b:Ty}(ha:E3 l a)(hb:E3 l b)(hu:D0 l a b=true)(hne:a≠b):rk l b<rk l a:=by
 have h9:9≤l.length:=by obtain⟨fs,rfl⟩:=h.base;simp[show A5.length=9 from rfl]
 rw[a0M ha hb]at hu;rcases hu with e|rfl|⟨e1,e2⟩|⟨e1,e2,e3⟩|⟨e1,rfl⟩
 ·exact absurd e hne
 ·have h0:rk l B6=0:=by simp[rk,N1,B6]
  have ha0:a.kind≠0:=fun e=>hne (a3w ha e (by omega) (by omega))
  rw[h0];unfold rk;split
  ·omega
  ·unfold N1;rw[if_neg ha0];split
   ·rename_i e2;have:=ha.2;rw[if_pos (.inl e2)]at this;obtain⟨i,hi⟩:=this;rw[h.up_some hi];simp
   ·split<;>omega
 ·have h1:rk l a=l.length+1:=by unfold rk;rw[if_pos e1]
  have h2:rk l b=N1 l b:=by unfold rk;rw[if_neg (by omega)]
  have:=h.rank_le b;omega
 ·have h1:rk l a=(up l a.name).length:=by unfold rk N1;rw[if_neg (by omega),if_neg (by omega),if_pos e1]
  have h2:rk l b=(up l b.name).length:=by unfold rk N1;rw[if_neg (by omega),if_neg (by omega),if_pos e2]
  rcases h.below_len e3 with e|e
  ·exact absurd (by cases a;cases b;simp_all) hne
  ·omega
 ·have h1:rk l a=2:=by unfold rk N1;rw[if_neg (by omega),if_neg (by omega),if_neg (by omega),if_pos e1]
  have h2:rk l (C9 D4)=1:=by simp[rk,N1,C9,h.up_object]
  omega
variable {a:List Ty}
theorem b0x{j:Nat}(hj:j<a.length):a.getD j B6∈a:=by
 have:a.getD j B6=a[j]:=by simp[hj]
 rw[this];exact List.getElem_mem hj
theorem b7g{t:Ty}(h:t∈a):∃j,j<a.length∧a.getD j B6=t:=by
 obtain⟨j,hj,rfl⟩:=List.getElem_of_mem h;exact⟨j,hj,by simp[hj]⟩
end Cf
end Go.Proofs.YtdhophglnhcjbaaGreatDoor
