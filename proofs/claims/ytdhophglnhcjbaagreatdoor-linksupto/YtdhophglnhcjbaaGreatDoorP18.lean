/- P18: a part of the proof that the last text tells. -/
import Derived.Test.YtdhophglnhcjbaaGreatDoorP17
set_option linter.all false
namespace Go.Proofs.YtdhophglnhcjbaaGreatDoor
open Go.RowKit Go.Shelf Cf
namespace Kx
structure PE(L:List Cl)(c:ByteArray)(m:Me)(ht:Nat→Option Nat):Prop where
 wld:C2 L
 tyw:m9 L
 cok:T2 L m
 fine:∀i∈m.code,a1s L i
 hok:a0d L m
 hts:∀a h,a<m.code.length→(ht a=some h↔Cf.G3 L m a h)
 hst:∀a h,ht a=some h→h≤m.stack
 has:E2 L c=true
 pars:∀p∈m.params,E3 L p
 nc:m.code.length≤65535
 st:m.stack≤255
 lo:m.locals≤255
 nh:m.handlers.length≤65535
 nl:L.length≤65536
variable {L:List Cl}
variable {c:ByteArray}
variable {m:Me}
variable {ht:Nat→Option Nat}
theorem PE.ok(h:PE L c m ht):∀i∈m.code,T5 i:=fun i hi=>(h.fine i hi).okin
theorem PE.room(h:PE L c m ht){a k:Nat}(hr:Cf.G3 L m a k):G5 L m (A8 m a)≤k∧a<m.code.length∧k≤m.stack:=by
 have h1:=h.hok.room a k hr;unfold Y5 at h1;simp only[Bool.and_eq_true,decide_eq_true_eq]at h1;have h2:=a1O h.cok h.ok hr;exact⟨h1.1,h2.1,h2.2⟩
theorem PE.mu0(h:PE L c m ht):T4 L (K7 m ht)≤8000000000000:=by
 refine Nat.le_trans (b8X L m h.hst) ?_;have h1:(m.locals+m.stack)*(L.length+2)≤510*65538:=Nat.mul_le_mul (by have:=h.lo;have:=h.st;omega) (by have:=h.nl;omega);have h2:=Nat.mul_le_mul h.nc h1;omega
theorem b1k(L:List Cl)(s:Ps):s.ris.length≤T4 L s:=by unfold T4;omega
def htI(ht:Nat→Option Nat)(a:Nat):Int:=match ht a with|none=> -1|some h=>h
def meV(m:Me)(pa:Option Addr)(pk:Nat)(ca:Option Addr)(ck:Nat)(ha:Option Addr)(hk:Nat):List Value:=[.string m.name, .slice pa m.params.length pk, .int .i64 m.ret.kind, .string m.ret.name, .int .i64 m.stack, .int .i64 m.locals, .slice ca m.code.length ck, .slice ha m.handlers.length hk]
structure TyE(w:World)(lim:Nat)(L:List Cl)(m:Me)(pa:Option Addr)(pk:Nat)(ca:Option Addr)(ck:Nat)(ha:Option Addr)(hk:Nat)(bw eg hg:Nat)(ht:Nat→Option Nat):Prop where
 meth:∀k v,(meV m pa pk ca ck ha hk)[k]? =some v→w.cell? ⟨bw,k,none⟩=some v
 c8:w.cell? ⟨bw,8,none⟩=some (.slice (some ⟨eg,0,none⟩) m.code.length m.code.length)
 c9:w.cell? ⟨bw,9,none⟩=some (.slice (some ⟨hg,0,none⟩) m.code.length m.code.length)
 hts:∀a,a<m.code.length→w.cell? ⟨hg,a,none⟩=some (.int .i64 (htI ht a))
 eff:∀a,a<m.code.length→∃ta tk ua uk,w.cell? ⟨eg,a*3,none⟩=some (.slice ta (F3 L m (A8 m a)).length tk)∧w.cell? ⟨eg,a*3+1,none⟩=some (.slice ua (C4 L (A8 m a)).length uk)∧C0 w w.heap.size 2 C1 ua (C4 L (A8 m a))
 code:C0 w lim 4 L8 ca m.code
 hand:C0 w lim 4 M6 ha m.handlers
 par:C0 w lim 2 C1 pa m.params
variable {w w':World}
variable {b bw n t tg:Nat}
theorem TyE.keep{lim:Nat}{pa:Option Addr}{pk:Nat}{ca:Option Addr}{ck:Nat}{ha:Option Addr}{hk eg hg:Nat}(h:TyE w lim L m pa pk ca ck ha hk bw eg hg ht)(hg2:w.grownBy w' none):TyE w' lim L m pa pk ca ck ha hk bw eg hg ht:=
 ⟨fun k v e=>hg2.cell (h.meth k v e) (by simp),hg2.cell h.c8 (by simp),hg2.cell h.c9 (by simp),fun a ha'=>hg2.cell (h.hts a ha') (by simp),fun a ha'=>by
  obtain⟨ta,tk,ua,uk,h1,h2,h3⟩:=h.eff a ha';exact⟨ta,tk,ua,uk,hg2.cell h1 (by simp),hg2.cell h2 (by simp),(h3.keep hg2).upto hg2.size⟩,h.code.keep hg2,h.hand.keep hg2,h.par.keep hg2⟩
variable {g:Nat→Nat}
variable {s:Ps}
variable {ra:Option Addr}
theorem b1r{w0:World}{ra':Option Addr}{rk:Nat}(hg:w0.grownBy w none)(hT:G7 w w0.heap.size t bw b tg g n s ra rk)(hf:TFx t g n ra ra' w w'):w0.grownBy w' none:=by
 have hb:=hT.below hf hg.size;exact⟨hb.os.trans hg.os,hb.tape.trans hg.tape,hb.output.trans hg.output,Nat.le_trans hg.size hb.size,fun k hk hne=>(hb.block k hk).trans (hg.block k hk hne)⟩
theorem b4o(hP:PE L c m ht)(w0:World)(lim b:Nat)(p:Addr)(cap m1 m2 m3:Nat)(q:Nat→Qs)(h:Lk w0 lim b L p cap m1 m2 m3 q)(hl:lim≤w0.heap.size)(t bw tg:Nat)(g:Nat→Nat)(s0:Ps)(hs0:N2 L c m s0)(hmu:T4 L s0≤8000000000000)(all:List (Nat×Nat×Ty))(hall:∀x∈all,y4 L c m x):
 ∀(W:World) (pre:List (Nat×Nat×Ty)) (ra:Option Addr) (rk:Nat),(∀x∈pre,x∈all)→G7 W w0.heap.size t bw b tg g m.code.length (pre.foldl (N4 L) s0) ra rk→w0.grownBy W none→∀x∈all,
  Calls Tryz.prog 266 #[.pointer (some ⟨t,0,none⟩), .int .i64 x.1, .int .i64 x.2.1, .agg #[.int .i64 x.2.2.kind, .string x.2.2.name]] W fun e w'=>e= .returned (.tuple #[])∧∃ra' rk',G7 w' w0.heap.size t bw b tg g m.code.length ((pre++ [x]).foldl (N4 L) s0) ra' rk'∧TFx t g m.code.length ra ra' W w'∧w0.grownBy w' none:=by
 intro W pre ra rk hpre hT hg x hx;obtain⟨k1,k2,-⟩:=hP.wld.psRaises_ok pre hs0 (fun y hy=>hall y (hpre y hy));have hv:=hall x hx;obtain⟨o,ho⟩:=a9l k1.snd hv;obtain⟨hh,hr,hj⟩:=hv.shape;have hin:=hP.room hr;have hsh:=k1.snd.shape _ _ hr;refine(b5y W lim b L p cap m1 m2 m3 q (h.keep hg hl) hP.wld w0.heap.size t bw tg g m.code.length _ ra rk hT hg.size hl x.1 x.2.1 x.2.2 o ho (fun y e=>by subst e;exact(k1.snd.snd _ _ _ ho).1) hv.ok hin.2.1 hP.nc (Nat.le_trans (b1k L _) (Nat.le_trans k2.mu hmu)) (by rw[hsh];have:=hP.lo;have:=hP.st;omega)).mono ?_;rintro e w' ⟨rfl,ra',rk',h1,h2⟩;refine⟨rfl,ra',rk',?_,h2,b1r hg hT h2⟩;rw[List.foldl_append];exact h1
set_option maxRecDepth 100000 in
set_option maxHeartbeats 4000000 in
theorem a9d(w:World)(lim:Nat)(L:List Cl)(c:ByteArray)(m:Me)(pa:Option Addr)(pk:Nat)(ca:Option Addr)(ck:Nat)(ha:Option Addr)(hk bw eg hg:Nat)(ht:Nat→Option Nat)(hP:Hid (PE L c m ht))(hE:Hid (TyE w lim L m pa pk ca ck ha hk bw eg hg ht))(t:Nat)(c0:w.cell? ⟨t,0,none⟩=some (.pointer (some ⟨bw,0,none⟩)))(a k:Nat)(ha':a<m.code.length)(hh:ht a=some k):
 Calls Tryz.prog 269 #[.pointer (some ⟨t,0,none⟩), .int .i64 a] w fun e w'=>e= .returned (.int .i64 (E4 L m a k:Nat))∧w.grownBy w' none:=by
 have hr:=hP.out.room ((hP.out.hts a k ha').1 hh);obtain⟨ta,tk,ua,uk,e1,-,-⟩:=hE.out.eff a ha';have c5:=hE.out.meth 5 _ rfl;have c8:=hE.out.c8;have c9:=hE.out.c9;have ch:w.cell? ⟨hg,a,none⟩=some (.int .i64 k):=by have:=hE.out.hts a ha';unfold htI at this;rw[hh]at this;exact this
 have haI:(a:Int)<(m.code.length:Int):=by omega
 obtain⟨tn,htn⟩:∃tn,tn=G5 L m (A8 m a):=⟨_,rfl⟩
 have HTN:Hid (E4 L m a k=m.locals+k-tn):=by unfold Hid E4;rw[htn]
 have htk:tn≤k:=by rw[htn];exact hr.1
 have hkb:=Nat.le_trans hr.2.2 hP.out.st;have hlb:=hP.out.lo;have hnb:=hP.out.nc;have e1':w.cell? ⟨eg,a*3,none⟩=some (.slice ta tn tk):=by rw[htn];exact e1
 have HV:Hid ((((m.locals:Int)+k-tn):Int)=((m.locals+k-tn:Nat):Int)):=by unfold Hid;omega
 rw[HTN.out,←HV.out];clear hr e1 htn hE hP hh;go_enter Tryz.func269,Tryz.ntmps269;go_wp2_with fail
 go_quiet (fail)
 go_wp2_with fail
 go_ret;exact⟨rfl,F0 _ _ _⟩
theorem a9w{base:Nat}{rk:Nat}(h:G7 w base t bw b tg g n s ra rk){xs:List (Nat×Nat)}{p:Nat×Nat}(hx:s.ris=xs++ [p]):
 ∃q,ra=some ⟨q,0,none⟩∧q<w.heap.size∧xs.length+1≤rk∧rk≤maxLen∧w.cell? ⟨q,xs.length*2,none⟩=some (.int .i64 p.1)∧w.cell? ⟨q,xs.length*2+1,none⟩=some (.int .i64 p.2)∧w.cell? ⟨t,3,none⟩=some (.slice (some ⟨q,0,none⟩) (xs.length+1) rk):=by
 have hWL:s.ris.length=xs.length+1:=by rw[hx];simp
 have hwork:=h.ris;rw[hWL]at hwork;obtain⟨q,qc,hq,-,hqs⟩:=hwork.form (Nat.succ_pos _);injection hq with hq1 _ hq3
 subst hq1;refine⟨q,rfl,hqs,b0O hwork,?_,?_,?_,?_⟩
 ·rcases hwork.2 with⟨e1,-⟩|⟨q',cap,cur,e1,-,-,-,h6,-⟩
  ·cases e1
  ·injection e1 with _ _ e3;omega
 ·have:=hwork.cells (g:=q) rfl (xs.length*2) (.int .i64 p.1) (by
   rw[hx,List.flatMap_append,List.getElem?_append_right (by rw[a2x];exact Nat.le_refl _),a2x,Nat.sub_self];rfl)
  rcases Nat.eq_zero_or_pos (xs.length*2)with e2|e2<;>simpa[Addr.add_lit]using this
 ·have:=hwork.cells (g:=q) rfl (xs.length*2+1) (.int .i64 p.2) (by
   rw[hx,List.flatMap_append,List.getElem?_append_right (by rw[a2x];omega),a2x,Nat.add_sub_cancel_left];rfl)
  simpa[Addr.add_lit]using this
 ·have:=h.blk.cell 3 _ rfl;rw[hWL]at this;exact this
set_option maxRecDepth 100000 in
set_option maxHeartbeats 4000000 in
theorem b2o(w:World)(base t bw b tg:Nat)(g:Nat→Nat)(n:Nat)(s:Ps)(ra:Option Addr)(rk:Nat)(h:Hid (G7 w base t bw b tg g n s ra rk))(hb:base≤w.heap.size)(xs:List (Nat×Nat))(a j:Nat)(hx:s.ris=xs++ [(a,j)])(hl:xs.length≤8000000000000):
 Calls Tryz.prog 270 #[.pointer (some ⟨t,0,none⟩)] w fun e w'=>e= .returned (.agg #[.int .i64 a, .int .i64 j])∧G7 w' base t bw b tg g n (b8 s) ra rk∧TFx t g n ra ra w w':=by
 obtain⟨q,hq,hqs,hqk,hkk,s0c,s1c,c3⟩:=a9w h.out hx;subst hq;have f3:=h.out.blk.frozen 3;have htl:=h.out.blk.lt;obtain⟨xl,hxl⟩:∃xl,xl=xs.length:=⟨_,rfl⟩
 have HXL:Hid (xl=xs.length∧s.ris=xs++ [(a,j)]):=⟨hxl,hx⟩
 rw[←hxl]at hqk s0c s1c c3 hl;clear hxl hx;go_enter Tryz.func270,Tryz.ntmps270;go_wp2_with fail
 have hP:=h.out.pop HXL.out.2 hb;rw[←HXL.out.1]at hP;obtain⟨hM,hF⟩:=hP;have hga:(w.setCell ⟨t,3,none⟩ (.slice (some ⟨q,0,none⟩) xl rk)).grownBy (((w.setCell ⟨t,3,none⟩ (.slice (some ⟨q,0,none⟩) xl rk)).alloc (.cells #[.int .i64 a, .int .i64 j] 366)).alloc (.cells #[.int .i64 a, .int .i64 j] 366)) none:=A1 (A2 _ _ _) (A2 _ _ _);have hb2:=(A3.new (w.setCell ⟨t,3,none⟩ (.slice (some ⟨q,0,none⟩) xl rk)) #[.int .i64 a, .int .i64 j] 366).keep (A2 _ (.cells #[.int .i64 a, .int .i64 j] 366) none) A7;rw[show(w.setCell ⟨t,3,none⟩ (.slice (some ⟨q,0,none⟩) xl rk)).heap.size=w.heap.size by simp[World.setCell]]at hb2;have q0:=hb2.cell 0 _ rfl;have q1:=hb2.cell 1 _ rfl;exact bodyPost_ret (v:= .agg #[.int .i64 a, .int .i64 j]) (by simp[results,Tryz.results270,go_sem,q0,q1]) rfl ⟨rfl,hM.keep hga,hF.trans (Fx.grown hga)⟩
end Kx
namespace Cf
def V6(m:Me)(a j:Nat)(t:Ty)(k:Nat):List (Nat×Nat×Ty):=if j<m.locals then((m.handlers.take k).filter fun d=>O8 d a).map fun d=>(d.at_,j,t)else []
def O1(i:In)(low j:Nat)(t:Ty)(x:Nat):List (Nat×Nat×Ty):=
 if i.op=3∧j=i.a.toNat then []
 else if i.op=2∧j=i.a.toNat then [(x,j,t),(x,low,t)]
 else if j<low then [(x,j,t)]
 else if i.op=3 then [(x,i.a.toNat,t)]
 else if i.op=5 then [(x,low,t),(x,low+1,t)]
 else if i.op=6 then [(x,2*low+1-j,t)]
 else if i.op=26∧j=low then [(x,low,P6 t)]
 else []
def V5(m:Me)(a low j:Nat)(t:Ty)(k:Nat):List (Nat×Nat×Ty):=V6 m a j t m.handlers.length++((G6 (A8 m a) a).take k).flatMap (O1 (A8 m a) low j t)
theorem a4D(l:List Cl)(m:Me)(a low j:Nat)(t:Ty):N0 l m a low j t=V5 m a low j t (G6 (A8 m a) a).length:=by
 unfold N0 V5 V6;rw[List.take_length,List.take_length];rfl
theorem b3H(m:Me)(a j:Nat)(t:Ty):V6 m a j t 0=[]:=by unfold V6;split<;>rfl
variable {m:Me}
variable {a j k low:Nat}
variable {t:Ty}
theorem b3I(k:Nat)(h:¬j<m.locals):V6 m a j t k=[]:=by unfold V6;rw[if_neg h]
theorem b4I(h:j<m.locals)(hk:k<m.handlers.length)(hc:O8 m.handlers[k] a=true):V6 m a j t (k+1)=V6 m a j t k++ [(m.handlers[k].at_,j,t)]:=by
 unfold V6;rw[if_pos h,if_pos h,List.take_succ_eq_append_getElem hk,List.filter_append,List.map_append];simp[hc]
theorem b5U(h:j<m.locals)(hk:k<m.handlers.length)(hc:O8 m.handlers[k] a=false):V6 m a j t (k+1)=V6 m a j t k:=by
 unfold V6;rw[if_pos h,if_pos h,List.take_succ_eq_append_getElem hk,List.filter_append,List.map_append];simp[hc]
variable {l:List Cl}
theorem a9H(k:Nat):∀x∈V6 m a j t k,x∈N0 l m a low j t:=fun x hx=>by
 unfold V6 at hx;unfold N0;split at hx
 ·rename_i h;rw[if_pos h];refine List.mem_append_left _ ?_;obtain⟨d,hd,rfl⟩:=List.mem_map.1 hx;obtain⟨h1,h2⟩:=List.mem_filter.1 hd;exact List.mem_map.2 ⟨d,List.mem_filter.2 ⟨List.mem_of_mem_take h1,h2⟩,rfl⟩
 ·cases hx
theorem c0n{d:Hd}(h:j<m.locals)(hd:d∈m.handlers)(hc:O8 d a=true):(d.at_,j,t)∈N0 l m a low j t:=by
 unfold N0;rw[if_pos h];exact List.mem_append_left _ (List.mem_map.2 ⟨d,List.mem_filter.2 ⟨hd,hc⟩,rfl⟩)
theorem b3u(m:Me)(a low j:Nat)(t:Ty):V5 m a low j t 0=V6 m a j t m.handlers.length:=by unfold V5;simp
theorem b3v(hk:k<(G6 (A8 m a) a).length):V5 m a low j t (k+1)=V5 m a low j t k++O1 (A8 m a) low j t ((G6 (A8 m a) a).getD k 0):=by
 unfold V5;rw[List.take_succ_eq_append_getElem hk,List.flatMap_append,List.append_assoc];simp[hk]
theorem b9M(hk:k<(G6 (A8 m a) a).length):∀y∈O1 (A8 m a) low j t ((G6 (A8 m a) a).getD k 0),y∈N0 l m a low j t:=fun y hy=>by
 unfold N0;refine List.mem_append_right _ (List.mem_flatMap.2 ⟨(G6 (A8 m a) a).getD k 0,?_,hy⟩);rw[List.getD_eq_getElem?_getD,List.getElem?_eq_getElem hk];exact List.getElem_mem hk
theorem a1k(k:Nat):∀y∈V5 m a low j t k,y∈N0 l m a low j t:=fun y hy=>by
 unfold V5 at hy;rcases List.mem_append.1 hy with hy|hy
 ·exact a9H _ y hy
 ·obtain⟨x,hx,hy⟩:=List.mem_flatMap.1 hy;unfold N0;exact List.mem_append_right _ (List.mem_flatMap.2 ⟨x,List.mem_of_mem_take hx,hy⟩)
theorem a2o(h:∀x,O1 (A8 m a) low j t x=[])(k:Nat):V5 m a low j t k=V6 m a j t m.handlers.length:=by
 unfold V5;rw[List.flatMap_eq_nil_iff.2 (fun x _=>h x),List.append_nil]
end Cf
end Go.Proofs.YtdhophglnhcjbaaGreatDoor
