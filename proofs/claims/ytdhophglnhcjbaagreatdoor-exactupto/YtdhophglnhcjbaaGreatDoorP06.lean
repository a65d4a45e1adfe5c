/- P06: a part of the proof that the last text tells. -/
import Derived.Test.YtdhophglnhcjbaaGreatDoorP05
import Derived.Lib.AppendZeros
import Derived.Maps.AppendAt
set_option linter.all false
set_option maxRecDepth 100000
set_option maxHeartbeats 40000000
open Go.Proofs.Tryz
namespace Go.Proofs.YtdhophglnhcjbaaGreatDoor
section
theorem a0u{P:Prop}(h:P:=by
 refine wp_region_held_drew (S:=fun W=>W.cell? ⟨fp,3,none⟩=some (.int .i64 (f.me.ret.kind:Int))∧W.cell? ⟨fp,4,none⟩=some (.string f.me.ret.name)∧W.cell? ⟨w.heap.size,0,none⟩=some (.int .i64 (u.tag:Int))∧W.cell? ⟨w.heap.size,1,none⟩=some (.int .i64 u.v)) (by kernel_rfl) (HCs.out _ _ HM5.out) (fun hHeld=> ?_);generalize w4.drew=w5 at HM5 hHeld⊢;clear hgd c4' HM4;refine A4 0 ?_;refine A4 1 ?_;refine A4 2 ?_;refine A4 3 ?_;refine A4 4 ?_;refine A4 5 (v:= .agg #[.int .i64 (f.me.ret.kind:Int), .string f.me.ret.name]) ?_;refine A4 6 (v:= .agg #[.int .i64 (u.tag:Int), .int .i64 u.v]) ?_;refine T6 7 fun K' hK=> ?_
 go_simp
 go_wp2_with (go_at_call 301;refine(HEn.out _ _ HM5.out).mono ?_;rintro e w6 ⟨rfl,hM6⟩)
 have HM6:Hid (_):=hM6.drop1.drop1;refine hK.out _ _ (HCs.out _ _ hM6) (fun hHeld=> ?_);clear hM6;refine wpAnyH_done (by kernel_rfl) ?_ _;go_wp2_with fail
 all_goals
  refine bodyPost_ret (results_none rfl _ _ _) rfl ?_;rw[HRv.out];exact⟨rfl,HM6.out⟩):P:=h
theorem a2p{P:Prop}(h:P:=by
 refine⟨e.st _ _ h3.size (fun k hk=>h3.low k (h5 k hk).2.1 (hlk e he k hk)) h4,fun k hk=>⟨(h5 k hk).1,Nat.lt_of_lt_of_le (h5 k hk).2.1 h3.size,fun hm=>(h3.own k hm).elim (hlk e he k hk) (fun h=>absurd (h5 k hk).2.1 (Nat.not_lt.2 h)),(h5 k hk).2.2.2⟩⟩):P:=h
theorem a5r{P:Prop}(h:P:=by
 refine(h3.low k (Nat.lt_of_lt_of_le hk hM.only.size) (fun hm=> ?_)).trans (hM.only.low k hk hn2);rcases List.mem_append.1 hm with hm|hm
 ·exact(hM.only.own k hm).elim hn2 (fun h=>absurd hk (Nat.not_lt.2 h))
 ·exact(hRk k hm).2.2.2.elim hn2 (fun h=>absurd hk (Nat.not_lt.2 h))):P:=h
theorem c5c{P:Prop}(h:P:=by
 rw[List.flatMap_cons,List.nodup_append];refine⟨by simp[F4],h.ln,fun a ha b hb e=> ?_⟩;rw[List.mem_singleton.1 ha]at e;obtain⟨e',he',hb'⟩:=List.mem_flatMap.1 hb;have:=((h.lc e' he').2 b hb').2.1;omega):P:=h
theorem c5f{P:Prop}(h:P:=by
 rcases List.mem_cons.1 he with rfl|he
 ·exact⟨A3.new W cs t,fun k hk=>by
   rw[List.mem_singleton.1 hk];exact⟨h.bw,by simp,fun hm=>Nat.lt_irrefl _ (h.mac.lt _ hm), .inr h.only.size⟩⟩
 ·exact h1.lc e he):P:=h
theorem c5l{P:Prop}(h:P:=by
 exact hO.own' (h.wd j t' v' ht hv') (fun k hk=>hnA k (by rw[hA];simp only[List.mem_append];exact .inr (.inr (.inl (List.mem_flatMap.2 ⟨v',List.mem_of_getElem? hv',E2.2 hk⟩)))))):P:=h
theorem c5u{P:Prop}(h:P:=by
 rcases h3.own k hk with h4|h4
 ·rcases List.mem_append.1 h4 with hm|hm
  ·exact hM.only.own k hm
  ·exact(hRk k hm).2.2.2
 ·exact .inr (Nat.le_trans hM.only.size h4)):P:=h
theorem c5z{P:Prop}(h:P:=by
 rcases hf.2 with⟨e1,-⟩|⟨q',cap,cur,e1,-,-,h5,h6,-⟩
 ·rw[hq]at e1;cases e1
 ·rw[hq]at e1;injection e1 with _ _ e3;unfold maxLen at h6;omega):P:=h
theorem c6w{P:Prop}(h:P:=by
 exact List.Perm.append_right _ List.perm_append_comm):P:=h
end
section
open Go.RowKit Go.Shelf Cf
namespace Kx
theorem a9C(l:List D9):(l.flatMap a1s).length=l.length:=by
 induction l with
 |nil=>rfl
 |cons x l ih=>rw[List.flatMap_cons,List.length_append,ih,List.length_cons];simp only[a1s,List.length_cons,List.length_nil];omega
variable {W W' W0:World}
variable {base cb k lim st st':Nat}
variable {fast:Bool}
variable {y y':D8}
variable {s s':Ms}
variable {x:D9}
theorem I6.lastc(h:I6 W lim base cb fast y s st){xs:List D9}(hy:y.fr=x::xs):
 ∃q k,y.fv= .slice (some ⟨q,0,none⟩) (xs.length+1) k∧s.fr.length=xs.length+1∧xs.length+1≤k∧k≤2^63-1∧W.cell? ⟨q,xs.length,none⟩=some (.pointer (some ⟨x.fp,0,none⟩)):=by
 have hl:s.fr.length=xs.length+1:=by rw[←h.fl,hy];rfl
 have hf:=h.frs;rw[hl]at hf;obtain⟨q,qc,hq,-,hqs⟩:=hf.form (Nat.succ_pos _)
 have hc:=hf.cells (g:=q) (by rw[hq];rfl) xs.length (.pointer (some ⟨x.fp,0,none⟩)) (by
  rw[hy,List.reverse_cons,List.flatMap_append,List.getElem?_append_right (by rw[a9C,List.length_reverse];exact Nat.le_refl _),a9C,List.length_reverse,Nat.sub_self];rfl)
 refine⟨q,qc,hq,hl,?_,?_,by simpa[Addr.add_lit]using hc⟩
 ·rw[hq]at hf;exact a3X hf
 ·exact c5z
theorem b9K(w:World)(lim base cb:Nat)(fast:Bool)(y:D8)(s:Ms)(st:Nat)(h:Hid (I6 w lim base cb fast y s st))(x:D9)(xs:List D9)(hy:y.fr=x::xs)(hl:xs.length≤1000):
 Calls prog 153 #[.pointer (some ⟨y.b,0,none⟩)] w fun e w'=>e= .returned (.pointer (some ⟨x.fp,0,none⟩))∧w.grownBy w' none:=by
 obtain⟨q,k,hfv,hsl,hk,hkm,hq⟩:=h.out.lastc hy;obtain⟨n,hn⟩:∃n,n=xs.length:=⟨_,rfl⟩
 have c4:w.cell? ⟨y.b,4,none⟩=some (.slice (some ⟨q,0,none⟩) (n+1) k):=by rw[hn,←hfv];exact h.out.blk.cell 4 _ rfl
 rw[←hn]at hk hq hl;have hnw:IntKind.i64.wrap (n:Int)=n:=IntWalk.i64_in _ (by omega);have hn0:(0:Int)≤n∧(n:Int)<(n:Int)+1:=by omega
 have hn2:(n:Int)<(n:Int)+1:=by omega
 obtain⟨b,hb⟩:∃b,b=y.b:=⟨_,rfl⟩
 rw[←hb]at c4⊢;obtain⟨fp,hfp⟩:∃fp,fp=x.fp:=⟨_,rfl⟩
 rw[←hfp]at hq⊢;clear hfv hsl hb hfp hn h hy;go_enter func153,ntmps153;go_wp2_with fail
 go_quiet (fail)
 go_wp2
 go_ret;exact⟨rfl,K3 _ _ _⟩
theorem I6.keep(h:I6 W lim base cb fast y s st)(hg:W.grownBy W' none):I6 W' lim base cb fast y s st:=
 ⟨h.blk.keep hg A5,h.low,h.wl,h.fl,h.th.kept hg (by cases y.hv.ownBlock<;>simp),fun j t v ht hv=>(h.wd j t v ht hv).kept hg (by cases v.ownBlock<;>simp),h.frs.kept hg (by cases y.fv.ownBlock<;>simp),fun j x f hx hf=>(h.fm j x f hx hf).keep hg,h.out.kept hg (by cases y.ov.ownBlock<;>simp),h.nd⟩
theorem I6.own{v:Value}(h:I6 W lim base cb fast y s st)(hlb:lim≤base)(hbw:base≤W.heap.size)(hw:W'=W.setCell ⟨y.b,k,none⟩ v)(hc:(a3n cb fast y s st).setIfInBounds k v=a3n cb fast y' s' st')(hb:y'.b=y.b)(hv:y'.hv=y.hv)(ho:y'.ov=y.ov)(hwv:y'.wv=y.wv)(htg:s'.tg=s.tg)(hout:s'.oc.out=s.oc.out)
 (hfr:∃a b,y.fr=a++y'.fr∧s.fr=b++s'.fr∧a.length=b.length) (hfs:W.ownsRow base 210 1 y'.fv s'.fr.length (y'.fr.reverse.flatMap a1s)) (hfo:y'.fv.ownBlock=y.fv.ownBlock):I6 W' lim base cb fast y' s' st'∧E8 W W' y.ids y'.ids:=by
 have hs:=A9 W ⟨y.b,k,none⟩ v;rw[←hw]at hs;obtain⟨a,b,hya,hsb,hab⟩:=hfr;have hO1:E8 W W' [y.b] [y.b]:=E8.one hs (by simp) (fun k hk=> .inl hk);have hbl:=Nat.le_trans hlb h.low;have hnd:=h.nd
 have hnb:∀k∈y.fr.flatMap D9.ids,k≠y.b:=fun k hk e=>by
  unfold D8.ids at hnd;rw[List.nodup_cons]at hnd;exact hnd.1 (by rw[e]at hk;simp[hk])
 have hids:y'.ids=y.b::(C2 y.hv++(C2 y.fv++(C2 y.ov++(y.wv.flatMap C2++y'.fr.flatMap D9.ids)))):=by
  unfold D8.ids;rw[hb,hv,ho,hwv];unfold C2;rw[hfo]
 have hsub:∀k∈y'.ids,k∈y.ids:=fun k hk=>by
  rw[hids]at hk;unfold D8.ids;rw[hya,List.flatMap_append];simp only[List.mem_cons,List.mem_append]at hk⊢;rcases hk with h1|h1|h1|h1|h1|h1<;>simp[h1]
 have hnd':y'.ids.Nodup:=by
  rw[hids];unfold D8.ids at hnd;rw[hya,List.flatMap_append]at hnd;refine List.Nodup.sublist ?_ hnd;refine List.Sublist.cons_cons _ (List.Sublist.append (List.Sublist.refl _) (List.Sublist.append (List.Sublist.refl _) (List.Sublist.append (List.Sublist.refl _) (List.Sublist.append (List.Sublist.refl _) (List.sublist_append_right _ _)))))
 have hbk:A3 W' y'.b (a3n cb fast y' s' st') 209:=by rw[hb,←hc,hw];exact h.blk.set k v
 refine⟨⟨hbk,by rw[hb];exact h.low,by rw[hwv,htg];exact h.wl,?_,?_,?_,j4 hfs hs h.blk (by decide),?_,?_,hnd'⟩,⟨hs.os,hs.tape,hs.output,hs.size,fun k hk hn=>hs.block k hk (fun e=>hn (by rw[Option.some.inj e];simp[D8.ids])),fun k hk=> .inl (hsub k hk)⟩⟩
 ·have:=h.fl;rw[hya,hsb,List.length_append,List.length_append]at this;omega
 ·rw[hv,htg,hwv];exact j4 h.th hs h.blk (by decide)
 ·intro j t u ht hu;rw[htg]at ht;rw[hwv]at hu;exact j4 (h.wd j t u ht hu) hs h.blk (by decide)
 ·intro j x f hx hf;have h1:=h.fm (a.length+j) x f (by rw[hya,List.getElem?_append_right (by omega),Nat.add_sub_cancel_left];exact hx) (by rw[hsb,hab,List.getElem?_append_right (by omega),Nat.add_sub_cancel_left];exact hf);refine h1.other hO1 (fun k hk=> ?_) (fun k hk=>by rw[List.mem_singleton.1 hk];exact hbl) (by omega);rw[List.mem_singleton];exact hnb k (List.mem_flatMap.2 ⟨x,by rw[hya];exact List.mem_append.2 (.inr (List.mem_of_getElem? hx)),hk⟩)
 ·rw[ho,hout];exact j4 h.out hs h.blk (by decide)
theorem b5d(w:World)(lim base cb:Nat)(fast:Bool)(y:D8)(s:Ms)(st:Nat)(h:Hid (I6 w lim base cb fast y s st))(hlb:lim≤base)(hbw:base≤w.heap.size)(x:D9)(xs:List D9)(hy:y.fr=x::xs)(f:Fm)(fs:List Fm)(hs:s.fr=f::fs)(hl:xs.length≤1000):
 Calls prog 241 #[.pointer (some ⟨y.b,0,none⟩)] w fun e w'=>e= .returned (.tuple #[])∧∃v,I6 w' lim base cb fast {y with fr:=xs,fv:=v} {s with fr:=fs} st∧E8 w w' y.ids {y with fr:=xs,fv:=v:D8}.ids∧w'.heap[x.fp]? =w.heap[x.fp]? :=by
 have HFB:Hid (x.fp≠y.b∧x.fp<w.heap.size):=by
  have hnd:=h.out.nd;unfold D8.ids at hnd;rw[List.nodup_cons]at hnd;refine⟨fun e=>hnd.1 (by rw[←e,hy];simp[D9.ids]),h.out.lt _ (by unfold D8.ids;rw[hy];simp[D9.ids])⟩
 obtain⟨q,k,hfv,hsl,hk,hkm,hq⟩:=h.out.lastc hy;obtain⟨n,hn⟩:∃n,n=xs.length:=⟨_,rfl⟩
 have c4:w.cell? ⟨y.b,4,none⟩=some (.slice (some ⟨q,0,none⟩) (n+1) k):=by rw[hn,←hfv];exact h.out.blk.cell 4 _ rfl
 have e4:=h.out.blk.frozen 4;have hfl:fs.length=n:=by rw[hs]at hsl;rw[hn];simpa using hsl
 have HST:Hid (w.ownsRow base 210 1 (.slice (some ⟨q,0,none⟩) n k) fs.length (xs.reverse.flatMap a1s)):=by
  have h1:=h.out.frs;rw[hsl,hfv]at h1;have h2:=a6Q h1;rw[hfl,hn]
  have e:(y.fr.reverse.flatMap a1s).take (xs.length*1)=xs.reverse.flatMap a1s:=by
   rw[hy,List.reverse_cons,List.flatMap_append,Nat.mul_one];exact List.take_left' (by rw[a9C,List.length_reverse])
  rw[e]at h2;exact h2
 have HY:Hid (y.fr=x::xs∧s.fr=f::fs∧y.fv= .slice (some ⟨q,0,none⟩) (n+1) k):=⟨hy,hs,by rw[hn];exact hfv⟩
 rw[←hn]at hk hq hl;have hnw:IntKind.i64.wrap (n:Int)=n:=IntWalk.i64_in _ (by omega);have hn0:(0:Int)≤n∧(n:Int)≤k:=by omega
 have hn2:(n:Int)≤k:=by omega
 obtain⟨b,hb⟩:∃b,b=y.b:=⟨_,rfl⟩
 have HB:=A0 hb;rw[←hb]at c4 e4⊢;clear hfv hsl hb hn hy hs hfl hq;go_enter func241,ntmps241;go_region
 go_end0;have e:=HB.out;subst e;obtain⟨hM,hO⟩:=h.out.own (k:=4) (v:= .slice (some ⟨q,0,none⟩) n k) hlb hbw rfl (y':={y with fr:=xs,fv:= .slice (some ⟨q,0,none⟩) n k}) (s':={s with fr:=fs}) (st':=st) rfl rfl rfl rfl rfl rfl rfl ⟨[x],[f],HY.out.1,HY.out.2.1,rfl⟩ HST.out (by rw[HY.out.2.2];rfl);exact⟨rfl,_,hM.keep (B6 _ none),hO.trans (E8.grown (B6 _ none) _),(A9 w ⟨y.b,4,none⟩ _).block _ HFB.out.2 (fun e=>HFB.out.1 (Option.some.inj e))⟩
theorem c1A(l:List Tg)(vs:List Value)(hl:vs.length=l.length)(k:Nat)(hk:k<l.length):∃v,vs[k]? =some v∧((l.zip vs).flatMap a2K)[k*3]? =some (.int .i64 (l[k].kind:Int))∧((l.zip vs).flatMap a2K)[k*3+1]? =some (.string l[k].cls)∧((l.zip vs).flatMap a2K)[k*3+2]? =some v:=by
 induction l generalizing vs k with
 |nil=>simp at hk
 |cons x l ih=>
  cases vs with
  |nil=>simp at hl
  |cons u vs=>
   cases k with
   |zero=>exact⟨u,rfl,rfl,rfl,rfl⟩
   |succ k=>
    obtain⟨v,h0,h1,h2,h3⟩:=ih vs (by simpa using hl) k (by simpa using hk);refine⟨v,h0,?_⟩;rw[List.zip_cons_cons,List.flatMap_cons,Nat.succ_mul];simp only[List.getElem_cons_succ];rw[show k*3+3+1=k*3+1+3 by omega,show k*3+3+2=k*3+2+3 by omega];exact⟨h1,h2,h3⟩
theorem I6.thing(h:I6 W lim base cb fast y s st){j:Nat}(hj:j<s.tg.length):
 ∃q k v,y.hv= .slice (some ⟨q,0,none⟩) s.tg.length k∧s.tg.length≤k∧k≤2^63-1∧y.wv[j]? =some v∧W.cell? ⟨q,j*3,none⟩=some (.int .i64 (s.tg[j].kind:Int))∧W.cell? ⟨q,j*3+1,none⟩=some (.string s.tg[j].cls)∧W.cell? ⟨q,j*3+2,none⟩=some v:=by
 have hf:=h.th;obtain⟨q,qc,hq,-,hqs⟩:=hf.form (by omega);obtain⟨v,h0,h1,h2,h3⟩:=c1A s.tg y.wv h.wl j hj;have c:=hf.cells (g:=q) (by rw[hq];rfl);refine⟨q,qc,v,hq,?_,?_,h0,by simpa[Addr.add_lit]using c _ _ h1,by simpa[Addr.add_lit]using c _ _ h2,by simpa[Addr.add_lit]using c _ _ h3⟩
 ·rw[hq]at hf;exact a3X hf
 ·exact c5z
theorem c2S(w:World)(lim base cb:Nat)(fast:Bool)(y:D8)(s:Ms)(st:Nat)(h:Hid (I6 w lim base cb fast y s st))(q k:Nat)(hq:y.hv= .slice (some ⟨q,0,none⟩) s.tg.length k)(hk:s.tg.length≤k)(hl:s.tg.length≤100000)(v:Int)(h1:1≤v)(h2:v≤s.tg.length):
 Calls prog 238 #[.pointer (some ⟨y.b,2,none⟩), .int .i64 v] w fun e w'=>e= .returned (.pointer (some ⟨q,(v.toNat-1)*3,none⟩))∧w'=w:=by
 obtain⟨j,rfl⟩:∃j:Nat,v=(j:Int)+1:=⟨v.toNat-1,by omega⟩
 obtain⟨n,hn⟩:∃n,n=s.tg.length:=⟨_,rfl⟩
 have c2:w.cell? ⟨y.b,2,none⟩=some (.slice (some ⟨q,0,none⟩) n k):=by rw[hn,←hq];exact h.out.blk.cell 2 _ rfl
 rw[←hn]at h2 hk hl;have hjw:IntKind.i64.wrap (j:Int)=j:=IntWalk.i64_in _ (by omega);have hj0:(0:Int)≤j∧(j:Int)<n:=by omega
 have hj2:(j:Int)<n:=by omega
 have e:(((j:Int)+1).toNat-1)*3=j*3:=by omega
 rw[e];clear hn hq e;go_enter func238,ntmps238;go_wp2_with fail
 go_ret;exact⟨rfl,rfl⟩
theorem b0I(w:World)(lim base cb:Nat)(fast:Bool)(y:D8)(s:Ms)(st:Nat)(h:Hid (I6 w lim base cb fast y s st))(hl:s.tg.length≤100000)(v:Int)(h1:1≤v)(h2:v≤s.tg.length):
 Calls prog 297 #[.pointer (some ⟨y.b,2,none⟩), .int .i64 v] w fun e w'=>e= .returned (.agg #[.int .i64 ((a0p s v).kind:Int), .string (a0p s v).name])∧w.grownBy w' none:=by
 obtain⟨j,hj⟩:∃j:Nat,j=v.toNat-1:=⟨_,rfl⟩
 have hjl:j<s.tg.length:=by omega
 obtain⟨q,k,u,hq,hk,hkm,-,t0,t1,-⟩:=h.out.thing hjl
 have HT:Hid (∀W,w.grownBy W none→Calls prog 238 #[.pointer (some ⟨y.b,2,none⟩), .int .i64 v] W fun e w'=>e= .returned (.pointer (some ⟨q,j*3,none⟩))∧w'=W):=fun W hW=>by
  rw[hj];exact c2S W lim base cb fast y s st (h.out.keep hW) q k hq hk hl v h1 h2
 have e:a0p s v=⟨s.tg[j].kind,s.tg[j].cls⟩:=by
  unfold a0p a0q;rw[←hj,List.getD_eq_getElem?_getD,List.getElem?_eq_getElem hjl];rfl
 rw[e];generalize s.tg[j].kind=tk at t0⊢;generalize s.tg[j].cls=tc at t1⊢;clear e hj hjl hq hk hkm h1 h2 hl h;go_enter func297,ntmps297;go_upto_region 1 with fail
 have hgw:=A2 w (.cells #[.int .i64 0, .string ⟨#[]⟩] 98) none;have hb1:=A3.new w #[.int .i64 0, .string ⟨#[]⟩] 98;generalize w.alloc (.cells #[.int .i64 0, .string ⟨#[]⟩] 98)=W1 at hgw hb1⊢;have z0:=hgw.cell t0 A5;have z1:=hgw.cell t1 A5;obtain⟨y0,y1⟩:=hb1.q2;obtain⟨f0,f1⟩:=hb1.z2;clear t0 t1;go_upto_region 2 with(go_at_call 238;refine(HT.out _ hgw).mono ?_;rintro e w2 ⟨rfl,rfl⟩)
 go_region
 go_wp2_with fail
 have hb4:=((hb1.set 0 (.int .i64 (tk:Int))).set 1 (.string tc)).keep (B6 _ none) A5;obtain⟨r0,r1⟩:=hb4.q2;have hgs:=A1 (A9 w2 ⟨w.heap.size,0,none⟩ (.int .i64 (tk:Int))) (A9 _ ⟨w.heap.size,1,none⟩ (.string tc));exact bodyPost_ret (v:= .agg #[.int .i64 (tk:Int), .string tc]) (by simp[results,results297,go_sem,r0,r1]) rfl ⟨rfl,D5 hgw (A1 hgs (B6 _ _)) (fun k e=>by cases e;exact .inl (Nat.le_refl _))⟩
theorem b0R(w:World)(t v:Int):Calls prog 300 #[.agg #[.int .i64 t, .int .i64 v]] w fun e w'=>e= .returned (.bool (v==0))∧w.grownBy w' none:=by
 go_enter func300,ntmps300;go_wp2_with fail
 exact bodyPost_ret (v:= .bool (v==0)) (by simp[results,results300,go_sem]) rfl ⟨rfl,A2 _ _ none⟩
theorem a8L(w:World)(fast:Bool)(t:Nat)(v:Int):Calls prog 172 #[.agg #[.bool fast], .int .i64 (t:Int), .int .i64 v] w fun e w'=>e= .returned (.agg #[.int .i64 ((wd fast t v).tag:Int), .int .i64 (wd fast t v).v])∧w.grownBy w' none:=by
 cases fast
 ·go_enter func172,ntmps172;go_wp2_with fail
  have hb:=A3.new (w.alloc (.cells #[.bool false] 204)) #[.int .i64 (t:Int), .int .i64 v] 145;simp only[World.size_alloc]at hb;obtain⟨r0,r1⟩:=hb.q2;exact bodyPost_ret (v:= .agg #[.int .i64 (t:Int), .int .i64 v]) (by simp[results,results172,go_sem,r0,r1]) rfl ⟨rfl,A1 (A2 _ _ none) (A2 _ _ none)⟩
 ·go_enter func172,ntmps172;go_wp2_with fail
  have hb:=A3.new (w.alloc (.cells #[.bool true] 204)) #[.int .i64 0, .int .i64 v] 145;simp only[World.size_alloc]at hb;obtain⟨r0,r1⟩:=hb.q2;exact bodyPost_ret (v:= .agg #[.int .i64 0, .int .i64 v]) (by simp[results,results172,go_sem,r0,r1]) rfl ⟨rfl,A1 (A2 _ _ none) (A2 _ _ none)⟩
theorem b1e(w:World)(fast:Bool)(n:Int):Calls prog 108 #[.agg #[.bool fast], .int .i64 n] w fun e w'=>e= .returned (.agg #[.int .i64 ((wd fast 1 n).tag:Int), .int .i64 (wd fast 1 n).v])∧w.grownBy w' none:=by
 have HW:Hid (∀W,Calls prog 172 #[.agg #[.bool fast], .int .i64 1, .int .i64 n] W fun e w'=>e= .returned (.agg #[.int .i64 ((wd fast 1 n).tag:Int), .int .i64 (wd fast 1 n).v])∧W.grownBy w' none):=fun W=>a8L W fast 1 n
 generalize wd fast 1 n=u at HW⊢;go_enter func108,ntmps108;go_wp2_with (go_at_call 172;refine(HW.out _).mono ?_;rintro e w1 ⟨rfl,hg⟩;have hB:=(A3.new (w.alloc (.cells #[.bool fast] 204)) #[.int .i64 0, .int .i64 0] 145).keep hg A5;simp only[World.size_alloc]at hB;obtain⟨y0,y1⟩:=hB.q2;obtain⟨f0,f1⟩:=hB.z2)
 have hb4:=(hB.set 0 (.int .i64 (u.tag:Int))).set 1 (.int .i64 u.v);obtain⟨r0,r1⟩:=hb4.q2;have hgs:=A1 (A9 w1 ⟨w.heap.size+1,0,none⟩ (.int .i64 (u.tag:Int))) (A9 _ ⟨w.heap.size+1,1,none⟩ (.int .i64 u.v));exact bodyPost_ret (v:= .agg #[.int .i64 (u.tag:Int), .int .i64 u.v]) (by simp[results,results108,go_sem,r0,r1]) rfl ⟨rfl,D5 (A1 (A1 (A2 _ _ none) (A2 _ _ none)) hg) hgs (fun k e=>by cases e;exact .inl (Nat.le_succ _))⟩
theorem b9u(w:World)(fast:Bool):Calls prog 257 #[.agg #[.bool fast]] w fun e w'=>e= .returned (.agg #[.int .i64 ((wd fast 2 0).tag:Int), .int .i64 (wd fast 2 0).v])∧w.grownBy w' none:=by
 have HW:Hid (∀W,Calls prog 172 #[.agg #[.bool fast], .int .i64 2, .int .i64 0] W fun e w'=>e= .returned (.agg #[.int .i64 ((wd fast 2 0).tag:Int), .int .i64 (wd fast 2 0).v])∧W.grownBy w' none):=fun W=>a8L W fast 2 0
 generalize wd fast 2 0=u at HW⊢;go_enter func257,ntmps257;go_wp2_with (go_at_call 172;refine(HW.out _).mono ?_;rintro e w1 ⟨rfl,hg⟩;have hB:=(A3.new (w.alloc (.cells #[.bool fast] 204)) #[.int .i64 0, .int .i64 0] 145).keep hg A5;simp only[World.size_alloc]at hB;obtain⟨y0,y1⟩:=hB.q2;obtain⟨f0,f1⟩:=hB.z2)
 have hb4:=(hB.set 0 (.int .i64 (u.tag:Int))).set 1 (.int .i64 u.v);obtain⟨r0,r1⟩:=hb4.q2;have hgs:=A1 (A9 w1 ⟨w.heap.size+1,0,none⟩ (.int .i64 (u.tag:Int))) (A9 _ ⟨w.heap.size+1,1,none⟩ (.int .i64 u.v));exact bodyPost_ret (v:= .agg #[.int .i64 (u.tag:Int), .int .i64 u.v]) (by simp[results,results257,go_sem,r0,r1]) rfl ⟨rfl,D5 (A1 (A1 (A2 _ _ none) (A2 _ _ none)) hg) hgs (fun k e=>by cases e;exact .inl (Nat.le_succ _))⟩
theorem c0C(w:World)(fast:Bool)(n:Int):Calls prog 170 #[.agg #[.bool fast], .int .i64 n] w fun e w'=>e= .returned (.agg #[.int .i64 ((wd fast 3 n).tag:Int), .int .i64 (wd fast 3 n).v])∧w.grownBy w' none:=by
 have HW:Hid (∀W,Calls prog 172 #[.agg #[.bool fast], .int .i64 3, .int .i64 n] W fun e w'=>e= .returned (.agg #[.int .i64 ((wd fast 3 n).tag:Int), .int .i64 (wd fast 3 n).v])∧W.grownBy w' none):=fun W=>a8L W fast 3 n
 generalize wd fast 3 n=u at HW⊢;go_enter func170,ntmps170;go_wp2_with (go_at_call 172;refine(HW.out _).mono ?_;rintro e w1 ⟨rfl,hg⟩;have hB:=(A3.new (w.alloc (.cells #[.bool fast] 204)) #[.int .i64 0, .int .i64 0] 145).keep hg A5;simp only[World.size_alloc]at hB;obtain⟨y0,y1⟩:=hB.q2;obtain⟨f0,f1⟩:=hB.z2)
 have hb4:=(hB.set 0 (.int .i64 (u.tag:Int))).set 1 (.int .i64 u.v);obtain⟨r0,r1⟩:=hb4.q2;have hgs:=A1 (A9 w1 ⟨w.heap.size+1,0,none⟩ (.int .i64 (u.tag:Int))) (A9 _ ⟨w.heap.size+1,1,none⟩ (.int .i64 u.v));exact bodyPost_ret (v:= .agg #[.int .i64 (u.tag:Int), .int .i64 u.v]) (by simp[results,results170,go_sem,r0,r1]) rfl ⟨rfl,D5 (A1 (A1 (A2 _ _ none) (A2 _ _ none)) hg) hgs (fun k e=>by cases e;exact .inl (Nat.le_succ _))⟩
theorem b8J(w:World)(fast:Bool)(t:Ty):Calls prog 169 #[.agg #[.bool fast], .agg #[.int .i64 (t.kind:Int), .string t.name]] w fun e w'=>e= .returned (.agg #[.int .i64 ((a2E fast t).tag:Int), .int .i64 (a2E fast t).v])∧w.grownBy w' none:=by
 obtain⟨k,s⟩:=t;have HW:=A0 (fun W=>b1e W fast 0);have HN:=A0 (fun W=>b9u W fast)
 have hB:A3 (((w.alloc (.cells #[.bool fast] 204)).alloc (.cells #[.int .i64 (k:Int), .string s] 98)).alloc (.cells #[.int .i64 0, .int .i64 0] 145)) (w.heap.size+1+1) #[.int .i64 0, .int .i64 0] 145:=by
  have h:=A3.new ((w.alloc (.cells #[.bool fast] 204)).alloc (.cells #[.int .i64 (k:Int), .string s] 98)) #[.int .i64 0, .int .i64 0] 145;simpa only[World.size_alloc]using h
 have hW:w.grownBy (((w.alloc (.cells #[.bool fast] 204)).alloc (.cells #[.int .i64 (k:Int), .string s] 98)).alloc (.cells #[.int .i64 0, .int .i64 0] 145)) none:=A1 (A1 (A2 _ _ none) (A2 _ _ none)) (A2 _ _ none);have e:a2E fast ⟨k,s⟩=if k=1 then wd fast 1 0 else wd fast 2 0:=rfl
 rw[e];clear e;by_cases hk:k=1
 ·rw[if_pos hk];have hk1:((k:Int)==1)=true:=by rw[hk];rfl
  clear HN hk;generalize wd fast 1 0=u at HW⊢;go_enter func169,ntmps169;go_wp2_with (go_at_call 108;refine(HW.out _).mono ?_;rintro e w1 ⟨rfl,hg⟩;have hB:=hB.keep hg A5;obtain⟨y0,y1⟩:=hB.q2;obtain⟨f0,f1⟩:=hB.z2)
  have hb4:=(hB.set 0 (.int .i64 (u.tag:Int))).set 1 (.int .i64 u.v);obtain⟨r0,r1⟩:=hb4.q2;have hgs:=A1 (A9 w1 ⟨w.heap.size+1+1,0,none⟩ (.int .i64 (u.tag:Int))) (A9 _ ⟨w.heap.size+1+1,1,none⟩ (.int .i64 u.v));exact bodyPost_ret (v:= .agg #[.int .i64 (u.tag:Int), .int .i64 u.v]) (by simp[results,results169,go_sem,r0,r1]) rfl ⟨rfl,D5 (A1 hW hg) hgs (fun k e=>by cases e;exact .inl (Nat.le_add_right _ 2))⟩
 ·rw[if_neg hk];have hk1:((k:Int)==1)=false:=by simp;omega
  clear HW hk;generalize wd fast 2 0=u at HN⊢;go_enter func169,ntmps169;go_wp2_with (go_at_call 257;refine(HN.out _).mono ?_;rintro e w1 ⟨rfl,hg⟩;have hB:=hB.keep hg A5;obtain⟨y0,y1⟩:=hB.q2;obtain⟨f0,f1⟩:=hB.z2)
  have hb4:=(hB.set 0 (.int .i64 (u.tag:Int))).set 1 (.int .i64 u.v);obtain⟨r0,r1⟩:=hb4.q2;have hgs:=A1 (A9 w1 ⟨w.heap.size+1+1,0,none⟩ (.int .i64 (u.tag:Int))) (A9 _ ⟨w.heap.size+1+1,1,none⟩ (.int .i64 u.v));exact bodyPost_ret (v:= .agg #[.int .i64 (u.tag:Int), .int .i64 u.v]) (by simp[results,results169,go_sem,r0,r1]) rfl ⟨rfl,D5 (A1 hW hg) hgs (fun k e=>by cases e;exact .inl (Nat.le_add_right _ 2))⟩
theorem b6w(w:World)(lim base cb:Nat)(fast:Bool)(y:D8)(s:Ms)(st:Nat)(h:Hid (I6 w lim base cb fast y s st))(hl:s.tg.length≤100000)(u:Wd)(hu:u.tag=3→1≤u.v∧u.v≤s.tg.length):
 Calls prog 231 #[.pointer (some ⟨y.b,2,none⟩), .agg #[.int .i64 (u.tag:Int), .int .i64 u.v]] w fun e w'=>e= .returned (.agg #[.int .i64 ((n8 s u).kind:Int), .string (n8 s u).name])∧w.grownBy w' none:=by
 obtain⟨tag,v⟩:=u
 have HT:Hid (∀W,w.grownBy W none→tag=3→Calls prog 297 #[.pointer (some ⟨y.b,2,none⟩), .int .i64 v] W fun e w'=>e= .returned (.agg #[.int .i64 ((a0p s v).kind:Int), .string (a0p s v).name])∧W.grownBy w' none):=
  fun W hW e=>b0I W lim base cb fast y s st (h.out.keep hW) hl v (hu e).1 (hu e).2
 have hB:A3 ((w.alloc (.cells #[.int .i64 (tag:Int), .int .i64 v] 145)).alloc (.cells #[.int .i64 0, .string ⟨#[]⟩] 98)) (w.heap.size+1) #[.int .i64 0, .string ⟨#[]⟩] 98:=by
  have h:=A3.new (w.alloc (.cells #[.int .i64 (tag:Int), .int .i64 v] 145)) #[.int .i64 0, .string ⟨#[]⟩] 98;simpa only[World.size_alloc]using h
 have hW:w.grownBy ((w.alloc (.cells #[.int .i64 (tag:Int), .int .i64 v] 145)).alloc (.cells #[.int .i64 0, .string ⟨#[]⟩] 98)) none:=A1 (A2 _ _ none) (A2 _ _ none);have HE:Hid (n8 s ⟨tag,v⟩=if tag=1 then O1 else if tag=2 then a1q else if tag=3 then a0p s v else B1):=rfl;generalize n8 s ⟨tag,v⟩=a at HE⊢;generalize y.b=b at HT⊢;generalize a0p s v=z at HE HT;clear h hl hu;obtain⟨y0,y1⟩:=hB.q2;obtain⟨f0,f1⟩:=hB.z2;by_cases h3:tag=3
 ·have e:a=z:=by have:=HE.out;simpa[h3]using this
  have HT':Hid (∀W,w.grownBy W none→Calls prog 297 #[.pointer (some ⟨b,2,none⟩), .int .i64 v] W fun e w'=>e= .returned (.agg #[.int .i64 (a.kind:Int), .string a.name])∧W.grownBy w' none):=fun W hW=>by rw[e];exact HT.out W hW h3
  have k1:((tag:Int)==1)=false:=by rw[h3];rfl
  have k2:((tag:Int)==2)=false:=by rw[h3];rfl
  have k3:((tag:Int)==3)=true:=by rw[h3];rfl
  clear HT HE e h3;obtain⟨ak,an⟩:=a;go_enter func231,ntmps231;go_wp2_with (go_at_call 297;refine(HT'.out _ hW).mono ?_;rintro e w1 ⟨rfl,hg⟩;have hB1:=hB.keep hg A5;obtain⟨y0,y1⟩:=hB1.q2;obtain⟨f0,f1⟩:=hB1.z2)
  have hb4:=(hB1.set 0 (.int .i64 (ak:Int))).set 1 (.string an);obtain⟨r0,r1⟩:=hb4.q2;have hgs:=A1 (A9 w1 ⟨w.heap.size+1,0,none⟩ (.int .i64 (ak:Int))) (A9 _ ⟨w.heap.size+1,1,none⟩ (.string an));exact bodyPost_ret (v:= .agg #[.int .i64 (ak:Int), .string an]) (by simp[results,results231,go_sem,r0,r1]) rfl ⟨rfl,D5 (A1 hW hg) hgs (fun k e=>by cases e;exact .inl (Nat.le_succ _))⟩
 have k3:((tag:Int)==3)=false:=by simp;omega
 by_cases h1:tag=1
 ·have k1:((tag:Int)==1)=true:=by rw[h1];rfl
  have e:a=O1:=by have:=HE.out;simpa[h1]using this
  subst e;clear HT HE h1 h3 y0 y1 f0 f1 hB;go_enter func231,ntmps231;go_wp2_with fail
  have hb:=A3.new (w.alloc (.cells #[.int .i64 (tag:Int), .int .i64 v] 145)) #[.int .i64 1, .string ⟨#[]⟩] 98;simp only[World.size_alloc]at hb;obtain⟨r0,r1⟩:=hb.q2;exact bodyPost_ret (v:= .agg #[.int .i64 1, .string ⟨#[]⟩]) (by simp[results,results231,go_sem,r0,r1]) rfl ⟨rfl,A1 (A2 _ _ none) (A2 _ _ none)⟩
 have k1:((tag:Int)==1)=false:=by simp;omega
 by_cases h2:tag=2
 ·have k2:((tag:Int)==2)=true:=by rw[h2];rfl
  have e:a=a1q:=by have:=HE.out;simpa[h2]using this
  subst e;clear HT HE h1 h2 h3 y0 y1 f0 f1 hB;go_enter func231,ntmps231;go_wp2_with fail
  have hb:=A3.new (w.alloc (.cells #[.int .i64 (tag:Int), .int .i64 v] 145)) #[.int .i64 5, .string ⟨#[]⟩] 98;simp only[World.size_alloc]at hb;obtain⟨r0,r1⟩:=hb.q2;exact bodyPost_ret (v:= .agg #[.int .i64 5, .string ⟨#[]⟩]) (by simp[results,results231,go_sem,r0,r1]) rfl ⟨rfl,A1 (A2 _ _ none) (A2 _ _ none)⟩
 ·have k2:((tag:Int)==2)=false:=by simp;omega
  have e:a=B1:=by have:=HE.out;simpa[h1,h2,h3]using this
  subst e;clear HT HE h1 h2 h3 y0 y1 f0 f1 hB;go_enter func231,ntmps231;go_wp2_with fail
  have hb:=A3.new (w.alloc (.cells #[.int .i64 (tag:Int), .int .i64 v] 145)) #[.int .i64 0, .string ⟨#[]⟩] 98;simp only[World.size_alloc]at hb;obtain⟨r0,r1⟩:=hb.q2;exact bodyPost_ret (v:= .agg #[.int .i64 0, .string ⟨#[]⟩]) (by simp[results,results231,go_sem,r0,r1]) rfl ⟨rfl,A1 (A2 _ _ none) (A2 _ _ none)⟩
theorem I6.grow(h:I6 W lim base cb fast y s st){r:Option Nat}{g:World}(hg1:W.grownBy g r)(hr:∀k,r=some k→y.hv.ownBlock=some k)(hlb:lim≤base)(hbw:base≤W.heap.size){t:Tg}{u v:Value}
 (ho:g.ownsRow base 139 3 v (s.tg.length+1) (((s.tg++ [t]).zip (y.wv++ [u])).flatMap a2K)) (hv:∀k,v.ownBlock=some k→y.hv.ownBlock=some k∨W.heap.size≤k)
 (hu:W.ownsRow base 145 2 u t.words.length (t.words.flatMap H9)) (hun:∀k,u.ownBlock=some k→k∉y.ids) (hw:W'=g.setCell ⟨y.b,2,none⟩ v):
 I6 W' lim base cb fast {y with hv:=v,wv:=y.wv++ [u]} {s with tg:=s.tg++ [t]} st∧E8 W W' (y.ids++C2 u) {y with hv:=v,wv:=y.wv++ [u]:D8}.ids:=by
 obtain⟨A,hA⟩:∃A,A=C2 y.fv++(C2 y.ov++(y.wv.flatMap C2++y.fr.flatMap D9.ids)):=⟨_,rfl⟩
 have hI:y.ids=y.b::(C2 y.hv++A):=by rw[hA];rfl
 have hnd:=h.nd;rw[hI,List.nodup_cons,List.nodup_append]at hnd;obtain⟨n1,n2,n3,n4⟩:=hnd;have hbA:y.b∉A:=fun e=>n1 (List.mem_append.2 (.inr e))
 have hbh:y.hv.ownBlock≠some y.b:=fun e=>n1 (List.mem_append.2 (.inl (E2.2 e)))
 have hhA:∀k,y.hv.ownBlock=some k→k∉A:=fun k e hk=>n4 k (E2.2 e) k hk rfl
 have hAl:∀k∈A,k<W.heap.size:=fun k hk=>h.lt k (by rw[hI];simp[hk])
 have hs:=A9 g ⟨y.b,2,none⟩ v;rw[←hw]at hs;have hb:=h.blk.keep hg1 (fun e=>hbh (hr _ e.symm))
 have hO:E8 W W' (y.b::C2 y.hv) []:=⟨hs.os.trans hg1.os,hs.tape.trans hg1.tape,hs.output.trans hg1.output,Nat.le_trans hg1.size hs.size,fun k hk hn=>by
  rw[List.mem_cons,E2]at hn;exact(hs.block k (Nat.lt_of_lt_of_le hk hg1.size) (fun e=>hn (.inl (Option.some.inj e)))).trans (hg1.block k hk (fun e=>hn (.inr (hr k e.symm)))),fun k hk=>by cases hk⟩
 have hnA:∀k∈A,k∉y.b::C2 y.hv:=fun k hk hm=>by
  rw[List.mem_cons,E2]at hm;rcases hm with h1|h1
  ·exact hbA (h1▸hk)
  ·exact hhA k h1 hk
 have hids:({y with hv:=v,wv:=y.wv++ [u]:D8}).ids.Perm (y.b::(C2 v++(C2 u++A))):=by
  unfold D8.ids;rw[hA];refine List.Perm.cons _ (List.Perm.append_left _ ?_);rw[List.flatMap_append];simp only[List.flatMap_cons,List.flatMap_nil,List.append_nil];have e:C2 u++(C2 y.fv++(C2 y.ov++(y.wv.flatMap C2++y.fr.flatMap D9.ids)))=C2 u++(C2 y.fv++C2 y.ov++y.wv.flatMap C2)++y.fr.flatMap D9.ids:=by simp only[List.append_assoc]
  have e2:C2 y.fv++(C2 y.ov++(y.wv.flatMap C2++C2 u++y.fr.flatMap D9.ids))=(C2 y.fv++C2 y.ov++y.wv.flatMap C2)++C2 u++y.fr.flatMap D9.ids:=by simp only[List.append_assoc]
  rw[e,e2];exact c6w
 have hul:=fun k hk=>(hu.lt k hk).2
 have hnd':({y with hv:=v,wv:=y.wv++ [u]:D8}).ids.Nodup:=by
  rw[hids.nodup_iff,List.nodup_cons,List.nodup_append,List.nodup_append];refine⟨fun hm=> ?_,a3O _,⟨a3O _,n3,fun a ha b hb e=> ?_⟩,fun a ha b hb e=> ?_⟩
  ·rw[List.mem_append,List.mem_append,E2,E2]at hm;rcases hm with h1|h1|h1
   ·rcases hv _ h1 with h2|h2
    ·exact hbh h2
    ·exact absurd h.blk.lt (by omega)
   ·exact hun _ h1 (by rw[hI];simp)
   ·exact hbA h1
  ·rw[E2]at ha;subst e;exact hun _ ha (by rw[hI];simp[hb])
  ·rw[E2]at ha;subst e;rw[List.mem_append,E2]at hb;rcases hv _ ha with h2|h2
   ·rcases hb with h1|h1
    ·exact hun _ h1 (by rw[hI];simp[E2,h2])
    ·exact hhA _ h2 h1
   ·rcases hb with h1|h1
    ·have:=hul _ h1;omega
    ·have:=hAl _ h1;omega
 refine⟨⟨by rw[hw];exact hb.set 2 v,h.low,by simp[h.wl],h.fl,?_,?_,hO.own' h.frs (fun k hk=>hnA k (by rw[hA];simp[E2,hk])),?_,hO.own' h.out (fun k hk=>hnA k (by rw[hA];simp[E2,hk])),hnd'⟩,⟨hO.os,hO.tape,hO.output,hO.size,fun k hk hn=>hO.low k hk (fun hm=>hn ?_),fun k hk=> ?_⟩⟩
 ·have:=j4 ho hs hb (by decide);simpa using this
 ·intro j t' v' ht hv';dsimp only at ht hv';by_cases hj:j<s.tg.length
  ·rw[List.getElem?_append_left hj]at ht;rw[List.getElem?_append_left (by rw[h.wl];exact hj)]at hv';exact c5l
  ·rw[List.getElem?_append_right (by omega)]at ht;rw[List.getElem?_append_right (by rw[h.wl];omega),h.wl]at hv';cases hj0:j-s.tg.length with
   |succ i=>rw[hj0]at ht;simp at ht
   |zero=>
    rw[hj0]at ht hv';obtain rfl:t=t':=by simpa using ht
    obtain rfl:u=v':=by simpa using hv'
    exact hO.own' hu (fun k hk hm=>hun k hk (by rw[hI];rw[List.mem_cons]at hm⊢;exact hm.imp id (fun h=>List.mem_append.2 (.inl h))))
 ·intro j x f hx hf;refine(h.fm j x f hx hf).other hO (fun k hk=>hnA k (by rw[hA];simp only[List.mem_append];exact .inr (.inr (.inr (List.mem_flatMap.2 ⟨x,List.mem_of_getElem? hx,hk⟩))))) (fun k hk=> ?_) (by omega);rw[List.mem_cons,E2]at hk;rcases hk with rfl|h1
  ·exact Nat.le_trans hlb h.low
  ·exact Nat.le_trans hlb (h.th.lt k h1).1
 ·rw[hI];rw[List.mem_cons]at hm;simp only[List.mem_append,List.mem_cons];exact .inl (hm.imp id .inl)
 ·have h1:=(hids.mem_iff).1 hk;rw[hI];simp only[List.mem_append,List.mem_cons,E2]at h1⊢;rcases h1 with h1|h1|h1|h1
  ·exact .inl (.inl (.inl h1))
  ·exact(hv k h1).imp (fun h2=> .inl (.inr (.inl h2))) id
  ·exact .inl (.inr h1)
  ·exact .inl (.inl (.inr (.inr h1)))
theorem c1n:(prog.info? 139).map (fun i=>(i.zero,i.size,i.bytes))=some (some (.agg #[.int .i64 0, .string ⟨#[]⟩, .slice none 0 0]),3,48):=by kernel_rfl
theorem b1X(w:World)(lim base cb:Nat)(fast:Bool)(y:D8)(s:Ms)(st:Nat)(h:Hid (I6 w lim base cb fast y s st))(hlb:lim≤base)(hbw:base≤w.heap.size)(hs:s.tg.length<100000)(t:Tg)(u:Value)(hu:Hid (w.ownsRow base 145 2 u t.words.length (t.words.flatMap H9)))(hun:Hid (∀k,u.ownBlock=some k→k∉y.ids)):
 Calls prog 104 #[.pointer (some ⟨y.b,2,none⟩), .agg #[.int .i64 (t.kind:Int), .string t.cls,u]] w fun e w'=>e= .returned (.int .i64 ((s.tg.length+1:Nat):Int))∧∃v,I6 w' lim base cb fast {y with hv:=v,wv:=y.wv++ [u]} {s with tg:=s.tg++ [t]} st∧E8 w w' (y.ids++C2 u) {y with hv:=v,wv:=y.wv++ [u]:D8}.ids:=by
 obtain⟨ua,uk,rfl⟩:=F0 hu.out;obtain⟨un,hun2⟩:∃un,un=t.words.length:=⟨_,rfl⟩
 rw[←hun2]at hu hun⊢;have HU:=A0 hun2;clear hun2;obtain⟨sa,sk,hsv⟩:=F0 h.out.th;obtain⟨n,hn⟩:∃n,n=s.tg.length:=⟨_,rfl⟩
 rw[←hn]at hsv hs;obtain⟨b,hb⟩:∃b,b=y.b:=⟨_,rfl⟩
 have HJ:Hid (s.tg.length=n∧y.hv= .slice sa n sk∧b=y.b):=⟨hn.symm,hsv,hb⟩
 obtain⟨tk,tc,tw⟩:=t;rw[←hb,←hn];clear hn hsv hb;obtain⟨inf,hi0,hz0,hz1,hz2⟩:=info_parts c1n;dsimp only at hu HU⊢;go_enter func104,ntmps104;go_upto_region 1 with fail
 have hgw:=A2 w (.cells #[.int .i64 (tk:Int), .string tc, .slice ua un uk] 139) none;have hb1:=A3.new w #[.int .i64 (tk:Int), .string tc, .slice ua un uk] 139;generalize w.alloc (.cells #[.int .i64 (tk:Int), .string tc, .slice ua un uk] 139)=W1 at hgw hb1⊢;have HF1:=A0 (h.out.keep hgw);have c2:W1.cell? ⟨b,2,none⟩=some (.slice sa n sk):=by rw[HJ.out.2.2,←HJ.out.2.1];exact HF1.out.blk.cell 2 _ rfl
 have e2:W1.frozen? ⟨b,2,none⟩=false:=by rw[HJ.out.2.2];exact HF1.out.blk.frozen 2
 obtain⟨b0,b1,b2⟩:=hb1.q3
 have HO1:Hid (W1.ownsRow base 139 3 (.slice sa n sk) n ((s.tg.zip y.wv).flatMap a2K)):=by
  have:=HF1.out.th;rw[HJ.out.1,HJ.out.2.1]at this;exact this
 have HB1:Hid (A3 W1 b (a3n cb fast y s st) 209):=by rw[HJ.out.2.2];exact HF1.out.blk
 have hbW:=Nat.le_trans hbw hgw.size;have hne:=I4 HO1.out HB1.out (by decide);have hwl:=HB1.out.lt;have c0a:∀o,(W1.drew.alloc o).cell? ⟨b,2,none⟩=some (.slice sa n sk):=fun o=>(A1 (B6 _ _) (A2 _ _ none)).cell c2 (by simp)
 have z0a:=fun o=>((A2 W1.drew o none).frozen_far ⟨b,2,none⟩ hwl (by simp)).trans e2
 go_region_law (refine step_append_lies _ rfl _ _ 60 rfl base 139 inf _ 3 48 underlying60 hi0 hz0 hz1 hz2 rfl (by decide) _ n ((s.tg.zip y.wv).flatMap a2K) rfl ((World.ownsRow.drew HO1.out).alloc _) ⟨W1.heap.size,0,none⟩ 1 1 [.int .i64 (tk:Int), .string tc, .slice ua un uk] rfl rfl (S6 W1.drew _ _) (by simp[Value.oneCell']) (by omega) (by unfold maxLen;omega) (by omega) (by simp;omega) _ rfl ?_
                intro g cap w4 hown4 hgrow4 hat hlt4;have c4:=(hgrow4.cell_far ⟨b,2,none⟩ (by simp;omega) (fun e=>hne e.symm)).trans (c0a _);have f4:=(hgrow4.frozen_far ⟨b,2,none⟩ (by simp;omega) (fun e=>hne e.symm)).trans (z0a _);have hgr:W1.grownBy w4 (Value.slice sa n sk).ownBlock:=A1 (A1 (B6 _ _) (A2 _ _ _)) hgrow4)
 all_goals
  have ho:w4.ownsRow base 139 3 (.slice (some ⟨g,0,none⟩) (n+1) cap) (s.tg.length+1) (((s.tg++ [(⟨tk,tc,tw⟩:Tg)]).zip (y.wv++ [Value.slice ua un uk])).flatMap a2K):=by
   rw[List.zip_append HF1.out.wl.symm,List.flatMap_append,HJ.out.1];simpa[a2K]using hown4
  have hat2:(Value.slice sa n sk).ownBlock=some g∨W1.heap.size≤g:=by
   rcases hat with h1|h1
   ·exact .inl h1
   ·exact .inr (by rw[h1];simp)
  have hu1:W1.ownsRow base 145 2 (.slice ua un uk) tw.length (tw.flatMap H9):=by
   have:=hu.out;rw[HU.out]at this⊢;exact this.kept hgw (by cases (Value.slice ua tw.length uk).ownBlock<;>simp)
  clear hat hown4 hgrow4
  obtain⟨hF,hO⟩:=HF1.out.grow (r:=(Value.slice sa n sk).ownBlock) hgr (fun k e=>by rw[HJ.out.2.1];exact e) hlb hbW (t:=⟨tk,tc,tw⟩) (v:= .slice (some ⟨g,0,none⟩) (n+1) cap) ho (fun k e=>by
   have e:g=k:=Option.some.inj e;subst e;rw[HJ.out.2.1];exact hat2) hu1 hun.out rfl
  rw[←HJ.out.2.2]at hF hO;have c5:(w4.setCell ⟨b,2,none⟩ (.slice (some ⟨g,0,none⟩) (n+1) cap)).cell? ⟨b,2,none⟩=some (.slice (some ⟨g,0,none⟩) (n+1) cap):=hF.blk.cell 2 _ rfl;have HF5:Hid (_∧_):=⟨hF,hO⟩
  generalize w4.setCell ⟨b,2,none⟩ (.slice (some ⟨g,0,none⟩) (n+1) cap)=W5 at HF5 c5⊢;clear hF hO ho hu1 hat2 c4 f4 c0a z0a;go_wp2_with fail
  exact bodyPost_ret (v:= .int .i64 ((n:Int)+1)) (by simp[results,results104,go_sem]) rfl ⟨by rw[show((n+1:Nat):Int)=(n:Int)+1 by omega],_,HF5.out.1,(E8.grown hgw _).trans HF5.out.2⟩
theorem I6.other{g:Nat}(h:I6 W lim base cb fast y s st)(hg:W.grownBy W' (some g))(hn:g∉y.ids)(hl:lim≤g)(hlw:lim≤W.heap.size):I6 W' lim base cb fast y s st:=by
 have hO:E8 W W' [g] []:=E8.one hg (by simp) (fun k hk=>by cases hk);have hk:∀k∈y.ids,k∉ [g]:=fun k hk hm=>hn (List.mem_singleton.1 hm▸hk)
 unfold D8.ids at hk
 exact⟨hO.blk h.blk (hk _ (by simp)),h.low,h.wl,h.fl,hO.own' h.th (fun k e=>hk k (by simp[E2,e])),
  fun j t v ht hv=>hO.own' (h.wd j t v ht hv) (fun k e=>hk k (List.mem_cons.2 (.inr (List.mem_append.2 (.inr (List.mem_append.2 (.inr (List.mem_append.2 (.inr (List.mem_append.2 (.inl (List.mem_flatMap.2 ⟨v,List.mem_of_getElem? hv,E2.2 e⟩)))))))))))),
  hO.own' h.frs (fun k e=>hk k (by simp[E2,e])),
  fun j x f hx hf=>(h.fm j x f hx hf).other hO (fun k e=>hk k (List.mem_cons.2 (.inr (List.mem_append.2 (.inr (List.mem_append.2 (.inr (List.mem_append.2 (.inr (List.mem_append.2 (.inr (List.mem_flatMap.2 ⟨x,List.mem_of_getElem? hx,e⟩)))))))))))) (fun k e=>by rw[List.mem_singleton.1 e];exact hl) hlw,
  hO.own' h.out (fun k e=>hk k (by simp[E2,e])),h.nd⟩
theorem c1m(w:World)(lim base cb:Nat)(fast:Bool)(y:D8)(s:Ms)(st:Nat)(h:Hid (I6 w lim base cb fast y s st))(hlb:lim≤base)(hbw:base≤w.heap.size)(hs:s.tg.length<100000)(t:Tg)(u:Value)(hu:Hid (w.ownsRow base 145 2 u t.words.length (t.words.flatMap H9)))(hun:Hid (∀k,u.ownBlock=some k→k∉y.ids)):
 Calls prog 106 #[.pointer (some ⟨y.b,0,none⟩), .agg #[.int .i64 (t.kind:Int), .string t.cls,u]] w fun e w'=>e= .returned (.agg #[.int .i64 ((wd fast 3 (s.tg.length+1)).tag:Int), .int .i64 (wd fast 3 (s.tg.length+1)).v])∧∃v,I6 w' lim base cb fast {y with hv:=v,wv:=y.wv++ [u]} {s with tg:=s.tg++ [t]} st∧E8 w w' (y.ids++C2 u) {y with hv:=v,wv:=y.wv++ [u]:D8}.ids:=by
 have hnew:∀k,w.heap.size≤k→k∉y.ids++C2 u:=fun k hk hm=>by
  rw[List.mem_append,E2]at hm;rcases hm with h1|h1
  ·have:=h.out.lt k h1;omega
  ·have:=(hu.out.lt k h1).2;omega
 obtain⟨ua,uk,rfl⟩:=F0 hu.out;obtain⟨un,HU⟩:∃un,Hid (un=t.words.length):=⟨_,rfl⟩
 obtain⟨W0,HW0⟩:∃W0,Hid (W0=w):=⟨_,rfl⟩
 have HA:Hid (∀W,w.grownBy W none→Calls prog 104 #[.pointer (some ⟨y.b,2,none⟩), .agg #[.int .i64 (t.kind:Int), .string t.cls, .slice ua t.words.length uk]] W fun e w'=>e= .returned (.int .i64 ((s.tg.length+1:Nat):Int))∧∃v,I6 w' lim base cb fast {y with hv:=v,wv:=y.wv++ [.slice ua t.words.length uk]} {s with tg:=s.tg++ [t]} st∧E8 W w' (y.ids++C2 (.slice ua t.words.length uk)) {y with hv:=v,wv:=y.wv++ [.slice ua t.words.length uk]:D8}.ids):=fun W hW=>
  b1X W lim base cb fast y s st (h.out.keep hW) hlb (Nat.le_trans hbw hW.size) hs t _ (hu.out.kept hW (by cases (Value.slice ua t.words.length uk).ownBlock<;>simp)) hun
 have HW3:Hid (∀W,Calls prog 170 #[.agg #[.bool fast], .int .i64 ((s.tg.length+1:Nat):Int)] W fun e w'=>e= .returned (.agg #[.int .i64 ((wd fast 3 (s.tg.length+1)).tag:Int), .int .i64 (wd fast 3 (s.tg.length+1)).v])∧W.grownBy w' none):=fun W=>c0C W fast _
 have c0:=h.out.blk.c0;generalize wd fast 3 (s.tg.length+1)=z at HW3⊢;have HN:=A0 hnew;have hne:y.b≠w.heap.size:=fun e=>hnew _ (Nat.le_refl _) (by rw[←e];exact List.mem_append.2 (.inl (by simp[D8.ids])))
 have hne1:y.b≠w.heap.size+1:=fun e=>hnew _ (Nat.le_succ _) (by rw[Nat.succ_eq_add_one,←e];exact List.mem_append.2 (.inl (by simp[D8.ids])))
 have hne2:=hne1.symm;clear hne1 hne;clear hnew hu hun h HU HW0;generalize t.words.length=un at*
 generalize s.tg.length+1=n1 at*
 obtain⟨tk,tc,tw⟩:=t;dsimp only at HA HN⊢;go_enter func106,ntmps106;go_upto_region 1 with fail
 have hgw:w.grownBy ((w.alloc (.cells #[.int .i64 (tk:Int), .string tc, .slice ua un uk] 139)).alloc (.cells #[.int .i64 0, .int .i64 0] 145)) none:=A1 (A2 _ _ none) (A2 _ _ none);have hb1:=(A3.new w #[.int .i64 (tk:Int), .string tc, .slice ua un uk] 139).keep (A2 (w.alloc (.cells #[.int .i64 (tk:Int), .string tc, .slice ua un uk] 139)) (.cells #[.int .i64 0, .int .i64 0] 145) none) (by simp);have hb2:=A3.new (w.alloc (.cells #[.int .i64 (tk:Int), .string tc, .slice ua un uk] 139)) #[.int .i64 0, .int .i64 0] 145;simp only[World.size_alloc]at hb2;generalize (w.alloc (.cells #[.int .i64 (tk:Int), .string tc, .slice ua un uk] 139)).alloc (.cells #[.int .i64 0, .int .i64 0] 145)=W1 at hgw hb1 hb2⊢;have HGd:=A0 (A1 hgw (B6 _ none));have HR:Hid (A3 W1.drew (w.heap.size+1) #[.int .i64 0, .int .i64 0] 145∧A3 W1.drew w.heap.size #[.int .i64 (tk:Int), .string tc, .slice ua un uk] 139):=⟨hb2,hb1⟩
 have c0:=HGd.out.cell c0 (by simp);obtain⟨b0,b1,b2⟩:=HR.out.2.q3;clear hb1 hb2 hgw
 go_region_held2 (fun w'=>w'.cell? ⟨y.b,0,none⟩=some (.bool fast)∧w'.cell? ⟨w.heap.size,0,none⟩=some (.int .i64 (tk:Int))∧w'.cell? ⟨w.heap.size,1,none⟩=some (.string tc)∧w'.cell? ⟨w.heap.size,2,none⟩=some (.slice ua un uk)) (go_keep)
  (first
    |(go_at_call 104
      refine(HA.out _ HGd.out).mono ?_;rintro e w2 ⟨rfl,v2,hM2,hO2⟩;have HM2:Hid (_∧_):=⟨hM2,hO2⟩
      have q1:=hO2.blk HR.out.2 (HN.out _ (Nat.le_refl _));have HQ2:=A0 (hO2.blk HR.out.1 (HN.out _ (Nat.le_succ _)));have m0:w2.cell? ⟨y.b,0,none⟩=some (.bool fast):=hM2.blk.cell 0 _ rfl;have n0:=q1.c0;have n1:=q1.c1;have n2:=q1.c2;clear q1 hM2 hO2;try dsimp only)
    |(go_at_call 170
      refine(HW3.out _).mono ?_;rintro e w3 ⟨rfl,hg3⟩;have p0:=hg3.cell m0 A5;have p1:=hg3.cell n0 A5;have p2:=hg3.cell n1 A5;have p3:=hg3.cell n2 A5;have hB3:=HQ2.out.keep hg3 A5;obtain⟨y0,y1⟩:=hB3.q2;obtain⟨f0,f1⟩:=hB3.z2;try dsimp only))
 all_goals
  obtain⟨hM2,hO2⟩:=HM2.out;have hlt1:=HR.out.1.lt;have hgs:=A1 (A9 w3 ⟨w.heap.size+1,0,none⟩ (.int .i64 (z.tag:Int))) (A9 _ ⟨w.heap.size+1,1,none⟩ (.int .i64 z.v));have hMf:=(hM2.keep hg3).other hgs (fun hm=>(hO2.own _ hm).elim (HN.out _ (Nat.le_succ _)) (fun h=>absurd hlt1 (Nat.not_lt.2 h))) (by dsimp only;omega) (Nat.le_trans (Nat.le_trans hlb hbw) (Nat.le_trans HGd.out.size (Nat.le_trans hO2.size hg3.size)));have hOf:=(((E8.grown HGd.out _).trans hO2).trans (E8.grown hg3 _)).late hgs (Nat.le_succ _);have HF:Hid (_∧_):=⟨hMf,hOf⟩
  have hb4:=(hB3.set 0 (.int .i64 (z.tag:Int))).set 1 (.int .i64 z.v);obtain⟨r0,r1⟩:=hb4.q2;clear hM2 hO2 hMf hOf hlt1;go_wp2_with fail
  exact bodyPost_ret (v:= .agg #[.int .i64 (z.tag:Int), .int .i64 z.v]) (by simp[results,results106,go_sem,r0,r1]) rfl ⟨rfl,_,HF.out.1,HF.out.2⟩
structure En where
 lim:Nat
 base:Nat
 cb:Nat
 fast:Bool
 L:List Cl
 p:Addr
 cap:Nat
 m1:Nat
 m2:Nat
 m3:Nat
 q:Nat→Qs
 b:Nat
structure Lo where
 ids:List Nat
 P:World→Prop
 st:∀W W':World,W.heap.size≤W'.heap.size→(∀k∈ids,W'.heap[k]? =W.heap[k]?)→P W→P W'
def F4(k:Nat)(cs:Array Value)(t:TypeId):Lo:=⟨[k],fun W=>A3 W k cs t,fun W W' _ hk h=>by unfold A3 at*;rw[hk k (List.mem_singleton.2 rfl)];exact h⟩
theorem b1L{e sz n:Nat}{v:Value}{xs:List Value}(hk:∀k∈C2 v,W'.heap[k]? =W.heap[k]?)(h:W.ownsRow base e sz v n xs):W'.ownsRow base e sz v n xs:=by
 refine⟨h.1,?_⟩;rcases h.2 with h1|⟨g,cap,cur,hv,hb,hg,h2⟩
 ·exact .inl h1
 ·exact .inr ⟨g,cap,cur,hv,hb,(hk g (E2.2 (by rw[hv];rfl))).trans hg,h2⟩
def F8(base:Nat)(v:Value)(l:List Wd):Lo:=⟨C2 v,fun W=>W.ownsRow base 145 2 v l.length (l.flatMap H9),fun _ _ _ hk h=>b1L hk h⟩
structure i9(E:En)(W0:World)(S0:List Nat)(W:World)(y:D8)(s:Ms)(st:Nat)(loc:List Lo):Prop where
 lk:Lk W E.lim E.cb E.L E.p E.cap E.m1 E.m2 E.m3 E.q
 lb:E.lim≤E.base
 bw:E.base≤W.heap.size
 bb:y.b=E.b
 mac:I6 W E.lim E.base E.cb E.fast y s st
 only:E8 W0 W S0 y.ids
 lc:∀e∈loc,e.P W∧∀k∈e.ids,E.base≤k∧k<W.heap.size∧k∉y.ids∧(k∈S0∨W0.heap.size≤k)
 ln:(loc.flatMap Lo.ids).Nodup
def Mc(E:En)(W0:World)(S0:List Nat)(W:World)(fps:List Nat)(s:Ms)(st:Nat)(loc:List Lo):Prop:=∃y,y.fr.map D9.fp=fps∧i9 E W0 S0 W y s st loc
theorem M1.ge{f:Fm}(h:M1 W lim base x f):∀k∈x.ids,base≤k:=fun k hk=>by
 simp only[D9.ids,List.mem_cons,List.mem_append,E2]at hk;rcases hk with h1|h1|h1
 ·rw[h1];exact h.low
 ·exact(h.st.lt k h1).1
 ·exact(h.lo.lt k h1).1
theorem I6.ge(h:I6 W lim base cb fast y s st):∀k∈y.ids,base≤k:=fun k hk=>by
 unfold D8.ids at hk;simp only[List.mem_cons,List.mem_append,E2,List.mem_flatMap]at hk;rcases hk with rfl|hk|hk|hk|⟨v,hv,hk⟩|⟨x,hx,hk⟩
 ·exact h.low
 ·exact(h.th.lt k hk).1
 ·exact(h.frs.lt k hk).1
 ·exact(h.out.lt k hk).1
 ·obtain⟨j,hj,hje⟩:=List.getElem_of_mem hv;have hj2:j<s.tg.length:=by rw[←h.wl];exact hj
  exact((h.wd j s.tg[j] v (List.getElem?_eq_getElem hj2) (by rw[List.getElem?_eq_getElem hj,hje])).lt k hk).1
 ·obtain⟨j,hj,hje⟩:=List.getElem_of_mem hx;have hj2:j<s.fr.length:=by rw[←h.fl];exact hj
  exact(h.fm j x s.fr[j] (by rw[List.getElem?_eq_getElem hj,hje]) (List.getElem?_eq_getElem hj2)).ge k hk
theorem Lk.below{w w':World}{b:Nat}{L:List Cl}{p:Addr}{cap m1 m2 m3:Nat}{q:Nat→Qs}(h:Lk w lim b L p cap m1 m2 m3 q){B:Nat}(hb:Below B w w')(hl:lim≤B):Lk w' lim b L p cap m1 m2 m3 q:=by
 have hrd:∀{α:Type} {sz:Nat} {enc:α→List Value} {a:Option Addr} {xs:List α},B8 w lim sz enc a xs→B8 w' lim sz enc a xs:=fun hr j hj=>by
  obtain⟨p,h1,h2,h3⟩:=hr j hj;exact⟨p,h1,h2,fun k u hu=>(hb.cell (by rw[U9];omega)).trans (h3 k u hu)⟩
 refine⟨h.kls.below hb hl,h.up,h.dist,h.named,h.sf,h.sm,fun i hi=>hrd (h.pf i hi),?_⟩;intro i hi j hj;obtain⟨p,pa,ca,ha,pk,ck,hk,h1,h2,h3,h4,h5,h6⟩:=h.pm i hi j hj;exact⟨p,pa,ca,ha,pk,ck,hk,h1,h2,hrd h3,hrd h4,hrd h5,fun r u hu=>(hb.cell (by rw[U9];omega)).trans (h6 r u hu)⟩
variable {E:En}
variable {S0 fps:List Nat}
variable {loc:List Lo}
theorem i9.step(h:i9 E W0 S0 W y s st loc)(hM:I6 W' E.lim E.base E.cb E.fast y' s' st')(hO:E8 W W' y.ids y'.ids)(hb:y'.b=E.b):i9 E W0 S0 W' y' s' st' loc:=by
 have hge:=h.mac.ge;refine⟨h.lk.below (B:=E.base) ⟨hO.os,hO.tape,hO.output,hO.size,fun k hk=>hO.low k (Nat.lt_of_lt_of_le hk h.bw) (fun hm=>absurd hk (Nat.not_lt.2 (hge k hm)))⟩ h.lb,h.lb,Nat.le_trans h.bw hO.size,hb,hM,h.only.trans hO,fun e he=>⟨e.st _ _ hO.size (fun k hk=>hO.low k ((h.lc e he).2 k hk).2.1 ((h.lc e he).2 k hk).2.2.1) (h.lc e he).1,fun k hk=> ?_⟩,h.ln⟩
 ·obtain⟨h1,h2,h3,h5⟩:=(h.lc e he).2 k hk;exact⟨h1,Nat.lt_of_lt_of_le h2 hO.size,fun hm=>(hO.own k hm).elim h3 (fun h4=>absurd h2 (Nat.not_lt.2 h4)),h5⟩
theorem Mc.keep(h:Mc E W0 S0 W fps s st loc)(hg:W.grownBy W' none):Mc E W0 S0 W' fps s st loc:=by
 obtain⟨y,hy,h⟩:=h;exact⟨y,hy,h.step (h.mac.keep hg) (E8.grown hg _) h.bb⟩
theorem Mc.alloc(h:Mc E W0 S0 W fps s st loc)(cs:Array Value)(t:TypeId):Mc E W0 S0 (W.alloc (.cells cs t)) fps s st (F4 W.heap.size cs t::loc):=by
 obtain⟨y,hy,h⟩:=h;have h1:=h.step (h.mac.keep (A2 W (.cells cs t) none)) (E8.grown (A2 W (.cells cs t) none) _) h.bb;refine⟨y,hy,⟨h1.lk,h1.lb,h1.bw,h1.bb,h1.mac,h1.only,fun e he=> ?_,?_⟩⟩
 ·exact c5f
 ·exact c5c
theorem Mc.drop{loc':List Lo}(h:Mc E W0 S0 W fps s st (loc'++loc)):Mc E W0 S0 W fps s st loc:=by
 obtain⟨y,hy,h⟩:=h;refine⟨y,hy,⟨h.lk,h.lb,h.bw,h.bb,h.mac,h.only,fun e he=>h.lc e (List.mem_append.2 (.inr he)),?_⟩⟩;have:=h.ln;rw[List.flatMap_append,List.nodup_append]at this;exact this.2.1
variable {e e1 e2:Lo}
theorem Mc.drop1(h:Mc E W0 S0 W fps s st (e::loc)):Mc E W0 S0 W fps s st loc:=Mc.drop (loc':=[e]) h
theorem Mc.l0(h:Mc E W0 S0 W fps s st (e::loc)):e.P W:=by
 obtain⟨y,hy,h⟩:=h;exact(h.lc e (by simp)).1
theorem Mc.l1(h:Mc E W0 S0 W fps s st (e1::e::loc)):e.P W:=h.drop1.l0
theorem Mc.l2(h:Mc E W0 S0 W fps s st (e2::e1::e::loc)):e.P W:=h.drop1.l1
theorem Mc.l3{e3:Lo}(h:Mc E W0 S0 W fps s st (e3::e2::e1::e::loc)):e.P W:=h.drop1.l2
theorem Mc.setl{cs:Array Value}{t:TypeId}(h:Mc E W0 S0 W fps s st (F4 k cs t::loc))(i:Nat)(v:Value):Mc E W0 S0 (W.setCell ⟨k,i,none⟩ v) fps s st (F4 k (cs.setIfInBounds i v) t::loc):=by
 obtain⟨y,hy,h⟩:=h;have hs:=A9 W ⟨k,i,none⟩ v;obtain⟨hb,hk1⟩:=h.lc (F4 k cs t) (by simp);obtain⟨k1,k2,k3,hk⟩:=hk1 k (by simp[F4]);have hn:=h.ln;rw[List.flatMap_cons,List.nodup_append]at hn;have hM:=h.mac.other hs k3 (Nat.le_trans h.lb k1) (Nat.le_trans h.lb h.bw);have hbl:Below E.base W (W.setCell ⟨k,i,none⟩ v):=⟨hs.os,hs.tape,hs.output,hs.size,fun j hj=>hs.block j (Nat.lt_of_lt_of_le hj h.bw) (fun e=>by have:=Option.some.inj e;dsimp only at this;omega)⟩
 refine⟨y,hy,⟨h.lk.below hbl h.lb,h.lb,Nat.le_trans h.bw hs.size,h.bb,hM,⟨hs.os.trans h.only.os,hs.tape.trans h.only.tape,hs.output.trans h.only.output,Nat.le_trans h.only.size hs.size,fun j hj hn2=>(hs.block j (Nat.lt_of_lt_of_le hj h.only.size) (fun e=>by have e:=Option.some.inj e;dsimp only at e;subst e;exact hk.elim hn2 (fun h=>absurd hj (Nat.not_lt.2 h)))).trans (h.only.low j hj hn2),h.only.own⟩,fun e he=> ?_,?_⟩⟩
 ·rcases List.mem_cons.1 he with rfl|he
  ·exact⟨A3.set hb i v,fun j hj=>by rw[List.mem_singleton.1 hj];exact⟨k1,Nat.lt_of_lt_of_le k2 hs.size,k3,hk⟩⟩
  ·obtain⟨h1,h2⟩:=h.lc e (List.mem_cons.2 (.inr he));refine⟨e.st _ _ hs.size (fun j hj=>hs.block j (h2 j hj).2.1 (fun e'=> ?_)) h1,fun j hj=>⟨(h2 j hj).1,Nat.lt_of_lt_of_le (h2 j hj).2.1 hs.size,(h2 j hj).2.2⟩⟩;have:=Option.some.inj e';dsimp only at this;exact hn.2.2 k (by simp[F4]) j (List.mem_flatMap.2 ⟨e,he,hj⟩) this.symm
 ·rw[List.flatMap_cons];exact List.nodup_append.2 hn
section
variable{E:En}{W0:World}{S0:List Nat}{loc:List Lo}{fp:Nat}{fps:List Nat}{s:Ms}{st:Nat}{f:Fm}{fs:List Fm}
theorem Mc.open{W:World}(h:Mc E W0 S0 W (fp::fps) s st loc):∃y x xs,y.fr=x::xs∧x.fp=fp∧xs.map D9.fp=fps∧i9 E W0 S0 W y s st loc:=by
 obtain⟨y,hy,h⟩:=h;obtain⟨x,xs,h1,h2,h3⟩:=List.map_eq_cons_iff.1 hy;exact⟨y,x,xs,h1,h2,h3,h⟩
theorem i9.tops{W W':World}{y:D8}{x x':D9}{xs:List D9}{f':Fm}(h:i9 E W0 S0 W y s st loc)(hy:y.fr=x::xs)(hs:s.fr=f::fs)(hF:M1 W' E.lim E.base x' f')(hO:E8 W W' x.ids x'.ids)(hfp:x'.fp=x.fp):Mc E W0 S0 W' (x.fp::xs.map D9.fp) {s with fr:=f'::fs} st loc:=by
 obtain⟨hM,hO2⟩:=h.mac.top hy hs hF hO hfp h.lb h.bw;exact⟨{y with fr:=x'::xs},by simp[hfp],h.step hM hO2 h.bb⟩
theorem i9.fm0{W:World}{y:D8}{x:D9}{xs:List D9}(h:i9 E W0 S0 W y s st loc)(hy:y.fr=x::xs)(hs:s.fr=f::fs):M1 W E.lim E.base x f:=h.mac.fm 0 x f (by rw[hy];rfl) (by rw[hs];rfl)
variable(w:World)
theorem c4i(h:Hid (Mc E W0 S0 w (fp::fps) s st loc))(hs:s.fr=f::fs)(hn:0<f.stack.length):
 Calls prog 236 #[.pointer (some ⟨fp,0,none⟩)] w fun e w'=>e= .returned (.agg #[.int .i64 ((V3 f 0).tag:Int), .int .i64 (V3 f 0).v])∧Mc E W0 S0 w' (fp::fps) {s with fr:=L8 f 1::fs} st loc:=by
 obtain⟨y,x,xs,hy,rfl,rfl,hM⟩:=h.out.open;exact(c0Y w E.lim E.base x f (hM.fm0 hy hs) hM.lb hM.bw hn).mono (fun e w' ⟨h1,v,h2,h3⟩=>⟨h1,hM.tops hy hs h2 h3 rfl⟩)
theorem a9M(h:Hid (Mc E W0 S0 w (fp::fps) s st loc))(hs:s.fr=f::fs)(hn:f.stack.length<1000)(u:Wd):
 Calls prog 302 #[.pointer (some ⟨fp,0,none⟩), .agg #[.int .i64 (u.tag:Int), .int .i64 u.v]] w fun e w'=>e= .returned (.tuple #[])∧Mc E W0 S0 w' (fp::fps) {s with fr:=V1 f u::fs} st loc:=by
 obtain⟨y,x,xs,hy,rfl,rfl,hM⟩:=h.out.open;exact(b9o w E.lim E.base x f (hM.fm0 hy hs) hM.lb hM.bw hn u).mono (fun e w' ⟨h1,v,h2,h3⟩=>⟨h1,hM.tops hy hs h2 h3 rfl⟩)
theorem a6g(h:Hid (Mc E W0 S0 w (fp::fps) s st loc))(hl:fps.length≤1000):
 Calls prog 153 #[.pointer (some ⟨E.b,0,none⟩)] w fun e w'=>e= .returned (.pointer (some ⟨fp,0,none⟩))∧w.grownBy w' none:=by
 obtain⟨y,x,xs,hy,rfl,rfl,hM⟩:=h.out.open;rw[←hM.bb];exact b9K w E.lim E.base E.cb E.fast y s st hM.mac x xs hy (by simpa using hl)
theorem a7q{w:World}{base e sz n b:Nat}{v:Value}{xs:List Value}{cs:Array Value}{t:TypeId}(h:w.ownsRow base e sz v n xs)(hb:A3 w b cs t)(ht:t≠e):v.ownBlock≠some b:=fun e'=>by
 rcases a6R h hb ht with h1|h1
 ·rw[h1]at e';cases e'
 ·exact h1 e'
theorem c3h(h:Hid (Mc E W0 S0 w (fp::fps) s st loc))(hs:s.fr=f::fs)(hl:fps.length≤1000):
 Calls prog 241 #[.pointer (some ⟨E.b,0,none⟩)] w fun e w'=>e= .returned (.tuple #[])∧∃x,x.fp=fp∧Mc E W0 S0 w' fps {s with fr:=fs} st (F4 fp (a1Y x f) 212::loc):=by
 obtain⟨y,x,xs,hy,rfl,rfl,hM⟩:=h.out.open;rw[←hM.bb];refine(b5d w E.lim E.base E.cb E.fast y s st hM.mac hM.lb hM.bw x xs hy f fs hs (by simpa using hl)).mono (fun e w' ⟨h1,v,h2,h3,h4⟩=>⟨h1,x,rfl,{y with fr:=xs,fv:=v},rfl,?_⟩);have hF:=hM.fm0 hy hs;have hb:A3 w' x.fp (a1Y x f) 212:=by have:=hF.blk;unfold A3 at this⊢;rw[h4];exact this
 have hN:=hM.step h2 h3 hM.bb;have hnd:=hM.mac.nd;have hxm:x.fp∈y.ids:=by unfold D8.ids;rw[hy];simp[D9.ids]
 have hno:x.fp∉({y with fr:=xs,fv:=v:D8}).ids:=fun hm=>by
  unfold D8.ids at hnd hm;rw[hy,List.flatMap_cons]at hnd;simp only[List.mem_cons,List.mem_append,E2]at hm;rcases hm with h5|h5|h5|h5|h5|h5
  ·exact(List.nodup_cons.1 hnd).1 (by rw[←h5];simp[D9.ids])
  ·exact a7q hN.mac.th hb (by decide) h5
  ·exact a7q hN.mac.frs hb (by decide) h5
  ·exact a7q hN.mac.out hb (by decide) h5
  ·obtain⟨u,hu,h6⟩:=List.mem_flatMap.1 h5;obtain⟨j,hj,hje⟩:=List.getElem_of_mem hu;have hj2:j<s.tg.length:=by rw[←hM.mac.wl];exact hj
   exact a7q (hN.mac.wd j s.tg[j] u (List.getElem?_eq_getElem hj2) (by rw[List.getElem?_eq_getElem hj,hje])) hb (by decide) (E2.1 h6)
  ·have h6:=(List.nodup_cons.1 hnd).2;simp only[←List.append_assoc]at h6;rw[List.nodup_append]at h6;exact h6.2.2 x.fp (by simp[D9.ids]) x.fp h5 rfl
 refine⟨hN.lk,hN.lb,hN.bw,hN.bb,hN.mac,hN.only,fun e he=> ?_,?_⟩
 ·rcases List.mem_cons.1 he with rfl|he
  ·exact⟨hb,fun k hk=>by rw[List.mem_singleton.1 hk];exact⟨hM.mac.ge _ hxm,hb.lt,hno,hM.only.own _ hxm⟩⟩
  ·exact hN.lc e he
 ·rw[List.flatMap_cons,List.nodup_append];refine⟨by simp[F4],hN.ln,fun a ha b hb e=> ?_⟩;rw[List.mem_singleton.1 ha]at e;obtain⟨e',he',hb'⟩:=List.mem_flatMap.1 hb;exact((hM.lc e' he').2 b hb').2.2.1 (e▸hxm)
theorem c1h(h:Hid (Mc E W0 S0 w fps s st loc))(hl:s.tg.length≤100000)(v:Int)(h1:1≤v)(h2:v≤s.tg.length):
 Calls prog 297 #[.pointer (some ⟨E.b,2,none⟩), .int .i64 v] w fun e w'=>e= .returned (.agg #[.int .i64 ((a0p s v).kind:Int), .string (a0p s v).name])∧w.grownBy w' none:=by
 obtain⟨y,hy,hM⟩:=h.out;rw[←hM.bb];exact b0I w E.lim E.base E.cb E.fast y s st hM.mac hl v h1 h2
theorem c4j(t:Tg)(u:Value)(h:Hid (Mc E W0 S0 w fps s st (F8 E.base u t.words::loc)))(hs:s.tg.length<100000):
 Calls prog 106 #[.pointer (some ⟨E.b,0,none⟩), .agg #[.int .i64 (t.kind:Int), .string t.cls,u]] w fun e w'=>e= .returned (.agg #[.int .i64 ((wd E.fast 3 (s.tg.length+1)).tag:Int), .int .i64 (wd E.fast 3 (s.tg.length+1)).v])∧Mc E W0 S0 w' fps {s with tg:=s.tg++ [t]} st loc:=by
 obtain⟨y,hy,hM⟩:=h.out;obtain⟨hR,hRk⟩:=hM.lc (F8 E.base u t.words) (by simp);have hge:=hM.mac.ge;have hun:=fun k hk=>(hRk k (E2.2 hk)).2.2.1
 rw[←hM.bb];refine(c1m w E.lim E.base E.cb E.fast y s st hM.mac hM.lb hM.bw hs t u hR hun).mono (fun e w' ⟨h1,v,h2,h3⟩=>⟨h1,{y with hv:=v,wv:=y.wv++ [u]},hy,?_⟩);have hge2:∀k∈y.ids++C2 u,E.base≤k:=fun k hk=>(List.mem_append.1 hk).elim (hge k) (fun h=>(hRk k h).1)
 have hbl:Below E.base w w':=⟨h3.os,h3.tape,h3.output,h3.size,fun k hk=>h3.low k (Nat.lt_of_lt_of_le hk hM.bw) (fun hm=>absurd hk (Nat.not_lt.2 (hge2 k hm)))⟩
 have hln:=hM.ln;rw[List.flatMap_cons,List.nodup_append]at hln;have hlk:∀e∈loc,∀k∈e.ids,k∉y.ids++C2 u:=fun e he k hk hm=>(List.mem_append.1 hm).elim ((hM.lc e (List.mem_cons.2 (.inr he))).2 k hk).2.2.1 (fun h=>hln.2.2 k h k (List.mem_flatMap.2 ⟨e,he,hk⟩) rfl)
 refine⟨hM.lk.below hbl hM.lb,hM.lb,Nat.le_trans hM.bw h3.size,hM.bb,h2,⟨h3.os.trans hM.only.os,h3.tape.trans hM.only.tape,h3.output.trans hM.only.output,Nat.le_trans hM.only.size h3.size,fun k hk hn2=> ?_,fun k hk=> ?_⟩,fun e he=> ?_,hln.2.1⟩
 ·exact a5r
 ·exact c5u
 ·obtain⟨h4,h5⟩:=hM.lc e (List.mem_cons.2 (.inr he));exact a2p
end
theorem b2r{w:World}{base e sz n c g:Nat}{xs:List Value}(h:w.ownsRow base e sz (.slice (some ⟨g,0,none⟩) n c) n xs)(i:Nat)(v:Value):(w.setCell ⟨g,i,none⟩ v).ownsRow base e sz (.slice (some ⟨g,0,none⟩) n c) n (xs.set i v):=by
 refine⟨by rw[List.length_set];exact h.1,?_⟩;rcases h.2 with⟨h1,-⟩|⟨g',cap,cur,hv,hb,hg,h2,h3,h4,h5⟩
 ·cases h1
 ·injection hv with e1 _ e2
  injection e1 with e1
  injection e1 with e1 _ _
  subst e1;exact .inr ⟨g,cap,cur.setIfInBounds i v,by rw[e2],hb,heap_setCell_same w g i _ _ _ hg,h2,h3,by rw[Array.size_setIfInBounds];exact h4,by rw[Array.toList_setIfInBounds,List.take_set,h5]⟩
section
variable{E:En}{W0:World}{S0:List Nat}{loc:List Lo}{fps:List Nat}{s:Ms}{st j k g:Nat}{W W':World}
end
section
variable{E:En}{W0:World}{S0:List Nat}{loc:List Lo}{fps:List Nat}{s:Ms}{st:Nat}
end
section
variable{E:En}{W0:World}{S0:List Nat}{loc:List Lo}{fp:Nat}{fps:List Nat}{s:Ms}{st:Nat}{f:Fm}{fs:List Fm}
theorem N6{k:Nat}{cs:Array Value}{t:TypeId}{W:World}(h:(F4 k cs t).P W):A3 W k cs t:=h
end
section
variable{E:En}{W0:World}{S0:List Nat}{loc:List Lo}{fp:Nat}{fps:List Nat}{s:Ms}{st:Nat}{f:Fm}{fs:List Fm}
end
section
variable{E:En}{W0:World}{S0:List Nat}{loc:List Lo}{fp:Nat}{fps:List Nat}{s:Ms}{st:Nat}{f:Fm}{fs:List Fm}
theorem b3c{w:World}{base e sz n g:Nat}{v:Value}{xs:List Value}(h:w.ownsRow base e sz v n xs)(hg:v.ownBlock=some g):∃cs,w.heap[g]? =some (Obj.cells cs e (0,0)):=by
 rcases h.2 with⟨h1,-⟩|⟨g',cap,cur,hv,-,hb,-⟩
 ·rw[h1]at hg;cases hg
 ·rw[hv]at hg;obtain rfl:=Option.some.inj hg;exact⟨cur,hb⟩
theorem Mc.b0{w:World}(h:Mc E W0 S0 w fps s st loc):w.cell? ⟨E.b,0,none⟩=some (.bool E.fast):=by
 obtain⟨y,hy,hM⟩:=h;rw[←hM.bb];exact hM.mac.blk.cell 0 _ rfl
end
section
variable{E:En}{W0:World}{S0:List Nat}{loc:List Lo}{fp:Nat}{fps:List Nat}{s:Ms}{st:Nat}{f:Fm}{fs:List Fm}
theorem Mc.b1{w:World}(h:Mc E W0 S0 w fps s st loc):w.cell? ⟨E.b,1,none⟩=some (.pointer (some ⟨E.cb,0,none⟩)):=by
 obtain⟨y,hy,hM⟩:=h;rw[←hM.bb];exact hM.mac.blk.cell 1 _ rfl
theorem Mc.lk{w:World}(h:Mc E W0 S0 w fps s st loc):Lk w E.lim E.cb E.L E.p E.cap E.m1 E.m2 E.m3 E.q∧E.lim≤w.heap.size:=by
 obtain⟨y,hy,hM⟩:=h;exact⟨hM.lk,Nat.le_trans hM.lb hM.bw⟩
end
section
variable{E:En}{W0:World}{S0:List Nat}{loc:List Lo}{fp:Nat}{fps:List Nat}{s:Ms}{st:Nat}{f:Fm}{fs:List Fm}
end
section
variable{E:En}{W0:World}{S0:List Nat}{loc:List Lo}{fp:Nat}{fps:List Nat}{s:Ms}{st:Nat}{f:Fm}{fs:List Fm}
end
attribute [local go_sem] Oper.semAt_some
def a6o(L:List Cl)(l:List Nat):Nat:=(l.map fun k=>(cl L k).fields.length).sum
theorem c1w(L:List Cl)(c:ByteArray):a6o L (up L c)=(Z3 L c).length:=by
 unfold a6o Z3;rw[List.length_flatMap,List.map_reverse,List.sum_reverse]
theorem b3s(L:List Cl):∀(k:Nat) (n:ByteArray),(E9 L k n).length≤k
 |0,_=>by simp[E9]
 |k+1,n=>by
  unfold E9;split
  ·simp
  ·simp only[List.length_cons];exact Nat.succ_le_succ (b3s L k _)
theorem a9I(L:List Cl)(n:ByteArray):(up L n).length≤L.length:=b3s L _ n
def a4o(L:List Cl):Prop:=∀i,i<L.length→(cl L i).fields.length≤65536
theorem b2O(L:List Cl)(hF:a4o L):∀(l:List Nat),(∀k∈l,k<L.length)→a6o L l≤l.length*65536
 | [],_=>by simp[a6o]
 |k::l,h=>by
  have h1:=b2O L hF l (fun j hj=>h j (by simp[hj]));have h2:=hF k (h k (by simp));unfold a6o at*
  simp only[List.map_cons,List.sum_cons,List.length_cons];omega
attribute [local go_sem] Oper.semAt_some
theorem b0U{L:List Cl}(hF:a4o L)(hs:L.length≤65536)(c:ByteArray)(hU:UpL L):(Z3 L c).length≤65536*65536:=by
 rw[←c1w];refine Nat.le_trans (b2O L hF _ ?_) (Nat.mul_le_mul_right _ (Nat.le_trans (a9I L c) hs));exact fun k hk=>a2G _ _ k hk
section
variable{E:En}{W0:World}{S0:List Nat}{loc:List Lo}{fp:Nat}{fps:List Nat}{s:Ms}{st:Nat}{f:Fm}{fs:List Fm}
end
def a1b(xs:List Value):Nat→List Value
 |0=>xs
 |k+1=>((a1b xs k).set k (xs.getD (xs.length-1-k) undef)).set (xs.length-1-k) (xs.getD k undef)
theorem b1E(xs:List Value)(k:Nat):(a1b xs k).length=xs.length:=by
 induction k with
 |zero=>rfl
 |succ k ih=>simp[a1b,ih]
theorem a8Q(xs:List Value)(k:Nat)(hk:2*k≤xs.length)(i:Nat)(hi:i<xs.length):(a1b xs k)[i]? =if i<k∨xs.length-k≤i then xs[xs.length-1-i]? else xs[i]? :=by
 induction k with
 |zero=>simp[a1b];omega
 |succ k ih=>
  have ih:=ih (by omega);unfold a1b;rw[List.getElem?_set,List.getElem?_set];simp only[List.length_set,b1E];have g1:∀j,j<xs.length→some (xs.getD j undef)=xs[j]? :=fun j hj=>by simp[hj]
  by_cases h1:xs.length-1-k=i
  ·rw[if_pos h1,if_pos (by omega),if_pos (by omega),g1 _ (by omega)];congr 1;omega
  ·rw[if_neg h1];by_cases h2:k=i
   ·rw[if_pos h2,if_pos (by omega),if_pos (by omega),g1 _ (by omega),h2]
   ·rw[if_neg h2,ih];by_cases h3:i<k∨xs.length-k≤i
    ·rw[if_pos h3,if_pos (by omega)]
    ·rw[if_neg h3,if_neg (by omega)]
theorem b9j(xs:List Value)(k:Nat)(hk:2*k≤xs.length)(h2:xs.length≤2*k+1):a1b xs k=xs.reverse:=by
 apply List.ext_getElem?;intro i;by_cases hi:i<xs.length
 ·rw[a8Q xs k hk i hi,List.getElem?_reverse hi];split
  ·rfl
  ·congr 1;omega
 ·rw[List.getElem?_eq_none (by rw[b1E];omega),List.getElem?_eq_none (by rw[List.length_reverse];omega)]
theorem c0S(w:World)(base n c g:Nat)(xs:List Value)(h:Hid (w.ownsRow base 41 1 (.slice (some ⟨g,0,none⟩) n c) n xs))(hn:n≤65536)(hsl:Hid (∀v∈xs,∃a m k,v=Value.slice a m k)):
 Calls prog 255 #[.slice (some ⟨g,0,none⟩) n c] w fun e w'=>e= .returned (.tuple #[])∧w'.ownsRow base 41 1 (.slice (some ⟨g,0,none⟩) n c) n xs.reverse∧w.grownBy w' (some g):=by
 have hxl:xs.length=n:=by have:=h.out.1;omega
 go_enter func255,ntmps255;have hw1:IntKind.i64.wrap ((n:Int)-1)=(n:Int)-1:=IntWalk.i64_in _ (by omega);go_upto_region 1 with fail
 have HXL:=A0 hxl;have HR0:Hid (w.ownsRow base 41 1 (.slice (some ⟨g,0,none⟩) n c) n (a1b xs 0)):=h;have HN:Hid (n≤65536∧n≤c):=⟨hn,a3X h.out⟩
 clear hxl h hn hw1;go_loopg [2,3] n (fun gk vi vj W=>∃k:Nat,vi= .int .i64 k∧vj= .int .i64 ((n:Int)-1-k)∧gk+k=n∧2*k≤n∧W.ownsRow base 41 1 (.slice (some ⟨g,0,none⟩) n c) n (a1b xs k)∧w.grownBy W (some g))
 case atStart=>exact⟨0,rfl,by simp,by omega,by omega,HR0.out,I8 _ _⟩
 case round=>
  obtain⟨k,rfl,rfl,hk,hk2,hR,hg⟩:=hrel;have HR:Hid (wr.ownsRow base 41 1 (.slice (some ⟨g,0,none⟩) n c) n (a1b xs k)∧w.grownBy wr (some g)):=⟨hR,hg⟩
  clear hR hg;by_cases hlt:2*k+1<n
  ·obtain⟨m,hm⟩:∃m,m=n-1-k:=⟨_,rfl⟩
   have hnn:=HN.out.1;have d1:decide ((k:Int)<(m:Int))=true:=decide_eq_true (by omega);have d2:decide (k<m)=true:=decide_eq_true (by omega);have em:(n:Int)-1-k=(m:Int):=by omega
   have e6:IntKind.i64.wrap ((k:Int)+1)=((k+1:Nat):Int):=by rw[IntKind.wrap_i64];omega
   have e7:IntKind.i64.wrap ((m:Int)-1)=(n:Int)-1-((k+1:Nat):Int):=by rw[IntKind.wrap_i64];omega
   rw[em];have b1:(0:Int)≤k∧(k:Int)<n:=by omega
   have b2:(0:Int)≤m∧(m:Int)<n:=by omega
   have a1:=HR.out.1.cells (g:=g) rfl k (xs.getD k undef) (by rw[a8Q xs k (by rw[HXL.out];omega) k (by rw[HXL.out];omega),HXL.out,if_neg (by omega)];simp[show k<xs.length by rw[HXL.out];omega]);have a2:=HR.out.1.cells (g:=g) rfl m (xs.getD m undef) (by rw[a8Q xs k (by rw[HXL.out];omega) m (by rw[HXL.out];omega),HXL.out,if_neg (by omega)];simp[show m<xs.length by rw[HXL.out];omega]);simp only[Addr.add_lit,Nat.zero_add]at a1 a2;obtain⟨A,hA⟩:∃A,A=xs.getD k undef:=⟨_,rfl⟩
   obtain⟨B,hB⟩:∃B,B=xs.getD m undef:=⟨_,rfl⟩
   rw[←hA]at a1;rw[←hB]at a2;have HAB:Hid (a1b xs (k+1)=((a1b xs k).set k B).set m A∧k≠m):=⟨by show((a1b xs k).set k (xs.getD (xs.length-1-k) undef)).set (xs.length-1-k) (xs.getD k undef)=_;rw[HXL.out,←hm,←hA,←hB],by omega⟩
   have hb0:∀i,wr.frozen? ⟨g,i,none⟩=false:=by
    obtain⟨cs,hcs⟩:=b3c HR.out.1 (g:=g) rfl;exact fun i=>A3.frozen hcs i
   have z1:=hb0 k;have z2:=hb0 m;have HKM:Hid (gk=n-k∧m=n-1-k∧2*k+1<n):=⟨by omega,hm,hlt⟩
   obtain⟨Aa,An,Ak,hA2⟩:=hsl.out A (by rw[hA,List.getD_eq_getElem?_getD,List.getElem?_eq_getElem (show k<xs.length by rw[HXL.out];omega)];exact List.getElem_mem _);obtain⟨Ba,Bn,Bk,hB2⟩:=hsl.out B (by rw[hB,List.getD_eq_getElem?_getD,List.getElem?_eq_getElem (show m<xs.length by rw[HXL.out];omega)];exact List.getElem_mem _);subst hA2 hB2;have hne:=HAB.out.2;have x1:(wr.setCell ⟨g,k,none⟩ (.slice Ba Bn Bk)).cell? ⟨g,m,none⟩=some (.slice Ba Bn Bk):=(World.cell?_setCell_other _ _ _ _ (by simp[hne.symm])).trans a2;have x2:(wr.setCell ⟨g,m,none⟩ (.slice Aa An Ak)).cell? ⟨g,k,none⟩=some (.slice Aa An Ak):=(World.cell?_setCell_other _ _ _ _ (by simp[hne])).trans a1;clear hb0 hA hB em hm hk hk2 hlt;go_wp2_with fail
   go_region
   all_goals
    have hP:=b2r (b2r HR.out.1 k (.slice Ba Bn Bk)) m (.slice Aa An Ak);rw[←HAB.out.1]at hP;have hGw:wr.grownBy (((wr.setCell ⟨g,k,none⟩ (.slice Ba Bn Bk)).setCell ⟨g,m,none⟩ (.slice Aa An Ak)).drew) (some g):=D5 (A1 (A9 wr ⟨g,k,none⟩ (.slice Ba Bn Bk)) (A9 _ ⟨g,m,none⟩ (.slice Aa An Ak))) (B6 _ none) (fun k e=>by cases e);have HPG:Hid (_∧_):=⟨hP.drew,A1 HR.out.2 hGw⟩
    generalize ((wr.setCell ⟨g,k,none⟩ (.slice Ba Bn Bk)).setCell ⟨g,m,none⟩ (.slice Aa An Ak)).drew=W5 at HPG⊢;clear hP hGw x1 x2 a1 a2 z1 z2;go_wp2_with fail
    go_roundg (gk-1)
    case rel=>exact⟨k+1,rfl,rfl,by have:=HKM.out;omega,by have:=HKM.out;omega,HPG.out.1,HPG.out.2⟩
    case measure=>have:=HKM.out;omega
  ·obtain⟨m,hm⟩:∃m:Int,m=(n:Int)-1-k:=⟨_,rfl⟩
   rw[←hm];have d1:decide ((k:Int)<m)=false:=decide_eq_false (by omega);have HE:=A0 (b9j xs k (by rw[HXL.out];omega) (by rw[HXL.out];omega));clear hm;go_wp2_with fail
   all_goals
    go_end0;rw[←HE.out];exact⟨rfl,HR.out.1,HR.out.2⟩
theorem b2G:(prog.info? 129).map (fun i=>(i.zero,i.size,i.bytes))=some (some (.agg #[.string ⟨#[]⟩, .int .i64 0, .string ⟨#[]⟩]),3,40):=by kernel_rfl
theorem b9X(w:World)(n:Nat)(hn:n≤4294967296):
 Calls prog 316 #[.slice none 0 0, .int .i64 (n:Int)] w fun e w'=>∃v,e= .returned v∧w'.ownsRow w.heap.size 129 3 v 0 []∧w.grownBy w' none:=by
 obtain⟨inf,hi0,hz0,hz1,hz2⟩:=info_parts b2G;by_cases h0:n=0
 ·subst h0;go_enter func316,ntmps316;go_wp2_with fail
  all_goals exact bodyPost_ret (v:= .slice none 0 0) (by simp[results,results316,go_sem]) rfl ⟨_,rfl,⟨rfl, .inl ⟨rfl,rfl⟩⟩,I8 _ _⟩
 ·have hrun:=Go.Lib.run_append_nil_zeros (P:=prog) w 41 3 41 129 inf (.agg #[.string ⟨#[]⟩, .int .i64 0, .string ⟨#[]⟩]) .i64 .i64 underlying41 (by kernel_rfl) hi0 hz0 n (by omega) (by rw[hz1];decide) (by omega) (by rw[hz2];omega);have hge:=grownCap_ge w n 0 129;have hle:=grownCap_le_maxLen w n 0 129 (by unfold maxLen;omega);obtain⟨c,hc⟩:∃c,c=grownCap w n 0 129:=⟨_,rfl⟩
  rw[←hc]at hrun hge hle;obtain⟨Z,hZ⟩:∃Z,Z=Builtin.zeroCells (Value.agg #[.string ⟨#[]⟩, .int .i64 0, .string ⟨#[]⟩]).cells n++Builtin.zeroCells (Value.agg #[.string ⟨#[]⟩, .int .i64 0, .string ⟨#[]⟩]).cells (c-n):=⟨_,rfl⟩
  have hZs:Z.size=c*3:=by
   rw[hZ,Array.size_append,size_zeroCells,size_zeroCells];have:(Value.agg #[.string ⟨#[]⟩, .int .i64 0, .string ⟨#[]⟩]).cells.size=3:=rfl;rw[this];omega
  rw[←hZ]at hrun
  have ho:(w.alloc (.cells Z 129)).ownsRow w.heap.size 129 3 (.slice (some ⟨w.heap.size,0,none⟩) 0 c) 0 []:=
   ⟨rfl, .inr ⟨w.heap.size,c,Z,rfl,Nat.le_refl _,A3.new w Z 129,Nat.zero_le _,hle,hZs,by simp⟩⟩
  have HO:=A0 ho.drew;have HGw:Hid (w.grownBy (w.alloc (.cells Z 129)).drew none):=A1 (A2 _ _ _) (B6 _ none);clear ho;have d1:decide ((0:Int)<(n:Int))=true:=decide_eq_true (by omega);have d2:decide (0<n)=true:=decide_eq_true (by omega);have d3:decide ((n:Int)<0)=false:=decide_eq_false (by omega);have hw0:IntKind.i64.wrap (n:Int)=(n:Int):=IntWalk.i64_in _ (by omega);have HRUN:=A0 hrun;have hb:(0:Int)≤0∧(0:Int)≤c:=⟨Int.le_refl _,by omega⟩
  clear hZ hZs hrun hc hi0 hz0 hz1 hz2 hle hge h0;go_enter func316,ntmps316;go_wp2_with (at_builtin;refine Lib.wpList_append_run _ rfl _ _ _ _ rfl _ _ rfl rfl _ _ HRUN.out ?_)
  all_goals exact bodyPost_ret (v:= .slice (some ⟨w.heap.size,0,none⟩) 0 c) (by simp[results,results316,go_sem]) rfl ⟨_,rfl,HO.out,HGw.out⟩
structure o5 where
 a:Option Addr
 l:List T7
 k:Nat
def o5.v(x:o5):Value:= .slice x.a x.l.length x.k
def Y2(ls:List o5):Nat:=(ls.map fun x=>x.l.length).sum
theorem b2d(ls:List o5)(k:Nat)(h:k<ls.length):Y2 (ls.take (k+1))=Y2 (ls.take k)+(ls[k]).l.length:=by
 unfold Y2;rw[List.take_succ_eq_append_getElem h,List.map_append,List.sum_append];simp
theorem b3q(ls:List o5)(k:Nat):Y2 (ls.take k)≤Y2 ls:=by
 conv=>rhs;rw[←List.take_append_drop k ls]
 unfold Y2;rw[List.map_append,List.sum_append];omega
theorem c1c(l:List T7):∀u∈l.flatMap H8,u.oneCell'=true:=fun u hu=>by
 obtain⟨t,-,ht⟩:=List.mem_flatMap.1 hu;simp only[H8,List.mem_cons,List.not_mem_nil,or_false]at ht;rcases ht with rfl|rfl|rfl<;>rfl
theorem c1l(l:List T7):(l.flatMap H8).length=l.length*3:=by
 induction l with
 |nil=>rfl
 |cons x l ih=>rw[List.flatMap_cons,List.length_append,ih,List.length_cons];simp only[H8,List.length_cons,List.length_nil];omega
theorem b7h(w:World)(lim base n c g:Nat)(ls:List o5)(h:Hid (w.ownsRow base 41 1 (.slice (some ⟨g,0,none⟩) n c) n (ls.map o5.v)))(hn:n≤65536)(hs:Y2 ls≤4294967296)(hr:Hid (∀x∈ls,B8 w lim 3 H8 x.a x.l)):
 Calls prog 256 #[.slice (some ⟨g,0,none⟩) n c] w fun e w'=>∃v,e= .returned v∧w'.ownsRow w.heap.size 129 3 v (Y2 ls) ((ls.flatMap o5.l).flatMap H8)∧w.grownBy w' none:=by
 have hxl:ls.length=n:=by have:=h.out.1;simp at this;omega
 have HG:=fun k (hk:k≤4294967296) W=>b9X W k hk
 have HGR:=A0 (fun W (_:w.grownBy W none)=>HG _ hs W);have hcap:=a3X h.out;have HL:Hid (ls.length=n∧n≤65536∧Y2 ls≤4294967296∧n≤c):=⟨hxl,hn,hs,hcap⟩
 have HCell:Hid (∀W k,w.grownBy W none→(hk:k<ls.length)→W.cell? ⟨g,k,none⟩=some (ls[k]).v):=fun W k hW hk=>by
  have:=h.out.cells (g:=g) rfl k (ls[k]).v (by simp[hk]);rw[Addr.add_lit,Nat.zero_add]at this;exact hW.cell this A5
 have HT0:Hid (Y2 (ls.take 0)=0):=rfl;clear hxl hn hs HG hcap h;go_enter func256,ntmps256;go_upto_region 3 with fail
 go_loopg [3,11] n (fun gk v3 v11 W=>∃k z:Nat,v3= .int .i64 z∧v11= .int .i64 k∧gk+k=n∧Hid (z=Y2 (ls.take k))∧W=w)
 case atStart=>exact⟨0,0,rfl,rfl,by omega,HT0.out.symm,rfl⟩
 case round=>
  obtain⟨k,z,rfl,rfl,hk,hz,rfl⟩:=hrel;by_cases hlt:k<n
  ·have hkl:k<ls.length:=by rw[HL.out.1];exact hlt
   have hc:=HCell.out wr k (I8 _ _) hkl;have hsum:=b2d ls k hkl;have hle:=b3q ls (k+1);have hmx:=HL.out.2.2.1;obtain⟨m,hm⟩:∃m,m=(ls[k]).l.length:=⟨_,rfl⟩
   obtain⟨a5,k5,hv⟩:∃a5 k5,(ls[k]).v= .slice a5 m k5:=⟨_,_,by rw[hm];rfl⟩
   rw[hv]at hc;have HZ:Hid (z+m=Y2 (ls.take (k+1))):=by rw[hsum,←hm,hz.out];exact rfl
   have hzb:z+m≤4294967296:=by rw[HZ.out];exact Nat.le_trans hle hmx
   have d1:decide ((k:Int)<(n:Int))=true:=decide_eq_true (by omega);have d2:=decide_eq_true hlt;have b1:(0:Int)≤k∧(k:Int)<n:=by omega
   have e6:IntKind.i64.wrap ((k:Int)+1)=((k+1:Nat):Int):=by have:=HL.out.2.1;rw[IntKind.wrap_i64];omega
   obtain⟨z2,HZ2⟩:∃z2,Hid (z2=z+m):=⟨_,rfl⟩
   have e7:IntKind.i64.wrap ((z:Int)+(m:Int))=(z2:Int):=by rw[HZ2.out,IntKind.wrap_i64];omega
   have d3:decide ((z2:Int)<0)=false:=decide_eq_false (by omega);have HK:=A0 hk;clear hsum hle hmx hm hv hzb hkl hk hlt hz;go_wp2_with fail
   go_roundg (gk-1)
   case rel=>exact⟨k+1,z2,rfl,rfl,by have:=HK.out;omega,by rw[HZ2.out];exact HZ.out,rfl⟩
   case measure=>have:=HK.out;omega
  ·obtain rfl:k=n:=by omega
   have ez:z=Y2 ls:=by rw[hz.out,List.take_of_length_le (by rw[HL.out.1];exact Nat.le_refl _)]
   have d1:decide ((k:Int)<(k:Int))=false:=decide_eq_false (by omega);have d2:=decide_eq_false (by omega);clear hlt hz hk;have HEZ:=A0 ez.symm
   have HGR2:Hid (Calls prog 316 #[.slice none 0 0, .int .i64 (z:Int)] wr fun e w'=>∃v,e= .returned v∧w'.ownsRow wr.heap.size 129 3 v 0 []∧wr.grownBy w' none):=by
    have:=HGR.out wr (I8 wr none);rw[HEZ.out]at this;exact this
   clear HGR HEZ;have HEZ:=A0 ez;clear ez;go_upto_region 11 with(go_at_call 316;refine HGR2.out.mono ?_;rintro e w1 ⟨r,rfl,ho1,hg1⟩;obtain⟨ra,rk,rfl⟩:=F0 ho1)
   have HO1:Hid (w1.ownsRow wr.heap.size 129 3 (.slice ra 0 rk) 0 []∧wr.grownBy w1 none):=⟨ho1,hg1⟩
   clear ho1 hg1;obtain⟨wo,rfl⟩:∃wo,wo=wr:=⟨_,rfl⟩
   obtain⟨inf,hi0,hz0,hz1,hz2⟩:=info_parts b2G;go_loopg [6,27] k (fun gk v6 v27 W=>∃(j m rk:Nat) (ra:Option Addr),v6= .slice ra m rk∧v27= .int .i64 j∧gk+j=k∧Hid (m=Y2 (ls.take j))∧W.ownsRow wo.heap.size 129 3 (.slice ra m rk) m (((ls.take j).flatMap o5.l).flatMap H8)∧wo.grownBy W none)
   case atStart=>exact⟨0,0,rk,ra,rfl,rfl,by omega,HT0.out.symm,HO1.out.1,HO1.out.2⟩
   case round=>
    obtain⟨j,m,qk,qa,rfl,rfl,hk,hm,hO,hg⟩:=hrel;have HO:Hid (_∧_):=⟨hO,hg⟩
    clear hO hg;by_cases hlt:j<k
    ·have hkl:j<ls.length:=by rw[HL.out.1];exact hlt
     have hc:=HCell.out _ j HO.out.2 hkl;have HRd:=A0 (hr.out _ (List.getElem_mem hkl));have HTk:=A0 (List.take_succ_eq_append_getElem hkl);have hsum:=b2d ls j hkl;have hle:=b3q ls (j+1);have hmx:=HL.out.2.2.1;obtain⟨x,hx⟩:∃x,x=ls[j]:=⟨_,rfl⟩
     rw[←hx]at hc HRd hsum HTk;obtain⟨xa,xl,xk⟩:=x;obtain⟨xn,HXN⟩:∃xn,Hid (xn=xl.length):=⟨_,rfl⟩
     have hc2:wr.cell? ⟨g,j,none⟩=some (.slice xa xn xk):=by rw[HXN.out];exact hc
     have HXN2:Hid ((xl.flatMap H8).length=xn*3):=by rw[HXN.out];exact c1l xl
     have HM:Hid (m+xn=Y2 (ls.take (j+1))):=by rw[hsum,HXN.out,hm.out];exact rfl
     have hmb:m+xn≤4294967296:=by rw[HM.out];exact Nat.le_trans hle hmx
     have d1:decide ((j:Int)<(k:Int))=true:=decide_eq_true (by omega);have d2:=decide_eq_true hlt;have b1:(0:Int)≤j∧(j:Int)<k:=by omega
     have e6:IntKind.i64.wrap ((j:Int)+1)=((j+1:Nat):Int):=by have:=HL.out.2.1;rw[IntKind.wrap_i64];omega
     have HK:=A0 hk;have HSrc:Hid (∀i u,(xl.flatMap H8)[i]? =some u→∃ad,xa=some ad∧wr.cell? (ad.add i)=some u):=c2d (fun _=>rfl) (B8.keep HRd.out HO.out.2);have hwx:=HO.out.2.size;clear hsum hle hmx hx hkl hk hlt hm hc;go_wp2_with (at_builtin;go_loud (refine a7U rfl _ _ 41 rfl wo.heap.size 129 inf _ 3 40 underlying41 hi0 hz0 hz1 hz2 rfl (by decide) qa m qk _ rfl HO.out.1 xa xn xk (xl.flatMap H8) rfl HXN2.out HSrc.out (c1c _) (by unfold maxLen;omega) (by omega) hwx ?_;intro a7 k7 w7 hown7 hg7))
     have HO7:Hid (w7.ownsRow wo.heap.size 129 3 (.slice a7 (m+xn) k7) (m+xn) (((ls.take (j+1)).flatMap o5.l).flatMap H8)):=by
      rw[HTk.out,List.flatMap_append,List.flatMap_append];have e:=hown7;simp only[List.flatMap_cons,List.flatMap_nil,List.append_nil];exact e
     have HG7:=A0 (D5 HO.out.2 hg7 (fun k e=> .inl (HO.out.1.lt k e).1));clear hown7 hg7;go_roundg (gk-1)
     case rel=>exact⟨j+1,m+xn,k7,a7,rfl,rfl,by have:=HK.out;omega,HM.out,HO7.out,HG7.out⟩
     case measure=>have:=HK.out;omega
    ·obtain rfl:j=k:=by omega
     have em:Y2 ls=m:=by rw[hm.out,List.take_of_length_le (by rw[HL.out.1];exact Nat.le_refl _)]
     have HF:Hid (wr.ownsRow wo.heap.size 129 3 (.slice qa m qk) (Y2 ls) ((ls.flatMap o5.l).flatMap H8)):=by
      have:=HO.out.1;rw[List.take_of_length_le (by rw[HL.out.1];exact Nat.le_refl _)]at this;rw[em];exact this
     have d1:decide ((j:Int)<(j:Int))=false:=decide_eq_false (by omega);have d2:=decide_eq_false (by omega);clear hlt hm hk em;go_wp2_with fail
     all_goals exact bodyPost_ret (v:= .slice qa m qk) (by simp[results,results256,go_sem]) rfl ⟨_,rfl,HF.out,HO.out.2⟩
attribute [local go_sem] Oper.semAt_some
def a2P(q:Nat→Qs)(L:List Cl)(k:Nat):o5:=⟨(q k).fa,(cl L k).fields,(q k).fk⟩
theorem b9U:(prog.info? 41).map (fun i=>(i.zero,i.size,i.bytes))=some (some (.slice none 0 0),1,24):=by kernel_rfl
theorem c2J(q:Nat→Qs)(L:List Cl)(c:ByteArray):Y2 ((up L c).reverse.map (a2P q L))=(Z3 L c).length∧((up L c).reverse.map (a2P q L)).flatMap o5.l=Z3 L c:=by
 constructor
 ·unfold Y2 Z3;rw[List.length_flatMap,List.map_map];rfl
 ·unfold Z3;rw[List.flatMap_map];rfl
theorem b7c(w:World)(lim b:Nat)(L:List Cl)(p:Addr)(cap m1 m2 m3:Nat)(q:Nat→Qs)(h:Hid (G9 w lim b L p cap m1 m2 m3 q))(hl:lim≤w.heap.size)(hU:Hid (UpL L))(hF:Hid (a4o L))(hPF:Hid (l9 w lim L q))(c:ByteArray)(hc:c.size≤maxLen)(hne:0<(up L c).length):
 Calls prog 168 #[.pointer (some ⟨b,0,none⟩), .string c] w fun e w'=>∃v,e= .returned v∧w'.ownsRow w.heap.size 129 3 v (Z3 L c).length ((Z3 L c).flatMap H8)∧w.grownBy w' none:=by
 have hsm:=h.out.small;obtain⟨inf,hi0,hz0,hz1,hz2⟩:=info_parts b9U;refine(callsIn_wide (n:=9)).1 ?_;refine callsIn_of_wp_marks func168 rfl trivial ?_ rfl;simp only[ntmps168,List.size_toArray,List.length_cons,List.length_nil,Nat.reduceAdd,Nat.reduceSub,Array.replicate_succ,Array.replicate_zero,List.push_toArray,List.append_toArray,List.nil_append,List.cons_append];gi_wp2_with (refine⟨trivial,?_⟩;gi_at_call 167;refine(a4A _ _ trivial rfl _ _ _).mono ?_;rintro e w' ⟨rfl,rfl⟩)
 have hB0:Below w.heap.size w (((w.alloc (.cells #[.slice none 0 0] 356)).alloc (.cells #[.pointer (some ⟨b,0,none⟩)] 156)).alloc (.cells #[.string c] 9)):=(((Below.refl _ w).alloc (Nat.le_refl _) _).alloc (by simp) _).alloc (by simp;omega) _;have hsz:(((w.alloc (.cells #[.slice none 0 0] 356)).alloc (.cells #[.pointer (some ⟨b,0,none⟩)] 156)).alloc (.cells #[.string c] 9)).heap.size=w.heap.size+3:=by simp
 have k0:=((A3.new w #[.slice none 0 0] 356).keep (A2 _ (.cells #[.pointer (some ⟨b,0,none⟩)] 156) none) (by simp)).keep (A2 _ (.cells #[.string c] 9) none) (by simp);have k1:=(A3.new (w.alloc (.cells #[.slice none 0 0] 356)) #[.pointer (some ⟨b,0,none⟩)] 156).keep (A2 _ (.cells #[.string c] 9) none) (by simp);have k2:=A3.new ((w.alloc (.cells #[.slice none 0 0] 356)).alloc (.cells #[.pointer (some ⟨b,0,none⟩)] 156)) #[.string c] 9;simp only[World.size_alloc]at k1 k2;obtain⟨W0,hW0⟩:∃W0,((w.alloc (.cells #[.slice none 0 0] 356)).alloc (.cells #[.pointer (some ⟨b,0,none⟩)] 156)).alloc (.cells #[.string c] 9)=W0:=⟨_,rfl⟩
 rw[hW0]at hB0 hsz k0 k1 k2⊢;clear hW0;have HK0:=A0 (h.out.below hB0 hl)
 refine wpIn_rangeFunc_ownH rfl (by omega) (gf:=254) (lb:= #[.pointer (some ⟨w.heap.size+1,0,none⟩), .pointer (some ⟨w.heap.size+1+1,0,none⟩)]) rfl trivial (enters_of func254 (by kernel_rfl) rfl)
  (a5H _ _ trivial rfl (by omega) w.heap.size (w.heap.size+1) (w.heap.size+1+1) lim b L p cap m1 m2 m3 q c hc hU W0 (by omega) (by omega) (k1.cell 0 _ rfl) (k2.cell 0 _ rfl) HK0 hl (by omega)) a5g (a5h (by omega) (by omega)) (Below.refl _ _) (fun _=>rfl)
  (fun pre W=>((∃v,Boxed W w.heap.size 356 v∧W.ownsRow w.heap.size 41 1 v pre.length (pre.map fun k=>(a2P q L k.1).v)∧True)∧A3 W (w.heap.size+1) #[.pointer (some ⟨b,0,none⟩)] 156∧A3 W (w.heap.size+1+1) #[.string c] 9)∧Below w.heap.size w W)
  (fun d pre W=>False∧Below w.heap.size w W)
  (OwnFrom.and (fun s X Y row hs hg hr=>⟨Own.from (holdsRow_own w.heap.size w.heap.size 356 41 1 (fun pre:List (Ci L)=>pre.length) (fun pre=>pre.map fun k=>(a2P q L k.1).v) (fun _ _=>True)) _ s X Y row hs.1 hg hr,Own.from (L2 _ _ _) _ () X Y row hs.2.1 hg hr,Own.from (L2 _ _ _) _ () X Y row hs.2.2 hg hr⟩) (ownFrom_below (Nat.le_refl _) (by omega)))
  (fun d=>OwnFrom.and (fun s X Y row hs hg hr=>hs.elim) (ownFrom_below (Nat.le_refl _) (by omega)))
  ⟨⟨⟨_,k0,World.ownsRow_nil _ _ _ _,trivial⟩,k1,k2⟩,hB0⟩
  (fun x a' W=>∃Bx,w.heap.size+3≤Bx∧A3 W Bx #[.string (cl L x.1).name, .string (cl L x.1).super, .slice (q x.1).fa (cl L x.1).fields.length (q x.1).fk, .slice (q x.1).ma (cl L x.1).methods.length (q x.1).mc] 44∧a'={tmps:= #[.pointer (some ⟨b,0,none⟩), .string c,undef,undef, .slice none 0 0, .pointer (some ⟨w.heap.size,0,none⟩), .pointer (some ⟨Bx,0,none⟩), .pointer (some ⟨b,0,none⟩), .string c, .func (.func 254) #[] #[.pointer (some ⟨w.heap.size+1,0,none⟩), .pointer (some ⟨w.heap.size+1+1,0,none⟩)], .agg #[.string (cl L x.1).name, .string (cl L x.1).super, .slice (q x.1).fa (cl L x.1).fields.length (q x.1).fk, .slice (q x.1).ma (cl L x.1).methods.length (q x.1).mc],undef,undef,undef,undef,undef,undef,undef,undef,undef],defers:=[]})
  (fun x a' _ X Y row hs hg hr=>by obtain⟨Bx,h1,h2,h3⟩:=hs;exact⟨Bx,h1,L2 Bx _ _ () X Y row h2 hg (fun r e=>(hr r e).2),h3⟩)
  ?assign ?body ?done ?stop
 case assign=>
  rintro l pre x W K ⟨⟨⟨v,hv,hrow,-⟩,hk1,hk2⟩,hB1⟩ hK;dsimp only[a2o,P9];gi_wp2
  have h3:=hk2.lt;exact hK _ _ ((KeepsOthers.alloc _ _).from _) ⟨(Below.refl _ W).alloc hB1.size _,Below.heap_alloc W _ _ (by omega)⟩ ⟨⟨⟨v,hv.alloc _,hrow.alloc _,trivial⟩,hk1.keep (A2 _ _ none) (by simp),hk2.keep (A2 _ _ none) (by simp)⟩,hB1.alloc hB1.size _⟩ ⟨W.heap.size,by omega,A3.new W _ _,rfl⟩
 case body=>
  rintro l pre x a' W hl2 hpre ⟨⟨⟨v,hv,hrow,-⟩,hk1,hk2⟩,hB1⟩ ⟨Bx,hBx,hbx,rfl⟩ hlt;have cx:=hbx.c2;have hc0:=hv.cell;have hpn:=Nat.le_trans (Nat.le_of_lt (Nat.lt_of_lt_of_le hlt (a9I L c))) hsm;obtain⟨fa,fn,fk,hfv⟩:∃fa fn fk,Hid ((a2P q L x.1).v= .slice fa fn fk∧fa=(q x.1).fa∧fn=(cl L x.1).fields.length∧fk=(q x.1).fk):=⟨_,_,_,rfl,rfl,rfl,rfl⟩
  have cx2:W.cell? ⟨Bx,2,none⟩=some (.slice fa fn fk):=by rw[hfv.out.2.1,hfv.out.2.2.1,hfv.out.2.2.2];exact cx
  obtain⟨va,vk,rfl⟩:=F0 hrow;have HR:=A0 hrow;have HVB:=A0 hv;have hf0:=hv.frozen;clear cx hrow;gi_wp2_with (gi_at_builtin;refine wpListIn_append_own _ rfl _ _ 356 rfl w.heap.size 41 inf (.slice none 0 0) 1 24 underlying356 hi0 hz0 hz1 hz2 rfl (by decide) _ pre.length _ rfl (HR.out.alloc _) ⟨W.heap.size,0,none⟩ 1 1 [.slice fa fn fk] rfl rfl (cell_one_new _ _ _) (by simp[Value.oneCell']) (by unfold maxLen;omega) (by omega) (by have:=hB1.size;simp;omega) ?_;intro v' w1 hown' hgrow _;obtain⟨g',cap',rfl⟩:=ownsRow_succ hown';obtain⟨hv1,hv2,hr2,hk3,hb2⟩:=HVB.out.appended (by decide) HR.out hB1.size (Nat.le_refl _) hown' hgrow;have hc1:=hv1.cell;have hf1:=hv1.frozen)
  have hal:=A2 W (.cells #[.slice fa fn fk] 41) none;have q1:=((hk1.keep hal (by simp)).keep hgrow (I4 (HR.out.alloc _) (hk1.keep hal (by simp)) (by decide)).symm).keep (A9 w1 ⟨w.heap.size,0,none⟩ (.slice (some ⟨g',0,none⟩) (pre.length+1) cap')) (by simp);have q2:=((hk2.keep hal (by simp)).keep hgrow (I4 (HR.out.alloc _) (hk2.keep hal (by simp)) (by decide)).symm).keep (A9 w1 ⟨w.heap.size,0,none⟩ (.slice (some ⟨g',0,none⟩) (pre.length+1) cap')) (by simp;omega)
  have hq:(w1.setCell ⟨w.heap.size,0,none⟩ (.slice (some ⟨g',0,none⟩) (pre.length+1) cap')).heap[w.heap.size+1]? =W.heap[w.heap.size+1]? :=by
   have e1:=q1;have e2:=hk1;unfold A3 at e1 e2;rw[e1,e2]
  exact⟨hk3.from _,⟨hb2,hq⟩,⟨⟨_,hv2,by rw[List.length_append,List.map_append,List.map_cons,List.map_nil,hfv.out.1];exact hr2,trivial⟩,q1,q2⟩,hB1.trans hb2⟩
 case done=>
  rintro D ys W hD hys ⟨⟨⟨v,hv,hrow,-⟩,hk1,hk2⟩,hB1⟩ hK;have hyl:ys.length=(up L c).length:=by rw[←hys];unfold U4;rw[List.length_map]
  obtain⟨va,vk,rfl⟩:=F0 hrow;obtain⟨g,c',e',-⟩:=hrow.form (by omega);injection e' with e1 _ e3
  subst e1;subst e3;obtain⟨n,hn⟩:∃n,n=ys.length:=⟨_,rfl⟩
  rw[←hn]at hrow hv;have hc0:=hv.cell;have hn16:n≤65536:=by rw[hn,hyl];exact Nat.le_trans (a9I L c) hsm
  have hmr:(ys.map fun k=>(a2P q L k.1).v).reverse=((up L c).reverse.map (a2P q L)).map o5.v:=by
   rw[←hys];unfold U4;rw[←List.map_reverse,←List.map_reverse,List.map_map,List.map_map];rfl
  have HRV:Hid (∀nF,CallsIn Fence.wide nF prog 255 #[.slice (some ⟨g,0,none⟩) n vk] W fun e w'=>e= .returned (.tuple #[])∧w'.ownsRow w.heap.size 41 1 (.slice (some ⟨g,0,none⟩) n vk) n (((up L c).reverse.map (a2P q L)).map o5.v)∧W.grownBy w' (some g)):=
   fun nF=>callsIn_wide.2 ((c0S W w.heap.size n vk g _ hrow hn16 (fun v hv=>by obtain⟨k,-,rfl⟩:=List.mem_map.1 hv;exact⟨_,_,_,rfl⟩)).mono (fun e w' h=>by rw[hmr]at h;exact h))
  obtain⟨ls,hls⟩:∃ls,ls=(up L c).reverse.map (a2P q L):=⟨_,rfl⟩
  have HFN:=c2J q L c;rw[←hls]at HRV HFN
  have HRD:Hid (∀W',Below w.heap.size w W'→∀x∈ls,B8 W' lim 3 H8 x.a x.l):=fun W' hW x hx=>by
   rw[hls]at hx;obtain⟨k,hk,rfl⟩:=List.mem_map.1 hx;have hkl:=a2G _ _ k (List.mem_reverse.1 hk);intro j hj;obtain⟨p,h1,h2,h3⟩:=hPF.out k hkl j hj;exact⟨p,h1,h2,fun r u hu=>(hW.cell (by rw[U9];omega)).trans (h3 r u hu)⟩
  have hfl:Y2 ls≤4294967296:=by rw[HFN.1];exact b0U hF.out hsm c hU.out
  have HV:=A0 hv;have HNE:Hid (some w.heap.size≠some g):=(I4 hrow (show A3 W w.heap.size _ _ from hv) (by decide)).symm;have HGL:=A0 (hrow.lt g rfl)
  have HDL:Hid (D<W.heap.size∧some D≠some g):=⟨(Array.getElem?_eq_some_iff.1 hK).1,fun e=>by
   obtain⟨cs,hcs⟩:=b3c hrow (g:=g) rfl;rw[←Option.some.inj e,hK]at hcs;cases hcs⟩
  have HCC:Hid (∀nF w1,Below w.heap.size w w1→w1.ownsRow w.heap.size 41 1 (.slice (some ⟨g,0,none⟩) n vk) n (ls.map o5.v)→CallsIn Fence.wide nF prog 256 #[.slice (some ⟨g,0,none⟩) n vk] w1 fun e w'=>∃v,e= .returned v∧w'.ownsRow w1.heap.size 129 3 v (Y2 ls) ((ls.flatMap o5.l).flatMap H8)∧w1.grownBy w' none):=fun nF w1 hb ho=>
   callsIn_wide.2 (b7h w1 lim w.heap.size n vk g ls ho hn16 hfl (HRD.out w1 hb))
  have HB1:=A0 hB1;have HK:=A0 hK;clear hls hmr hn hyl hrow hv hk1 hk2 hn16 hfl hB1 hK
  gi_wp2_with (first
   |(refine⟨trivial,?_⟩;gi_at_call 255;refine(HRV.out _).mono ?_;rintro e w1 ⟨rfl,ho1,hg1⟩;have HB2:=A0 (HB1.out.grown hg1 HB1.out.size (fun k e=>Option.some.inj e▸HGL.out.1));have hc1:=(HV.out.kept hg1 HNE.out).cell;have HO1:Hid (_):=ho1;have HK1:=A0 ((hg1.block D HDL.out.1 HDL.out.2).trans HK.out);have hsz1:=hg1.size;clear ho1 hg1)
   |(refine⟨trivial,?_⟩;gi_at_call 256;refine(HCC.out _ _ HB2.out HO1.out).mono ?_;rintro e w2 ⟨v2,rfl,ho2,hg2⟩))
  have HKD:=A0 ((hg2.block D (Nat.lt_of_lt_of_le HDL.out.1 hsz1) (by simp)).trans HK1.out);refine⟨by simp, .inl ⟨_,_,rfl,run_takeDeferred HKD.out,?_⟩⟩;have hb2:Below w.heap.size w (w2.putObj D (Obj.deferred none)):=(HB2.out.grown hg2 HB2.out.size (fun k e=>by cases e)).grown (grownBy_putObj' _ D _) (Nat.le_trans HB2.out.size hg2.size) (fun k e=>by cases e;omega);have hr2:=ownsRow_putObj (P3 ho2 HB2.out.size) (Obj.deferred none) HKD.out rfl;rw[HFN.1,HFN.2]at hr2;obtain⟨a2,k2,rfl⟩:=F0 hr2;exact⟨.slice a2 _ k2,by simp[results,results168,go_sem],_,rfl,hr2,a0i hb2⟩
 case stop=>
  rintro D d pre W hD hpre ⟨hf,-⟩;exact hf.elim
theorem I6.others{W W':World}{lim base cb:Nat}{fast:Bool}{y:D8}{s:Ms}{st:Nat}{S S':List Nat}(h:I6 W lim base cb fast y s st)(hO:E8 W W' S S')(hk:∀k∈y.ids,k∉S)(hl:∀k∈S,lim≤k)(hlw:lim≤W.heap.size):I6 W' lim base cb fast y s st:=by
 unfold D8.ids at hk
 exact⟨hO.blk h.blk (hk _ (by simp)),h.low,h.wl,h.fl,hO.own' h.th (fun k e=>hk k (by simp[E2,e])),
  fun j t v ht hv=>hO.own' (h.wd j t v ht hv) (fun k e=>hk k (List.mem_cons.2 (.inr (List.mem_append.2 (.inr (List.mem_append.2 (.inr (List.mem_append.2 (.inr (List.mem_append.2 (.inl (List.mem_flatMap.2 ⟨v,List.mem_of_getElem? hv,E2.2 e⟩)))))))))))),
  hO.own' h.frs (fun k e=>hk k (by simp[E2,e])),
  fun j x f hx hf=>(h.fm j x f hx hf).other hO (fun k e=>hk k (List.mem_cons.2 (.inr (List.mem_append.2 (.inr (List.mem_append.2 (.inr (List.mem_append.2 (.inr (List.mem_append.2 (.inr (List.mem_flatMap.2 ⟨x,List.mem_of_getElem? hx,e⟩)))))))))))) hl hlw,
  hO.own' h.out (fun k e=>hk k (by simp[E2,e])),h.nd⟩
section
variable{E:En}{W0:World}{S0:List Nat}{loc l1 l2:List Lo}{fps:List Nat}{s:Ms}{st:Nat}{W W':World}
theorem Mc.turn(h:Mc E W0 S0 W fps s st (l1++loc))(hO:E8 W W' (l1.flatMap Lo.ids) (l2.flatMap Lo.ids))(hP:∀e∈l2,e.P W')(hlt:∀k∈l2.flatMap Lo.ids,k<W'.heap.size)(hn:(l2.flatMap Lo.ids).Nodup):Mc E W0 S0 W' fps s st (l2++loc):=by
 obtain⟨y,hy,h⟩:=h
 have hin:∀k∈l1.flatMap Lo.ids,E.base≤k∧k<W.heap.size∧k∉y.ids∧(k∈S0∨W0.heap.size≤k):=fun k hk=>by
  obtain⟨e,he,hk⟩:=List.mem_flatMap.1 hk;exact(h.lc e (List.mem_append.2 (.inl he))).2 k hk
 have hln:=h.ln;rw[List.flatMap_append,List.nodup_append]at hln;have hbl:Below E.base W W':=⟨hO.os,hO.tape,hO.output,hO.size,fun k hk=>hO.low k (Nat.lt_of_lt_of_le hk h.bw) (fun hm=>absurd hk (Nat.not_lt.2 (hin k hm).1))⟩
 have hM:=h.mac.others hO (fun k hk hm=>(hin k hm).2.2.1 hk) (fun k hk=>Nat.le_trans h.lb (hin k hk).1) (Nat.le_trans h.lb h.bw);refine⟨y,hy,⟨h.lk.below hbl h.lb,h.lb,Nat.le_trans h.bw hO.size,h.bb,hM,⟨hO.os.trans h.only.os,hO.tape.trans h.only.tape,hO.output.trans h.only.output,Nat.le_trans h.only.size hO.size,fun k hk hn2=>(hO.low k (Nat.lt_of_lt_of_le hk h.only.size) (fun hm=>(hin k hm).2.2.2.elim hn2 (fun h=>absurd hk (Nat.not_lt.2 h)))).trans (h.only.low k hk hn2),h.only.own⟩,fun e he=> ?_,?_⟩⟩
 ·rcases List.mem_append.1 he with he|he
  ·refine⟨hP e he,fun k hk=> ?_⟩;have hk2:=List.mem_flatMap.2 ⟨e,he,hk⟩;rcases hO.own k hk2 with h1|h1
   ·obtain⟨h2,h3,h4,h5⟩:=hin k h1;exact⟨h2,Nat.lt_of_lt_of_le h3 hO.size,h4,h5⟩
   ·exact⟨Nat.le_trans h.bw h1,hlt k hk2,fun hm=>absurd (h.mac.lt k hm) (Nat.not_lt.2 h1), .inr (Nat.le_trans h.only.size h1)⟩
  ·obtain⟨h1,h2⟩:=h.lc e (List.mem_append.2 (.inr he));exact⟨e.st _ _ hO.size (fun k hk=>hO.low k (h2 k hk).2.1 (fun hm=>hln.2.2 k hm k (List.mem_flatMap.2 ⟨e,he,hk⟩) rfl)) h1,fun k hk=>⟨(h2 k hk).1,Nat.lt_of_lt_of_le (h2 k hk).2.1 hO.size,(h2 k hk).2.2⟩⟩
 ·rw[List.flatMap_append,List.nodup_append];refine⟨hn,hln.2.1,fun a ha b hb e=> ?_⟩;subst e;rcases hO.own a ha with h1|h1
  ·exact hln.2.2 a h1 a hb rfl
  ·obtain⟨e,he,hk⟩:=List.mem_flatMap.1 hb;have:=((h.lc e (List.mem_append.2 (.inr he))).2 a hk).2.1;omega
theorem Mc.lw(h:Mc E W0 S0 W fps s st loc):E.base≤W.heap.size∧E.lim≤E.base:=by
 obtain⟨y,hy,h⟩:=h;exact⟨h.bw,h.lb⟩
theorem Mc.row(h:Mc E W0 S0 W fps s st loc)(hg:W.grownBy W' none)(e:Lo)(hP:e.P W')(hi:∀k∈e.ids,W.heap.size≤k∧k<W'.heap.size)(hn:e.ids.Nodup):Mc E W0 S0 W' fps s st (e::loc):=by
 have:=Mc.turn (l1:=[]) (l2:=[e]) (loc:=loc) h (W':=W') ⟨hg.os,hg.tape,hg.output,hg.size,fun k hk _=>hg.block k hk (by simp),fun k hk=> .inr (hi k (by simpa using hk)).1⟩ (fun e' he=>by rw[List.mem_singleton.1 he];exact hP) (fun k hk=>(hi k (by simpa using hk)).2) (by simpa using hn);exact this
def LoF(base:Nat)(v:Value)(l:List T7):Lo:=⟨C2 v,fun W=>W.ownsRow base 129 3 v l.length (l.flatMap H8),fun _ _ _ hk h=>b1L hk h⟩
end
section
variable{E:En}{W0:World}{S0:List Nat}{loc:List Lo}{fps:List Nat}{s:Ms}{st:Nat}
variable {W:World}
theorem Mc.perm{loc':List Lo}(h:Mc E W0 S0 W fps s st loc)(hp:loc.Perm loc'):Mc E W0 S0 W fps s st loc':=by
 obtain⟨y,hy,h⟩:=h;exact⟨y,hy,⟨h.lk,h.lb,h.bw,h.bb,h.mac,h.only,fun e he=>h.lc e (hp.mem_iff.2 he),(hp.flatMap_right _).nodup_iff.1 h.ln⟩⟩
theorem c0i(l:List T7)(k:Nat)(hk:k<l.length):(l.flatMap H8)[k*3]? =some (.string l[k].name)∧(l.flatMap H8)[k*3+1]? =some (.int .i64 l[k].ty.kind)∧(l.flatMap H8)[k*3+2]? =some (.string l[k].ty.name):=by
 induction l generalizing k with
 |nil=>simp at hk
 |cons x l ih=>
  cases k with
  |zero=>exact⟨rfl,rfl,rfl⟩
  |succ k=>
   have:=ih k (by simpa using hk);rw[List.flatMap_cons,Nat.succ_mul];simp only[List.getElem_cons_succ];rw[show k*3+3+1=k*3+1+3 by omega,show k*3+3+2=k*3+2+3 by omega];exact this
variable {base:Nat}
theorem lrp{v:Value}{l:List Wd}(h:(F8 base v l).P W):W.ownsRow base 145 2 v l.length (l.flatMap H9):=h
theorem lfp{v:Value}{l:List T7}(h:(LoF base v l).P W):W.ownsRow base 129 3 v l.length (l.flatMap H8):=h
theorem b5g(w:World)(h:Hid (Mc E W0 S0 w fps s st loc))(hFw:a4o E.L)(c:ByteArray)(hc:c.size≤maxLen)(hne:0<(up E.L c).length):
 Calls prog 105 #[.pointer (some ⟨E.b,0,none⟩), .string c] w fun e w'=>∃u,e= .returned (.agg #[.int .i64 2, .string c,u])∧Mc E W0 S0 w' fps s st (F8 E.base u (V4 E.fast E.L c).words::loc):=by
 have hb1:=h.out.b1;obtain⟨fl,HFL⟩:∃fl,Hid (fl=Z3 E.L c):=⟨_,rfl⟩
 have HFi:Hid (∀W loc',Mc E W0 S0 W fps s st loc'→Calls prog 168 #[.pointer (some ⟨E.cb,0,none⟩), .string c] W fun e w'=>∃v,e= .returned v∧Mc E W0 S0 w' fps s st (LoF E.base v fl::loc')∧W.grownBy w' none∧w'.ownsRow E.base 129 3 v fl.length (fl.flatMap H8)):=fun W loc' hW=>by
  obtain⟨hk,hkl⟩:=hW.lk;refine(b7c W E.lim E.cb E.L E.p E.cap E.m1 E.m2 E.m3 E.q hk.kls hkl hk.up hFw hk.pf c hc hne).mono (fun e w' ⟨v,h1,h2,h3⟩=> ?_);rw[←HFL.out]at h2;have h4:=P3 h2 hW.lw.1;refine⟨v,h1,hW.row h3 (LoF E.base v fl) h4 (fun k hk=>h2.lt k (E2.1 hk)) (a3O v),h3,h4⟩
 have HBl:=A0 (fun W t=>b8J W E.fast t)
 have HN:Hid (fl.length≤4294967296):=by
  rw[HFL.out];have hk:=h.out.lk.1;exact b0U hFw hk.kls.small c hk.up
 have hflo:(V4 E.fast E.L c).words=fl.map fun f=>a2E E.fast f.ty:=by rw[HFL.out];rfl
 obtain⟨ws,hws⟩:∃ws,ws=fl.map fun f=>a2E E.fast f.ty:=⟨_,rfl⟩
 rw[hflo,←hws];have HWS0:=A0 hws;clear hws;have H0:Hid (Mc E W0 S0 w fps s st loc):=h;clear hflo hc hne h;go_enter func105,ntmps105;go_upto_region 2 with fail
 have HA:=(H0.out.alloc #[.int .i64 0, .string ⟨#[]⟩, .slice none 0 0] 139).alloc #[.int .i64 2, .string c, .slice none 0 0] 139;rw[World.size_alloc]at HA;have hb1:=HA.b1;generalize (w.alloc (.cells #[.int .i64 0, .string ⟨#[]⟩, .slice none 0 0] 139)).alloc (.cells #[.int .i64 2, .string c, .slice none 0 0] 139)=W2 at HA hb1⊢;go_upto_region 3 with(go_at_call 168;refine(HFi.out _ _ HA).mono ?_;rintro e w1 ⟨fv,rfl,hM1,hg1,ho1⟩;obtain⟨fa,fk,rfl⟩:=F0 ho1)
 obtain⟨n,hn⟩:∃n,n=fl.length:=⟨_,rfl⟩
 have hws:=HWS0.out;have hwl:ws.length=n:=by rw[hws,List.length_map,hn]
 have HM1:Hid (Mc E W0 S0 w1 fps s st (F8 E.base (.slice none 0 0) (ws.take 0)::F4 (w.heap.size+1) #[.int .i64 2, .string c, .slice none 0 0] 139::LoF E.base (.slice fa n fk) fl::F4 w.heap.size #[.int .i64 0, .string ⟨#[]⟩, .slice none 0 0] 139::loc)):=by
  rw[hn];have h1:Mc E W0 S0 w1 fps s st (F8 E.base (.slice none 0 0) []::_):=hM1.row (I8 _ _) (F8 E.base (.slice none 0 0) []) (World.ownsRow_nil _ _ _ _) (fun k hk=>by simp[F8,C2,Value.ownBlock]at hk) (by simp[F8,C2,Value.ownBlock]);exact h1.perm (List.Perm.cons _ (List.Perm.swap _ _ _))
 have HWS:Hid (ws=(fl.map fun f=>a2E E.fast f.ty)∧fl.length=n):=⟨hws,hn.symm⟩
 have HN2:Hid (n≤4294967296∧ws.length=n):=⟨by rw[hn];exact HN.out,hwl⟩
 rw[←hn];obtain⟨inf,hi0,hz0,hz1,hz2⟩:=info_parts a7r;clear hn hws hwl hM1 ho1 hg1 HA HFi hb1 HN HFL;go_loopg [17] n (fun gk v17 W=>∃(j m:Nat) (u:Value),v17= .int .i64 j∧gk+j=n∧Mc E W0 S0 W fps s st (F8 E.base u (ws.take j)::F4 (w.heap.size+1) #[.int .i64 2, .string c,u] 139::LoF E.base (.slice fa n fk) fl::F4 w.heap.size #[.int .i64 0, .string ⟨#[]⟩, .slice none 0 0] 139::loc))
 case atStart=>exact⟨0,0,_,rfl,by omega,HM1.out⟩
 case round=>
  obtain⟨j,-,u,rfl,hk,hM⟩:=hrel;by_cases hlt:j<n
  ·have d1:decide ((j:Int)<(n:Int))=true:=decide_eq_true (by omega);have d2:=decide_eq_true hlt;have b1:(0:Int)≤j∧(j:Int)<n:=by omega
   have e6:IntKind.i64.wrap ((j:Int)+1)=((j+1:Nat):Int):=by have:=HN2.out.1;rw[IntKind.wrap_i64];omega
   have hrF:=lfp hM.l2;have hjl:j<fl.length:=by rw[HWS.out.2];exact hlt
   obtain⟨g,c',e',-⟩:=(show wr.ownsRow E.base 129 3 (.slice fa n fk) n (fl.flatMap H8)by rw[←HWS.out.2];rw[←HWS.out.2]at hrF;exact hrF).form (by omega);injection e' with e1 _ e3
   subst e1;subst e3;obtain⟨f0,f1,f2⟩:=c0i fl j hjl;have c0:=hrF.cells (g:=g) rfl (j*3) _ f0;have c1:=hrF.cells (g:=g) rfl (j*3+1) _ f1;have c2:=hrF.cells (g:=g) rfl (j*3+2) _ f2;simp only[Addr.add_lit,Nat.zero_add]at c0 c1 c2
   have HW1:Hid (ws.take (j+1)=ws.take j++ [a2E E.fast fl[j].ty]):=by
    have hjw:j<ws.length:=by rw[HN2.out.2];exact hlt
    show _=_;rw[List.take_succ_eq_append_getElem hjw];congr 2
    have:=HWS.out.1;subst this;simp
   generalize fl[j].name=fn at c0;generalize fl[j].ty=ft at c1 c2 HW1;obtain⟨fty,ftn⟩:=ft;dsimp only at c1 c2;have HM:=A0 hM;have HK:=A0 hk;clear hrF hjl f0 f1 f2 hM hk hlt;go_upto_region 5 with fail
   have HA5:=HM.out.alloc #[.string fn, .int .i64 fty, .string ftn] 129;have hsz:=(A2 wr (.cells #[.string fn, .int .i64 fty, .string ftn] 129) none).size;have hgw:=A2 wr (.cells #[.string fn, .int .i64 fty, .string ftn] 129) none;have hr0:=lrp HM.out.l0;obtain⟨ua,uk,rfl⟩:=F0 hr0;have hjw:(ws.take j).length=j:=by rw[List.length_take,HN2.out.2];have:=HK.out;omega
   have HR0:Hid (wr.ownsRow E.base 145 2 (.slice ua j uk) j ((ws.take j).flatMap H9)):=by rw[hjw]at hr0;exact hr0
   have HB0:Hid (A3 wr (w.heap.size+1) #[.int .i64 2, .string c, .slice ua j uk] 139):=by have:=N6 HM.out.l1;rw[hjw]at this;exact this
   have HJW:=A0 hjw
   have HMj:Hid (Mc E W0 S0 wr fps s st (F8 E.base (.slice ua j uk) (ws.take j)::F4 (w.heap.size+1) #[.int .i64 2, .string c, .slice ua j uk] 139::LoF E.base (.slice (some ⟨g,0,none⟩) n fk) fl::F4 w.heap.size #[.int .i64 0, .string ⟨#[]⟩, .slice none 0 0] 139::loc)):=by
    have:=HM.out;rw[hjw]at this;exact this
   have HBw:=A0 HM.out.lw.1;generalize wr.alloc (.cells #[.string fn, .int .i64 fty, .string ftn] 129)=W3 at HA5 hgw hsz⊢;have HGw:=A0 hgw;have HR3:=A0 (HR0.out.kept hgw (by cases ua<;>simp[Value.ownBlock]));have hB3:=HB0.out.keep hgw (by simp);have HB3:=A0 hB3;have m0:=HA5.b0;have t1:=(N6 HA5.l0).c1;have t2:=(N6 HA5.l0).c2;have q2:=hB3.c2;have z2:=hB3.frozen 2;have hne:=I4 HR3.out hB3 (by decide);have hwl:=hB3.lt;have hbW:=Nat.le_trans HBw.out hsz;have HZ:=HBl.out;obtain⟨z,hz⟩:∃z,z=a2E E.fast ⟨fty,ftn⟩:=⟨_,rfl⟩
   have HBz:Hid (∀W,Calls prog 169 #[.agg #[.bool E.fast], .agg #[.int .i64 (fty:Int), .string ftn]] W fun e w'=>e= .returned (.agg #[.int .i64 (z.tag:Int), .int .i64 z.v])∧W.grownBy w' none):=fun W=>by rw[hz];exact HZ W ⟨fty,ftn⟩
   rw[←hz]at HW1;clear hB3 hgw hr0 hjw c0 c1 c2 HZ HBl hz;have hj16:j≤4294967296:=by have:=HN2.out.1;have:=HK.out;omega
   have HNN:Hid ((Value.slice ua j uk).ownBlock=none∨(Value.slice ua j uk).ownBlock≠(none:Option Nat)):=by show _∨_;cases ua<;>simp[Value.ownBlock]
   go_region_law (first
    |(refine step_append_lies _ rfl _ _ 134 rfl E.base 145 inf _ 2 16 underlying134 hi0 hz0 hz1 hz2 rfl (by decide) _ j ((ws.take j).flatMap H9) rfl (World.ownsRow.alloc HO4.out _) ⟨w4.heap.size,0,none⟩ 1 1 [.int .i64 (z.tag:Int), .int .i64 z.v] rfl rfl (S6 w4 _ _) (by simp[Value.oneCell']) (by omega) (by unfold maxLen;omega) (by omega) (by simp;omega) _ rfl ?_;intro g5 cap w5 hown5 hgrow5 hat5 hlt5;have hb5:=(HB4.out.keep (A2 w4 (.cells #[.int .i64 (z.tag:Int), .int .i64 z.v] 145) none) A5).keep hgrow5 (I4 (World.ownsRow.alloc HO4.out _) (HB4.out.keep (A2 w4 (.cells #[.int .i64 (z.tag:Int), .int .i64 z.v] 145) none) A5) (by decide)).symm;have q5:=hb5.c2;have z5:=hb5.frozen 2)
    |(go_simp
      go_at_call 169
      refine(HBz.out _).mono ?_;rintro e w4 ⟨rfl,hg4⟩;have hg34:=A1 (B6 W3 none) hg4;have q24:=hg34.cell q2 A5;have z24:=(hg34.frozen_far ⟨w.heap.size+1,2,none⟩ hwl (by simp)).trans z2;have q25:∀o,(w4.alloc o).cell? ⟨w.heap.size+1,2,none⟩=some (.slice ua j uk):=fun o=>(A2 w4 o none).cell q24 A5
      have hsz4:=hg34.size;have HO4:Hid (_):=HR3.out.kept hg34 HNN.out;have HB4:=A0 (HB3.out.keep hg34 A5);dsimp only))
   all_goals
    have hgA:=A1 (A1 HGw.out hg34) (A2 w4 (.cells #[.int .i64 (z.tag:Int), .int .i64 z.v] 145) none);have hb6:=hb5.set 2 (.slice (some ⟨g5,0,none⟩) (j+1) cap);have hs6:=A9 w5 ⟨w.heap.size+1,2,none⟩ (.slice (some ⟨g5,0,none⟩) (j+1) cap);have ho6:=j4 hown5 hs6 hb5 (by decide);have hne5:=I4 hown5 hb5 (by decide)
    have hO:E8 wr (w5.setCell ⟨w.heap.size+1,2,none⟩ (.slice (some ⟨g5,0,none⟩) (j+1) cap)) (C2 (.slice ua j uk)++ [w.heap.size+1]) (C2 (.slice (some ⟨g5,0,none⟩) (j+1) cap)++ [w.heap.size+1]):=
     ((E8.grown hgA _).trans (E8.row hgrow5 (S':=C2 (.slice (some ⟨g5,0,none⟩) (j+1) cap)++ [w.heap.size+1]) (fun g e=>List.mem_append.2 (.inl (E2.2 e))) (fun k hk=>by
       rcases List.mem_append.1 hk with h1|h1
       ·have e1:g5=k:=Option.some.inj (E2.1 h1);subst e1;rcases hat5 with h2|h2
        ·exact .inl (List.mem_append.2 (.inl (E2.2 h2)))
        ·exact .inr (by rw[h2];exact Nat.le_refl _)
       ·exact .inl (List.mem_append.2 (.inr h1))))).trans (E8.one hs6 (by simp) (fun k hk=> .inl hk))
    have hlw6:=hb6.lt;have hlg6:=(ho6.lt g5 rfl).2;generalize w5.setCell ⟨w.heap.size+1,2,none⟩ (.slice (some ⟨g5,0,none⟩) (j+1) cap)=W6 at hb6 ho6 hO hlw6 hlg6⊢;have hl6:(ws.take j++ [z]).length=j+1:=by rw[List.length_append,HJW.out];rfl
    have HM6:Hid (Mc E W0 S0 W6 fps s st (F8 E.base (.slice (some ⟨g5,0,none⟩) (j+1) cap) (ws.take (j+1))::F4 (w.heap.size+1) #[.int .i64 2, .string c, .slice (some ⟨g5,0,none⟩) (j+1) cap] 139::LoF E.base (.slice (some ⟨g,0,none⟩) n fk) fl::F4 w.heap.size #[.int .i64 0, .string ⟨#[]⟩, .slice none 0 0] 139::loc)):=by
     rw[HW1.out];refine Mc.turn (l1:=[_,_]) (l2:=[_,_]) HMj.out (W':=W6) (by simpa[F8,F4]using hO) (fun e he=> ?_) (fun k hk=> ?_) ?_
     ·simp only[List.mem_cons,List.not_mem_nil,or_false]at he;rcases he with rfl|rfl
      ·show W6.ownsRow _ _ _ _ _ _;rw[hl6,List.flatMap_append];exact ho6
      ·exact hb6
     ·simp[F8,F4,C2,Value.ownBlock]at hk;rcases hk with rfl|rfl
      ·exact hlg6
      ·exact hlw6
     ·simp[F8,F4,C2,Value.ownBlock];intro e;exact hne5 (by rw[e];rfl)
    clear hgA hb6 hs6 ho6 hne5 hO hlw6 hlg6 hl6 hb5 q5 z5 hown5 hgrow5;go_wp2_with fail
    go_roundg (gk-1)
    case rel=>exact⟨j+1,0,_,rfl,by have:=HK.out;omega,HM6.out⟩
    case measure=>have:=HK.out;omega
  ·obtain rfl:j=n:=by omega
   have d1:decide ((j:Int)<(j:Int))=false:=decide_eq_false (by omega);have d2:=decide_eq_false (by omega);have hr0:=lrp hM.l0;obtain⟨ua,uk,rfl⟩:=F0 hr0;have hbk:=N6 hM.l1;have hbr:=N6 hM.l3;obtain⟨k0,k1,k2⟩:=hbk.q3;obtain⟨y0,y1,y2⟩:=hbr.q3;obtain⟨x0,x1,x2⟩:=hbr.z3;have hwt:=List.take_of_length_le (by rw[HN2.out.2];exact Nat.le_refl _);rw[hwt]at hM hr0 k2
   have hM2:=hM.perm (loc':=F4 w.heap.size #[.int .i64 0, .string ⟨#[]⟩, .slice none 0 0] 139::F8 E.base (.slice ua ws.length uk) ws::F4 (w.heap.size+1) #[.int .i64 2, .string c, .slice ua ws.length uk] 139::LoF E.base (.slice fa j fk) fl::loc) (by
    refine List.Perm.trans (l₂:=[F8 E.base (.slice ua ws.length uk) ws,F4 (w.heap.size+1) #[.int .i64 2, .string c, .slice ua ws.length uk] 139,LoF E.base (.slice fa j fk) fl]++F4 w.heap.size #[.int .i64 0, .string ⟨#[]⟩, .slice none 0 0] 139::loc) (List.Perm.refl _) ?_;exact List.perm_middle)
   have HF:=((hM2.setl 0 (.int .i64 2)).setl 1 (.string c)).setl 2 (.slice ua ws.length uk);obtain⟨r0,r1,r2⟩:=(N6 HF.l0).q3
   have HFE:Hid (Mc E W0 S0 (((wr.setCell ⟨w.heap.size,0,none⟩ (.int .i64 2)).setCell ⟨w.heap.size,1,none⟩ (.string c)).setCell ⟨w.heap.size,2,none⟩ (.slice ua ws.length uk)) fps s st (F8 E.base (.slice ua ws.length uk) ws::loc)):=
    (HF.drop1.perm (loc':=[F4 (w.heap.size+1) #[.int .i64 2, .string c, .slice ua ws.length uk] 139,LoF E.base (.slice fa j fk) fl]++F8 E.base (.slice ua ws.length uk) ws::loc) (List.perm_middle (l₁:=[_,_])).symm).drop
   clear HF;clear hM hr0 hbr hlt hk hM2;go_wp2_with fail
   all_goals exact bodyPost_ret (v:= .agg #[.int .i64 2, .string c, .slice ua ws.length uk]) (by simp[results,results105,go_sem,r0,r1,r2]) rfl ⟨_,rfl,HFE.out⟩
end
section
variable{E:En}{W0:World}{S0:List Nat}{loc:List Lo}{fp:Nat}{fps:List Nat}{s:Ms}{st:Nat}{f:Fm}{fs:List Fm}
end
section
variable{E:En}{W0:World}{S0:List Nat}{loc:List Lo}{fp:Nat}{fps:List Nat}{s:Ms}{st:Nat}{f:Fm}{fs:List Fm}
end
section
variable{E:En}{W0:World}{S0:List Nat}{loc:List Lo}{fp:Nat}{fps:List Nat}{s:Ms}{st:Nat}{f:Fm}{fs:List Fm}
theorem Mc.cell{W:World}(h:Mc E W0 S0 W fps s st loc)(k:Nat)(v:Value){s':Ms}{st':Nat}(hc:∀y:D8,(a3n E.cb E.fast y s st).setIfInBounds k v=a3n E.cb E.fast y s' st')(htg:s'.tg=s.tg)(hfr:s'.fr=s.fr)(hout:s'.oc.out=s.oc.out):Mc E W0 S0 (W.setCell ⟨E.b,k,none⟩ v) fps s' st' loc:=by
 obtain⟨y,rfl,hM⟩:=h;obtain⟨h1,h2⟩:=hM.mac.own (k:=k) (v:=v) hM.lb hM.bw (W':=W.setCell ⟨E.b,k,none⟩ v) (by rw[hM.bb]) (y':=y) (s':=s') (st':=st') (hc y) rfl rfl rfl rfl htg hout ⟨[],[],rfl,by rw[hfr];rfl,rfl⟩ (by rw[hfr];exact hM.mac.frs) rfl;exact⟨y,rfl,hM.step h1 h2 hM.bb⟩
theorem Mc.bc{W:World}(h:Mc E W0 S0 W fps s st loc):∃hv fv ov,A3 W E.b #[.bool E.fast, .pointer (some ⟨E.cb,0,none⟩),hv, .int .i64 (s.room:Int),fv, .int .i64 (s.oc.kind:Int), .int .i64 s.oc.value, .string s.oc.cls,ov, .int .i64 (st:Int)] 209:=by
 obtain⟨y,rfl,hM⟩:=h;exact⟨y.hv,y.fv,y.ov,by have:=hM.mac.blk;rw[hM.bb]at this;exact this⟩
theorem a7u(w:World)(h:Hid (Mc E W0 S0 w fps s st loc))(hl:s.tg.length≤100000)(ret:Ty)(u:Wd)(hv:ret.kind≠1→u.v≠0→1≤u.v∧u.v≤s.tg.length):
 Calls prog 301 #[.pointer (some ⟨E.b,0,none⟩), .agg #[.int .i64 (ret.kind:Int), .string ret.name], .agg #[.int .i64 (u.tag:Int), .int .i64 u.v]] w fun e w'=>e= .returned (.tuple #[])∧Mc E W0 S0 w' fps {s with oc:=a2Q s ret u} st loc:=by
 obtain⟨oc,hoc⟩:∃oc,oc=a2Q s ret u:=⟨_,rfl⟩
 have HOC:=A0 hoc;rw[←hoc];obtain⟨rk,rn⟩:=ret;have HV:Hid (rk≠1→u.v≠0→1≤u.v∧u.v≤s.tg.length):=hv;have HL:=A0 hl;have H0:Hid (Mc E W0 S0 w fps s st loc):=h;clear hoc hv hl h;dsimp only;go_enter func301,ntmps301;go_upto_region 1 with fail
 have HA:=(H0.out.alloc #[.int .i64 (rk:Int), .string rn] 98).alloc #[.int .i64 (u.tag:Int), .int .i64 u.v] 145;rw[World.size_alloc]at HA;generalize (w.alloc (.cells #[.int .i64 (rk:Int), .string rn] 98)).alloc (.cells #[.int .i64 (u.tag:Int), .int .i64 u.v] 145)=W1 at HA⊢;obtain⟨hv,fv,ov,hbk⟩:=HA.bc;have c5:=hbk.c5;have f5:=hbk.frozen 5;go_upto_region 2 with fail
 have HB:=HA.cell 5 (.int .i64 1) (s':={s with oc:={s.oc with kind:=1} }) (st':=st) (fun _=>rfl) rfl rfl rfl;clear c5 f5 hbk HA H0;generalize W1.setCell ⟨E.b,5,none⟩ (.int .i64 1)=W2 at HB⊢;obtain⟨hv,fv,ov,hbk⟩:=HB.bc;have c6:=hbk.c6;have c7:=hbk.c7;have f6:=hbk.frozen 6;have f7:=hbk.frozen 7;have r0:=(N6 HB.l1).c0;obtain⟨u0,u1⟩:=(N6 HB.l0).q2;have HBh:=A0 HB;clear HB;by_cases h1:rk=1
 ·subst h1;have ho:oc={s.oc with kind:=1,value:=u.v}:=by rw[HOC.out];rfl
  have HO:=A0 ho;have HC:=(HBh.out.cell 6 (.int .i64 u.v) (s':={s with oc:={s.oc with kind:=1,value:=u.v} }) (st':=st) (fun _=>rfl) rfl rfl rfl).drop1.drop1;have HCh:Hid (_):=HC;clear HC ho HOC;go_wp2_with fail
  all_goals
   refine bodyPost_ret (results_none rfl _ _ _) rfl ?_;rw[HO.out];exact⟨rfl,HCh.out⟩
 ·have k1:((rk:Int)==1)=false:=by simp;omega
  by_cases h0:u.v=0
  ·have HN:=A0 (fun W=>(b0R W u.tag u.v).mono (fun e w' h=>by rw[show(u.v==0)=true by simp[h0]]at h;exact h));have ho:oc={s.oc with kind:=1}:=by rw[HOC.out];unfold a2Q;rw[if_neg h1,if_pos h0]
   have HO:=A0 ho;clear ho HOC HV h1 h0;go_wp2_with (go_at_call 300;refine(HN.out _).mono ?_;rintro e w4 ⟨rfl,hg4⟩)
   all_goals
    refine bodyPost_ret (results_none rfl _ _ _) rfl ?_;rw[HO.out];exact⟨rfl,(HBh.out.keep hg4).drop1.drop1⟩
  ·have HN:=A0 (fun W=>(b0R W u.tag u.v).mono (fun e w' h=>by rw[show(u.v==0)=false by simp[h0]]at h;exact h));obtain⟨v1,v2⟩:=HV.out h1 h0;obtain⟨t,ht⟩:∃t,t=a0p s u.v:=⟨_,rfl⟩
   have HT:Hid (∀W loc',Mc E W0 S0 W fps {s with oc:={s.oc with kind:=1} } st loc'→Calls prog 297 #[.pointer (some ⟨E.b,2,none⟩), .int .i64 u.v] W fun e w'=>e= .returned (.agg #[.int .i64 (t.kind:Int), .string t.name])∧W.grownBy w' none):=fun W loc' hW=>by
    rw[ht];exact c1h W hW HL.out u.v v1 v2
   have ho:oc=if t.kind=2 then{s.oc with kind:=1,cls:=t.name}else{s.oc with kind:=1}:=by rw[HOC.out,ht];unfold a2Q;rw[if_neg h1,if_neg h0];rfl
   have HO:=A0 ho;clear ho HOC HV h1 h0 v1 v2 ht;go_upto_region 5 with(go_at_call 300;refine(HN.out _).mono ?_;rintro e w4 ⟨rfl,hg4⟩)
   have HX4:Hid (Mc E W0 S0 w4 fps {s with oc:={s.oc with kind:=1} } st (F4 (w.heap.size+1) #[.int .i64 (u.tag:Int), .int .i64 u.v] 145::F4 w.heap.size #[.int .i64 (rk:Int), .string rn] 98::loc)):=HBh.out.keep hg4;have d1:=hg4.cell u1 A5;have e7:=hg4.cell c7 A5;have z7:=(hg4.frozen_far ⟨E.b,7,none⟩ hbk.lt (by simp)).trans f7;have hlb:=hbk.lt;clear u0 u1 c6 f6 c7 f7 r0 hg4 HBh HN hbk;have d1a:∀o,(w4.alloc o).cell? ⟨w.heap.size+1,1,none⟩=some (.int .i64 u.v):=fun o=>(A2 w4 o none).cell d1 A5
   refine a6e (fun a' W=>∃k:Nat,(∃t':Nat→Value,a'={tmps:= #[.pointer (some ⟨E.b,0,none⟩),t' 1,t' 2,t' 3,t' 4,t' 5, .pointer (some ⟨k,0,none⟩),t' 7,t' 8,t' 9,t' 10,t' 11,t' 12,t' 13,t' 14,t' 15,t' 16,t' 17,t' 18,t' 19,t' 20,t' 21,t' 22,t' 23,t' 24,t' 25,t' 26,t' 27,undef,undef,undef,undef,undef,undef,undef,undef,undef],defers:=[]})∧Mc E W0 S0 W fps {s with oc:={s.oc with kind:=1} } st (F4 k #[.int .i64 (t.kind:Int), .string t.name] 98::F4 (w.heap.size+1) #[.int .i64 (u.tag:Int), .int .i64 u.v] 145::F4 w.heap.size #[.int .i64 (rk:Int), .string rn] 98::loc)) ?h ?q
   case h=>
    go_region_law (first
     |(go_simp;go_at_call 297;refine(HT.out _ _ (HX4.out.keep (B6 _ none))).mono ?_;rintro e w5 ⟨rfl,hg5⟩;dsimp only)
     |(go_simp;go_at_call 297;refine(HT.out _ _ (HX4.out.keep (A1 (B6 _ none) (A2 _ _ none)))).mono ?_;rintro e w5 ⟨rfl,hg5⟩;have q0:A3 w5 w4.heap.size #[.int .i64 0, .string ⟨#[]⟩] 98:=A3.keep (A3.new w4.drew #[.int .i64 0, .string ⟨#[]⟩] 98) hg5 A5;obtain⟨q00,q01⟩:=q0.q2;obtain⟨qf0,qf1⟩:=q0.z2;dsimp only))
    all_goals first
     |exact⟨_,a1t rfl,(HX4.out.keep (A1 (B6 _ none) hg5)).alloc _ _⟩
     |exact⟨_,a1t rfl,((((HX4.out.keep (B6 _ none)).alloc #[.int .i64 0, .string ⟨#[]⟩] 98).keep hg5).setl 0 (.int .i64 (t.kind:Int))).setl 1 (.string t.name)⟩
   rintro _ W ⟨k,⟨t',rfl⟩,hM⟩;obtain⟨k0,k1⟩:=(N6 hM.l0).q2;obtain⟨hv5,fv5,ov5,hbk5⟩:=hM.bc;have q7:=hbk5.c7;have p7:=hbk5.frozen 7;have HMh:=A0 hM;clear hM hbk5 d1 d1a e7 z7;by_cases h2:t.kind=2
   ·have g2:((t.kind:Int)==2)=true:=by rw[h2];rfl
    have g3:(t.kind:Int)=2:=by rw[h2];rfl
    have ho:oc={s.oc with kind:=1,cls:=t.name}:=by rw[HO.out,if_pos h2]
    have HO2:=A0 ho;have HC:=A0 ((HMh.out.cell 7 (.string t.name) (s':={s with oc:={s.oc with kind:=1,cls:=t.name} }) (st':=st) (fun _=>rfl) rfl rfl rfl).drop1.drop1.drop1);clear ho HO h2;go_wp2_with fail
    all_goals
     go_end0;rw[HO2.out];exact⟨rfl,HC.out⟩
   ·have g2:((t.kind:Int)==2)=false:=by simp;omega
    have g3:¬(t.kind:Int)=2:=by omega
    have ho:oc={s.oc with kind:=1}:=by rw[HO.out,if_neg h2]
    have HO2:=A0 ho;clear ho HO h2;go_wp2_with fail
    all_goals
     go_end0;rw[HO2.out];exact⟨rfl,HMh.out.drop1.drop1.drop1⟩
end
section
variable{E:En}{W0:World}{S0:List Nat}{loc:List Lo}{fp:Nat}{fps:List Nat}{s:Ms}{st:Nat}{f:Fm}{fs:List Fm}
variable {W:World}
theorem Mc.fb(h:Mc E W0 S0 W (fp::fps) s st loc)(hs:s.fr=f::fs):∃x:D9,x.fp=fp∧A3 W fp (a1Y x f) 212∧B8 W E.lim 4 T3 x.ca f.me.code∧B8 W E.lim 4 T4 x.ha f.me.handlers∧f.at_≤70000∧W.ownsRow E.base 145 2 x.sv f.stack.length (f.stack.flatMap H9)∧W.ownsRow E.base 145 2 x.lv f.locals.length (f.locals.flatMap H9)∧f.stack.length≤1000:=by
 obtain⟨y,x,xs,hy,rfl,rfl,hM⟩:=h.open;have hF:=hM.fm0 hy hs;exact⟨x,rfl,hF.blk,hF.code,hF.hand,hF.nat,hF.st,hF.lo,hF.nst⟩
theorem Mc.len(h:Mc E W0 S0 W fps s st loc):fps.length=s.fr.length∧∃a k,W.cell? ⟨E.b,4,none⟩=some (.slice a s.fr.length k):=by
 obtain⟨y,rfl,hM⟩:=h;refine⟨by rw[List.length_map,hM.mac.fl],?_⟩;obtain⟨a,k,hk⟩:=F0 hM.mac.frs;exact⟨a,k,by rw[←hM.bb,←hk];exact hM.mac.blk.cell 4 _ rfl⟩
theorem Mc.atT(h:Mc E W0 S0 W (fp::fps) s st loc)(hs:s.fr=f::fs){a:Nat}(ha:a≤70000):Mc E W0 S0 (W.setCell ⟨fp,9,none⟩ (.int .i64 (a:Int))) (fp::fps) {s with fr:=atF f a::fs} st loc:=by
 obtain⟨y,x,xs,hy,rfl,rfl,hM⟩:=h.open;obtain⟨h1,h2⟩:=(hM.fm0 hy hs).at' hM.lb ha;exact hM.tops hy hs h1 h2 rfl
theorem c0A(w:World)(h:Hid (Mc E W0 S0 w (fp::fps) s st loc))(hs:s.fr=f::fs)(hl:s.tg.length≤100000)(hlf:fps.length≤1000)(hn:f.me.ret.kind≠0→1≤f.stack.length)
 (hv:fs=[]→f.me.ret.kind≠0→f.me.ret.kind≠1→(V3 f 0).v≠0→1≤(V3 f 0).v∧(V3 f 0).v≤s.tg.length) (hg:∀g gs,fs=g::gs→g.stack.length<1000∧g.at_<70000):
 Calls prog 234 #[.pointer (some ⟨E.b,0,none⟩), .pointer (some ⟨fp,0,none⟩)] w fun e w'=>e= .returned (.tuple #[])∧Mc E W0 S0 w' (fps) (a2i s f fs) st loc:=by
 obtain⟨r,hr⟩:∃r,r=a2i s f fs:=⟨_,rfl⟩
 have HR:=A0 hr;rw[←hr];obtain⟨x,hx,hbk,-⟩:=h.out.fb hs;have c3:=hbk.c3;have H0:Hid (Mc E W0 S0 w (fp::fps) s st loc):=h;have HP:=A0 (fun W loc' (hW:Mc E W0 S0 W (fp::fps) s st loc') (h1:1≤f.stack.length)=>c4i W hW hs h1);have HD:Hid (∀W f' loc',Mc E W0 S0 W (fp::fps) {s with fr:=f'::fs} st loc'→Calls prog 241 #[.pointer (some ⟨E.b,0,none⟩)] W fun e w'=>e= .returned (.tuple #[])∧∃x,x.fp=fp∧Mc E W0 S0 w' fps {s with fr:=fs} st (F4 fp (a1Y x f') 212::loc')):=fun W f' loc' hW=>c3h W (s:={s with fr:=f'::fs}) hW rfl hlf
 have HN:=A0 hn;have HV:=A0 hv;have HGs:=A0 hg;have HL:Hid (s.tg.length≤100000∧fps.length≤1000):=⟨hl,hlf⟩
 have HS:=A0 hs;obtain⟨rk,hrk⟩:∃rk,rk=f.me.ret.kind:=⟨_,rfl⟩
 have HRK:=A0 hrk;rw[←hrk]at c3;clear hr hn hv hg hl hlf hs h hbk hrk;go_enter func234,ntmps234;go_upto_region 1 with fail
 by_cases hz:rk=0
 ·have HA:=H0.out.alloc #[.int .i64 0, .int .i64 0] 145;generalize w.alloc (.cells #[.int .i64 0, .int .i64 0] 145)=W1 at HA⊢;have z1:((rk:Int) !=0)=false:=by simp;omega
  have z2:(rk:Int)=0:=by omega
  have z3:=hz;have HZ:=A0 hz;obtain⟨u,hu⟩:∃u,u=X9:=⟨_,rfl⟩
  have HU:=A0 hu;go_upto_region 3 with fail
  have HM3h:Hid (Mc E W0 S0 W1 (fp::fps) {s with fr:=f::fs} st (F4 w.heap.size #[.int .i64 (u.tag:Int), .int .i64 u.v] 145::loc)):=by
   have e:{s with fr:=f::fs}=s:=by rw[←HS.out]
   rw[hu,e];exact HA
  obtain⟨W3,hW3⟩:∃W3,W3=W1:=⟨_,rfl⟩
  rw[←hW3]at HM3h⊢;clear hW3 HA HP hz hu c3;go_upto_region 4 with(go_at_call 241;refine(HD.out _ f _ HM3h.out).mono ?_;rintro e w4 ⟨rfl,x4,hx4,hM4⟩)
  have HM4:=A0 hM4;obtain⟨hlen,fa,fk,c4⟩:=hM4.len;dsimp only at hlen c4;clear hM4 HM3h HD;rcases fs with _|⟨g,gs⟩
  ·obtain rfl:fps=[]:=List.eq_nil_of_length_eq_zero hlen;have c4':w4.cell? ⟨E.b,4,none⟩=some (.slice fa 0 fk):=c4
   have HRv:Hid (r={s with fr:=[],oc:=a2Q s f.me.ret u}):=by
    show _=_;rw[HR.out];unfold a2i;rw[←HRK.out,HU.out];simp only[HZ.out,if_true]
   have HEn:Hid (∀W loc',Mc E W0 S0 W [] {s with fr:=[]} st loc'→Calls prog 301 #[.pointer (some ⟨E.b,0,none⟩), .agg #[.int .i64 (f.me.ret.kind:Int), .string f.me.ret.name], .agg #[.int .i64 (u.tag:Int), .int .i64 u.v]] W fun e w'=>e= .returned (.tuple #[])∧Mc E W0 S0 w' [] {s with fr:=[],oc:=a2Q s f.me.ret u} st loc'):=fun W loc' hW=>a7u W hW HL.out.1 f.me.ret u (by
    intro h1 h2
    exact absurd (by rw[HU.out];rfl) h2)
   clear c4 hlen;go_upto_region 5 with fail
   have hgd:=B6 w4 none;have HM5:=A0 (HM4.out.keep hgd);have HCs:Hid (∀W s',Mc E W0 S0 W [] s' st (F4 fp (a1Y x4 f) 212::F4 w.heap.size #[.int .i64 (u.tag:Int), .int .i64 u.v] 145::loc)→W.cell? ⟨fp,3,none⟩=some (.int .i64 (f.me.ret.kind:Int))∧W.cell? ⟨fp,4,none⟩=some (.string f.me.ret.name)∧W.cell? ⟨w.heap.size,0,none⟩=some (.int .i64 (u.tag:Int))∧W.cell? ⟨w.heap.size,1,none⟩=some (.int .i64 u.v)):=fun W s' hW=>⟨(N6 hW.l0).cell 3 _ rfl,(N6 hW.l0).cell 4 _ rfl,(N6 hW.l1).cell 0 _ rfl,(N6 hW.l1).cell 1 _ rfl⟩
   exact a0u
  ·obtain⟨fp2,fps2,rfl⟩:∃a b,fps=a::b:=by cases fps with|nil=>simp at hlen|cons a b=>exact⟨a,b,rfl⟩
   have c4':w4.cell? ⟨E.b,4,none⟩=some (.slice fa (gs.length+1) fk):=c4;obtain⟨hgl,hga⟩:=HGs.out g gs rfl
   have HRv:Hid (r={s with fr:=atF (g) (g.at_+1)::gs}):=by
    show _=_;rw[HR.out];unfold a2i;rw[←HRK.out];simp only[HZ.out,if_true]
   have HLs:=A0 (fun W loc' (hW:Mc E W0 S0 W (fp2::fps2) {s with fr:=g::gs} st loc')=>a6g W hW (Nat.le_trans (Nat.le_succ _) HL.out.2));have HPu:Hid (∀W loc',Mc E W0 S0 W (fp2::fps2) {s with fr:=g::gs} st loc'→Calls prog 302 #[.pointer (some ⟨fp2,0,none⟩), .agg #[.int .i64 (u.tag:Int), .int .i64 u.v]] W fun e w'=>e= .returned (.tuple #[])∧Mc E W0 S0 w' (fp2::fps2) {s with fr:=V1 g u::gs} st loc'):=fun W loc' hW=>a9M W (s:={s with fr:=g::gs}) hW rfl hgl u
   have HG9:=A0 hga;clear c4 hlen hgl hga HV HL HR HGs HN;go_upto_region 7 with(go_at_call 153;refine(HLs.out _ _ HM4.out).mono ?_;rintro e w5 ⟨rfl,hg5⟩)
   have HM5:=A0 ((HM4.out.keep hg5).drop1);obtain⟨q0,q1⟩:=(N6 HM5.out.l0).q2;clear HM4 c4' hg5;go_upto_region 9 with fail
   obtain⟨w6,hw6⟩:∃w6,w6=w5:=⟨_,rfl⟩
   have HM6:Hid (Mc E W0 S0 w6 (fp2::fps2) {s with fr:=g::gs} st loc):=by rw[hw6];exact HM5.out.drop1
   rw[←hw6];clear hw6;obtain⟨x6,hx6,hbk6,-⟩:=HM6.out.fb rfl;have c9:=hbk6.c9;have e9:=hbk6.frozen 9;have hw9:IntKind.i64.wrap ((g.at_:Int)+1)=((g.at_+1:Nat):Int):=by have:=HG9.out;exact IntWalk.i64_in _ (by omega)
   have HM7:Hid (Mc E W0 S0 (w6.setCell ⟨fp2,9,none⟩ (.int .i64 ((g.at_+1:Nat):Int))) (fp2::fps2) {s with fr:=atF g (g.at_+1)::gs} st loc):=HM6.out.atT (s:={s with fr:=g::gs}) rfl (by have:=HG9.out;omega);generalize g.at_+1=a9 at*
   clear hbk6 q0 q1;go_wp2_with fail
   all_goals
    go_end0;rw[HRv.out];exact⟨rfl,HM7.out⟩
 ·have HA:=H0.out.alloc #[.int .i64 0, .int .i64 0] 145;generalize w.alloc (.cells #[.int .i64 0, .int .i64 0] 145)=W1 at HA⊢;have z1:((rk:Int) !=0)=true:=by simp;omega
  have z2:¬(rk:Int)=0:=by omega
  have z3:=hz;have HZ:Hid (rk≠0):=hz;obtain⟨u,hu⟩:∃u,u=V3 f 0:=⟨_,rfl⟩
  have HU:=A0 hu;rw[←hu]at HP;clear hz hu c3;go_upto_region 3 with(go_at_call 236;refine(HP.out _ _ HA (HN.out (by rw[←HRK.out];exact HZ.out))).mono ?_;rintro e w2 ⟨rfl,HM2⟩;obtain⟨q0,q1⟩:=(N6 HM2.l0).q2;obtain⟨p0,p1⟩:=(N6 HM2.l0).z2)
  have HM3:=(HM2.setl 0 (.int .i64 (u.tag:Int))).setl 1 (.int .i64 u.v);have HM3h:Hid (Mc E W0 S0 ((w2.setCell ⟨w.heap.size,0,none⟩ (.int .i64 (u.tag:Int))).setCell ⟨w.heap.size,1,none⟩ (.int .i64 u.v)) (fp::fps) {s with fr:=L8 f 1::fs} st (F4 w.heap.size #[.int .i64 (u.tag:Int), .int .i64 u.v] 145::loc)):=HM3;generalize (w2.setCell ⟨w.heap.size,0,none⟩ (.int .i64 (u.tag:Int))).setCell ⟨w.heap.size,1,none⟩ (.int .i64 u.v)=W3 at HM3h⊢;clear HM3 HM2 HA q0 q1 p0 p1 HP;go_upto_region 4 with(go_at_call 241;refine(HD.out _ (L8 f 1) _ HM3h.out).mono ?_;rintro e w4 ⟨rfl,x4,hx4,hM4⟩)
  have HM4:=A0 hM4;obtain⟨hlen,fa,fk,c4⟩:=hM4.len;dsimp only at hlen c4;clear hM4 HM3h HD;rcases fs with _|⟨g,gs⟩
  ·obtain rfl:fps=[]:=List.eq_nil_of_length_eq_zero hlen;have c4':w4.cell? ⟨E.b,4,none⟩=some (.slice fa 0 fk):=c4
   have HRv:Hid (r={s with fr:=[],oc:=a2Q s f.me.ret u}):=by
    show _=_;rw[HR.out];unfold a2i;rw[←HRK.out,HU.out];simp only[HZ.out,if_false,if_true,if_neg HZ.out]
   have HEn:Hid (∀W loc',Mc E W0 S0 W [] {s with fr:=[]} st loc'→Calls prog 301 #[.pointer (some ⟨E.b,0,none⟩), .agg #[.int .i64 (f.me.ret.kind:Int), .string f.me.ret.name], .agg #[.int .i64 (u.tag:Int), .int .i64 u.v]] W fun e w'=>e= .returned (.tuple #[])∧Mc E W0 S0 w' [] {s with fr:=[],oc:=a2Q s f.me.ret u} st loc'):=fun W loc' hW=>a7u W hW HL.out.1 f.me.ret u (by
    intro h1 h2;have:=HV.out rfl (by rw[←HRK.out];exact HZ.out) h1;rw[←HU.out]at this;exact this h2)
   clear c4 hlen;go_upto_region 5 with fail
   have hgd:=B6 w4 none;have HM5:=A0 (HM4.out.keep hgd);have HCs:Hid (∀W s',Mc E W0 S0 W [] s' st (F4 fp (a1Y x4 (L8 f 1)) 212::F4 w.heap.size #[.int .i64 (u.tag:Int), .int .i64 u.v] 145::loc)→W.cell? ⟨fp,3,none⟩=some (.int .i64 (f.me.ret.kind:Int))∧W.cell? ⟨fp,4,none⟩=some (.string f.me.ret.name)∧W.cell? ⟨w.heap.size,0,none⟩=some (.int .i64 (u.tag:Int))∧W.cell? ⟨w.heap.size,1,none⟩=some (.int .i64 u.v)):=fun W s' hW=>⟨(N6 hW.l0).cell 3 _ rfl,(N6 hW.l0).cell 4 _ rfl,(N6 hW.l1).cell 0 _ rfl,(N6 hW.l1).cell 1 _ rfl⟩
   exact a0u
  ·obtain⟨fp2,fps2,rfl⟩:∃a b,fps=a::b:=by cases fps with|nil=>simp at hlen|cons a b=>exact⟨a,b,rfl⟩
   have c4':w4.cell? ⟨E.b,4,none⟩=some (.slice fa (gs.length+1) fk):=c4;obtain⟨hgl,hga⟩:=HGs.out g gs rfl
   have HRv:Hid (r={s with fr:=atF (V1 g u) (g.at_+1)::gs}):=by
    show _=_;rw[HR.out];unfold a2i;rw[←HRK.out,HU.out];simp only[HZ.out,if_false,if_neg HZ.out]
   have HLs:=A0 (fun W loc' (hW:Mc E W0 S0 W (fp2::fps2) {s with fr:=g::gs} st loc')=>a6g W hW (Nat.le_trans (Nat.le_succ _) HL.out.2));have HPu:Hid (∀W loc',Mc E W0 S0 W (fp2::fps2) {s with fr:=g::gs} st loc'→Calls prog 302 #[.pointer (some ⟨fp2,0,none⟩), .agg #[.int .i64 (u.tag:Int), .int .i64 u.v]] W fun e w'=>e= .returned (.tuple #[])∧Mc E W0 S0 w' (fp2::fps2) {s with fr:=V1 g u::gs} st loc'):=fun W loc' hW=>a9M W (s:={s with fr:=g::gs}) hW rfl hgl u
   have HG9:=A0 hga;clear c4 hlen hgl hga HV HL HR HGs HN;go_upto_region 7 with(go_at_call 153;refine(HLs.out _ _ HM4.out).mono ?_;rintro e w5 ⟨rfl,hg5⟩)
   have HM5:=A0 ((HM4.out.keep hg5).drop1);obtain⟨q0,q1⟩:=(N6 HM5.out.l0).q2;clear HM4 c4' hg5;go_upto_region 9 with(go_at_call 302;refine(HPu.out _ _ HM5.out).mono ?_;rintro e w6 ⟨rfl,hM6⟩)
   have HM6:=A0 hM6.drop1;clear hM6;obtain⟨x6,hx6,hbk6,-⟩:=HM6.out.fb rfl;have c9:w6.cell? ⟨fp2,9,none⟩=some (.int .i64 (g.at_:Int)):=hbk6.cell 9 _ rfl;have e9:=hbk6.frozen 9;have hw9:IntKind.i64.wrap ((g.at_:Int)+1)=((g.at_+1:Nat):Int):=by have:=HG9.out;exact IntWalk.i64_in _ (by omega)
   have HM7:Hid (Mc E W0 S0 (w6.setCell ⟨fp2,9,none⟩ (.int .i64 ((g.at_+1:Nat):Int))) (fp2::fps2) {s with fr:=atF (V1 g u) (g.at_+1)::gs} st loc):=HM6.out.atT (s:={s with fr:=(V1 g u)::gs}) rfl (by have:=HG9.out;omega);generalize g.at_+1=a9 at*
   clear hbk6 q0 q1;go_wp2_with fail
   all_goals
    go_end0;rw[HRv.out];exact⟨rfl,HM7.out⟩
end
theorem I6.growF{W W':World}{lim base cb:Nat}{fast:Bool}{y:D8}{s:Ms}{st:Nat}(h:I6 W lim base cb fast y s st){r:Option Nat}{g:World}(hg1:W.grownBy g r)(hr:∀k,r=some k→y.fv.ownBlock=some k)(hlb:lim≤base)(hbw:base≤W.heap.size){x:D9}{f:Fm}{v:Value}
 (ho:g.ownsRow base 210 1 v (s.fr.length+1) ((x::y.fr).reverse.flatMap a1s)) (hv:∀k,v.ownBlock=some k→y.fv.ownBlock=some k∨W.heap.size≤k)
 (hx:M1 W lim base x f) (hxn:∀k∈x.ids,k∉y.ids) (hw:W'=g.setCell ⟨y.b,4,none⟩ v):
 I6 W' lim base cb fast {y with fv:=v,fr:=x::y.fr} {s with fr:=f::s.fr} st∧E8 W W' (y.ids++x.ids) {y with fv:=v,fr:=x::y.fr:D8}.ids:=by
 obtain⟨A,hA⟩:∃A,A=C2 y.hv++(C2 y.ov++(y.wv.flatMap C2++y.fr.flatMap D9.ids)):=⟨_,rfl⟩
 have hI:y.ids.Perm (y.b::(C2 y.fv++A)):=by
  rw[hA];unfold D8.ids;refine List.Perm.cons _ ?_
  have e:∀T:List Nat,(C2 y.hv++(C2 y.fv++T)).Perm (C2 y.fv++(C2 y.hv++T)):=fun T=>by
   rw[←List.append_assoc,←List.append_assoc];exact c6w
  exact e _
 have hJ:({y with fv:=v,fr:=x::y.fr:D8}).ids.Perm (y.b::(C2 v++(x.ids++A))):=by
  rw[hA];unfold D8.ids;refine List.Perm.cons _ ?_;rw[List.flatMap_cons];have e1:(C2 y.hv++(C2 v++(C2 y.ov++(y.wv.flatMap C2++(x.ids++y.fr.flatMap D9.ids)))))=(C2 y.hv++C2 v)++((C2 y.ov++y.wv.flatMap C2)++x.ids++y.fr.flatMap D9.ids):=by simp only[List.append_assoc]
  have e2:(C2 v++(x.ids++(C2 y.hv++(C2 y.ov++(y.wv.flatMap C2++y.fr.flatMap D9.ids)))))=(C2 v++(x.ids++C2 y.hv))++((C2 y.ov++y.wv.flatMap C2)++y.fr.flatMap D9.ids):=by simp only[List.append_assoc]
  dsimp only;rw[e1,e2]
  have p1:((C2 y.ov++y.wv.flatMap C2)++x.ids++y.fr.flatMap D9.ids).Perm (x.ids++((C2 y.ov++y.wv.flatMap C2)++y.fr.flatMap D9.ids)):=by
   rw[←List.append_assoc];exact c6w
  refine(List.Perm.append List.perm_append_comm p1).trans ?_;rw[←List.append_assoc];refine List.Perm.append_right _ ?_;rw[List.append_assoc];exact List.Perm.append_left _ List.perm_append_comm
 have hnd:=hI.nodup_iff.1 h.nd;rw[List.nodup_cons,List.nodup_append]at hnd;obtain⟨n1,n2,n3,n4⟩:=hnd;have hin:∀{k},k∈y.b::(C2 y.fv++A)→k∈y.ids:=fun hk=>hI.mem_iff.2 hk
 have hbA:y.b∉A:=fun e=>n1 (List.mem_append.2 (.inr e))
 have hbf:y.fv.ownBlock≠some y.b:=fun e=>n1 (List.mem_append.2 (.inl (E2.2 e)))
 have hfA:∀k,y.fv.ownBlock=some k→k∉A:=fun k e hk=>n4 k (E2.2 e) k hk rfl
 have hAl:∀k∈A,k<W.heap.size:=fun k hk=>h.lt k (hin (by simp[hk]))
 have hs:=A9 g ⟨y.b,4,none⟩ v;rw[←hw]at hs;have hb:=h.blk.keep hg1 (fun e=>hbf (hr _ e.symm))
 have hO:E8 W W' (y.b::C2 y.fv) []:=⟨hs.os.trans hg1.os,hs.tape.trans hg1.tape,hs.output.trans hg1.output,Nat.le_trans hg1.size hs.size,fun k hk hn=>by
  rw[List.mem_cons,E2]at hn;exact(hs.block k (Nat.lt_of_lt_of_le hk hg1.size) (fun e=>hn (.inl (Option.some.inj e)))).trans (hg1.block k hk (fun e=>hn (.inr (hr k e.symm)))),fun k hk=>by cases hk⟩
 have hnA:∀k∈A,k∉y.b::C2 y.fv:=fun k hk hm=>by
  rw[List.mem_cons,E2]at hm;rcases hm with h1|h1
  ·exact hbA (h1▸hk)
  ·exact hfA k h1 hk
 have hxS:∀k∈x.ids,k∉y.b::C2 y.fv:=fun k hk hm=>hxn k hk (hin (by
  rw[List.mem_cons]at hm⊢;exact hm.imp id (fun h=>List.mem_append.2 (.inl h))))
 have hSl:∀k∈y.b::C2 y.fv,lim≤k:=fun k hk=>by
  rw[List.mem_cons,E2]at hk;rcases hk with rfl|h1
  ·exact Nat.le_trans hlb h.low
  ·exact Nat.le_trans hlb (h.frs.lt k h1).1
 have hxl:=hx.lt
 have hnd':({y with fv:=v,fr:=x::y.fr:D8}).ids.Nodup:=by
  rw[hJ.nodup_iff,List.nodup_cons,List.nodup_append,List.nodup_append];refine⟨fun hm=> ?_,a3O _,⟨hx.nodup,n3,fun a ha b hb e=> ?_⟩,fun a ha b hb e=> ?_⟩
  ·rw[List.mem_append,List.mem_append,E2]at hm;rcases hm with h1|h1|h1
   ·rcases hv _ h1 with h2|h2
    ·exact hbf h2
    ·exact absurd h.blk.lt (by omega)
   ·exact hxn _ h1 (hin (by simp))
   ·exact hbA h1
  ·subst e;exact hxn _ ha (hin (by simp[hb]))
  ·rw[E2]at ha;subst e;rw[List.mem_append]at hb;rcases hv _ ha with h2|h2
   ·rcases hb with h1|h1
    ·exact hxn _ h1 (hin (by simp[E2,h2]))
    ·exact hfA _ h2 h1
   ·rcases hb with h1|h1
    ·have:=hxl _ h1;omega
    ·have:=hAl _ h1;omega
 refine⟨⟨by rw[hw];exact hb.set 4 v,h.low,h.wl,by simp[h.fl],hO.own' h.th (fun k hk=>hnA k (by rw[hA];simp[E2,hk])),?_,?_,?_,hO.own' h.out (fun k hk=>hnA k (by rw[hA];simp[E2,hk])),hnd'⟩,⟨hO.os,hO.tape,hO.output,hO.size,fun k hk hn=>hO.low k hk (fun hm=>hn ?_),fun k hk=> ?_⟩⟩
 ·intro j t' v' ht hv';exact c5l
 ·have:=j4 ho hs hb (by decide);simpa using this
 ·intro j z f' hz hf;cases j with
  |zero=>
   obtain rfl:x=z:=by simpa using hz
   obtain rfl:f=f':=by simpa using hf
   exact hx.other hO hxS hSl (by omega)
  |succ j=>
   have hz:y.fr[j]? =some z:=by simpa using hz
   have hf:s.fr[j]? =some f':=by simpa using hf
   exact(h.fm j z f' hz hf).other hO (fun k hk=>hnA k (by rw[hA];simp only[List.mem_append];exact .inr (.inr (.inr (List.mem_flatMap.2 ⟨z,List.mem_of_getElem? hz,hk⟩))))) hSl (by omega)
 ·refine List.mem_append.2 (.inl (hin ?_));rw[List.mem_cons]at hm⊢;exact hm.imp id (fun h=>List.mem_append.2 (.inl h))
 ·have h1:=(hJ.mem_iff).1 hk;simp only[List.mem_append,List.mem_cons,E2]at h1;rcases h1 with h1|h1|h1|h1
  ·exact .inl (List.mem_append.2 (.inl (hin (by simp[h1]))))
  ·exact(hv k h1).imp (fun h2=>List.mem_append.2 (.inl (hin (by simp[E2,h2])))) id
  ·exact .inl (List.mem_append.2 (.inr h1))
  ·exact .inl (List.mem_append.2 (.inl (hin (by simp[h1]))))
section
variable{E:En}{W0:World}{S0:List Nat}{loc:List Lo}{fps:List Nat}{s:Ms}{st:Nat}{W W':World}
variable {y:D8}
theorem i9.keep(h:i9 E W0 S0 W y s st loc)(hg:W.grownBy W' none):i9 E W0 S0 W' y s st loc:=h.step (h.mac.keep hg) (E8.grown hg _) h.bb
theorem i9.alloc(h:i9 E W0 S0 W y s st loc)(cs:Array Value)(t:TypeId):i9 E W0 S0 (W.alloc (.cells cs t)) y s st (F4 W.heap.size cs t::loc):=by
 have h1:=h.keep (A2 W (.cells cs t) none);refine⟨h1.lk,h1.lb,h1.bw,h1.bb,h1.mac,h1.only,fun e he=> ?_,?_⟩
 ·exact c5f
 ·exact c5c
theorem b2B(n:Nat):(madeCells (Value.agg #[.int .i64 0, .int .i64 0]).cells (n*2)).toList=(List.replicate n X9).flatMap H9:=by
 unfold madeCells;rw[Array.toList_map,Array.toList_range];induction n with
 |zero=>rfl
 |succ n ih=>
  rw[List.replicate_succ',List.flatMap_append,←ih,Nat.succ_mul,List.range_succ,List.range_succ,List.map_append,List.map_append,List.append_assoc];congr 1
  have e1:(n*2) % 2=0:=by omega
  have e2:(n*2+1) % 2=1:=by omega
  simp[H9,X9,Value.cells,e1,e2]
theorem i9.growF{x:D9}{f:Fm}{v:Value}{l1:List Lo}(h:i9 E W0 S0 W y s st (l1++loc)){r:Option Nat}{g:World}(hg1:W.grownBy g r)(hr:∀k,r=some k→y.fv.ownBlock=some k)
 (ho:g.ownsRow E.base 210 1 v (s.fr.length+1) ((x::y.fr).reverse.flatMap a1s)) (hv:∀k,v.ownBlock=some k→y.fv.ownBlock=some k∨W.heap.size≤k)
 (hx:M1 W E.lim E.base x f) (hl1:∀k∈x.ids,k∈l1.flatMap Lo.ids) (hw:W'=g.setCell ⟨E.b,4,none⟩ v):Mc E W0 S0 W' (x.fp::y.fr.map D9.fp) {s with fr:=f::s.fr} st loc:=by
 have hin:∀k∈x.ids,E.base≤k∧k<W.heap.size∧k∉y.ids∧(k∈S0∨W0.heap.size≤k):=fun k hk=>by
  obtain⟨e,he,hk⟩:=List.mem_flatMap.1 (hl1 k hk);exact(h.lc e (List.mem_append.2 (.inl he))).2 k hk
 obtain⟨hM,h3⟩:=h.mac.growF hg1 hr h.lb h.bw ho hv hx (fun k hk=>(hin k hk).2.2.1) (W':=W') (by rw[h.bb];exact hw);have hge:=h.mac.ge;have hge2:=fun k hk=>(List.mem_append.1 hk).elim (hge k) (fun h=>(hin k h).1)
 have hbl:Below E.base W W':=⟨h3.os,h3.tape,h3.output,h3.size,fun k hk=>h3.low k (Nat.lt_of_lt_of_le hk h.bw) (fun hm=>absurd hk (Nat.not_lt.2 (hge2 k hm)))⟩
 have hln:=h.ln;rw[List.flatMap_append,List.nodup_append]at hln;have hlk:∀e∈loc,∀k∈e.ids,k∉y.ids++x.ids:=fun e he k hk hm=>(List.mem_append.1 hm).elim ((h.lc e (List.mem_append.2 (.inr he))).2 k hk).2.2.1 (fun h=>hln.2.2 k (hl1 k h) k (List.mem_flatMap.2 ⟨e,he,hk⟩) rfl)
 refine⟨{y with fv:=v,fr:=x::y.fr},rfl,⟨h.lk.below hbl h.lb,h.lb,Nat.le_trans h.bw h3.size,h.bb,hM,⟨h3.os.trans h.only.os,h3.tape.trans h.only.tape,h3.output.trans h.only.output,Nat.le_trans h.only.size h3.size,fun k hk hn2=> ?_,fun k hk=> ?_⟩,fun e he=> ?_,hln.2.1⟩⟩
 ·refine(h3.low k (Nat.lt_of_lt_of_le hk h.only.size) (fun hm=> ?_)).trans (h.only.low k hk hn2);rcases List.mem_append.1 hm with hm|hm
  ·exact(h.only.own k hm).elim hn2 (fun h=>absurd hk (Nat.not_lt.2 h))
  ·exact(hin k hm).2.2.2.elim hn2 (fun h=>absurd hk (Nat.not_lt.2 h))
 ·rcases h3.own k hk with h4|h4
  ·rcases List.mem_append.1 h4 with hm|hm
   ·exact h.only.own k hm
   ·exact(hin k hm).2.2.2
  ·exact .inr (Nat.le_trans h.only.size h4)
 ·obtain⟨h4,h5⟩:=h.lc e (List.mem_append.2 (.inr he));exact a2p
end
end Kx
end
end Go.Proofs.YtdhophglnhcjbaaGreatDoor
