/- P21: a part of the proof that the last text tells. -/
import Derived.Test.YtdhophglnhcjbaaGreatDoorP20
import Derived.Test.YtdhophglnhcjbaaGreatDoorP04
import Derived.Test.YtdhophglnhcjbaaGreatDoorP09
set_option linter.all false
namespace Go.Proofs.YtdhophglnhcjbaaGreatDoor
open Go.RowKit Go.Shelf Cf
namespace Kx
structure MeC(L:List Cl)(c:ByteArray)(m:Me):Prop where
 wld:C2 L
 tyw:m9 L
 code:∀i∈m.code,i.cls.size≤maxLen∧i.mem.size≤maxLen∧T5 i
 few:∀i,(O0 L i).params.length≤1000
 hand:∀d∈m.handlers,d.cls.size≤maxLen
 has:E2 L c=true
 pars:∀p∈m.params,E3 L p
 nc:m.code.length≤65535
 np:m.params.length≤255
 nh:m.handlers.length≤65535
 st:m.stack≤255
 lo:m.locals≤255
 nl:L.length≤65536
variable {L fs:List Cl}
variable {c:ByteArray}
variable {m:Me}
theorem MeC.fine(h:MeC L c m)(hco:T2 L m):∀i∈m.code,a1s L i:=fun i hi=>by
 obtain⟨h1,h2,h3⟩:=h.code i hi;obtain⟨j,hj,rfl⟩:=List.getElem_of_mem hi;refine⟨⟨h1,h2,fun e=> ?_,by have:=h.few m.code[j];omega⟩,h.few _,h3⟩;have hn:=hco.need j hj;have hc:A8 m j=m.code[j]:=by unfold A8;simp[hj]
 rw[hc]at hn;unfold L7 at hn;rw[if_neg (by omega),if_neg (by omega),if_neg (by omega),if_neg (by omega),if_pos e]at hn;exact Option.isSome_iff_exists.1 hn
def htS(s:Wk)(a:Nat):Option Nat:=if s.heights.getD a (-1)= -1 then none else some (s.heights.getD a (-1)).toNat
variable {s:Wk}
theorem c0m(hs:U4 L m s)(a:Nat):htI (htS s) a=s.heights.getD a (-1):=by
 unfold htI htS;by_cases e:s.heights.getD a (-1)= -1
 ·rw[if_pos e];exact e.symm
 ·rw[if_neg e];obtain⟨h,h1,-⟩:=hs.some_ a e;rw[h1];simp
theorem b7V(h:MeC L c m)(hco:T2 L m)(hfi:∀i∈m.code,a1s L i)(hhk:a0d L m)(hs:U4 L m s)(hse:∀a k,sq s.seen a k=true↔Cf.G3 L m a k):PE L c m (htS s):=by
 have key:∀a k,htS s a=some k↔Cf.G3 L m a k:=fun a k=>by
  constructor
  ·intro e;unfold htS at e;split at e
   ·cases e
   ·rename_i hne;obtain⟨k2,h1,h2⟩:=hs.some_ a hne;rw[h1]at e;injection e with e
    have:k2=k:=by simpa using e
    subst this;exact(hse a k2).1 h2
  ·intro hr;have hq:=(hse a k).2 hr;by_cases e:s.heights.getD a (-1)= -1
   ·rw[hs.none_ a e k]at hq;cases hq
   ·obtain⟨k2,h1,h2⟩:=hs.some_ a e;have:=hhk.one a k k2 hr ((hse a k2).1 h2);subst this;unfold htS;rw[if_neg e,h1];simp
 have hok:=fun i hi=>(hfi i hi).okin
 exact⟨h.wld,h.tyw,hco,hfi,hhk,fun a k _=>key a k,fun a k e=>(a1O hco hok ((key a k).1 e)).2,h.has,h.pars,h.nc,h.st,h.lo,h.nh,h.nl⟩
variable {w:World}
variable {lim:Nat}
theorem b6C{base bw eg hg sg wg:Nat}{g:Nat→Nat}{pa:Option Addr}{pk:Nat}{ca:Option Addr}{ck:Nat}{ha:Option Addr}{hk st:Nat}{wa:Option Addr}{wk:Nat}(h:L3 w base bw eg hg sg wg g m pa pk ca ck ha hk m.code.length st s wa wk)(hs:U4 L m s)(hE:∃cs:Array Value,A3 w eg cs 315∧∀a,a<m.code.length→a0W w base L m cs a)
 (hc:C0 w lim 4 L8 ca m.code) (hh:C0 w lim 4 M6 ha m.handlers) (hp:C0 w lim 2 C1 pa m.params):TyE w lim L m pa pk ca ck ha hk bw eg hg (htS s):=by
 obtain⟨cs,hb,hcs⟩:=hE;refine⟨fun k v e=> ?_,h.blk.cell 8 _ rfl,h.blk.cell 9 _ rfl,fun a ha'=> ?_,fun a ha'=> ?_,hc,hh,hp⟩
 ·refine U9 h.blk k v ?_;unfold WkV;unfold meV at e;have hk8:k<8:=(List.getElem?_eq_some_iff.1 e).1;rw[←e];rcases(by omega:k=0∨k=1∨k=2∨k=3∨k=4∨k=5∨k=6∨k=7)with rfl|rfl|rfl|rfl|rfl|rfl|rfl|rfl<;>rfl
 ·have:=U9 h.hts a (.int .i64 (s.heights.getD a (-1))) (by
   have:a<s.heights.length:=by rw[hs.len3];exact ha'
   simp[this])
  rw[this,c0m hs]
 ·obtain⟨ta,tk,ua,uk,h1,h2,h3,h4,h5⟩:=hcs a ha';exact⟨ta,tk,ua,uk,hb.cell _ _ h1,hb.cell _ _ h2,a0k (fun _=>rfl) h5⟩
theorem b5k(hs:U4 L m s)(hw:∀a,wq s.wrong a=true↔a0e L m a){r:Int}(hf:a8f s.wrong r):(r<0→a5L L m none)∧∀k:Nat,r=(k:Int)→a5L L m (some k):=by
 refine⟨fun hr j hj hb=> ?_,fun k hk=> ?_⟩
 ·rcases hf with⟨-,h1⟩|⟨k,h1,-⟩
  ·have:=(hw j).2 hb;unfold wq at this;rw[h1 j]at this;cases this
  ·omega
 ·rcases hf with⟨h1,-⟩|⟨k2,h1,h2,h3,h4⟩
  ·omega
  ·have:k2=k:=by omega
   subst this;refine⟨by rw[←hs.len2];exact h2,(hw k2).1 h3,fun j hj hb=> ?_⟩;have:=(hw j).2 hb;unfold wq at this;rw[h4 j hj]at this;cases this
set_option maxRecDepth 100000 in
set_option maxHeartbeats 40000000 in
theorem b2x(w:World)(lim b:Nat)(L:List Cl)(p:Addr)(cap m1 m2 m3:Nat)(q:Nat→Qs)(h:Hid (Lk w lim b L p cap m1 m2 m3 q))(hl:lim≤w.heap.size)(c:ByteArray)(m:Me)(pa ca ha:Option Addr)(pk ck hk:Nat)(hC:MeC L c m)(hRc:Hid (C0 w lim 4 L8 ca m.code))(hRh:Hid (C0 w lim 4 M6 ha m.handlers))(hRp:Hid (C0 w lim 2 C1 pa m.params)):
 Calls Tryz.prog 102 #[.pointer (some ⟨b,0,none⟩), .string c, .agg (mV m pa pk ca ck ha hk)] w fun e w'=>∃er at_:Nat,e= .returned (.tuple #[.int .i64 er, .int .i64 at_])∧V9 L c m er at_∧w.grownBy w' none:=by
 have HB:Hid (A3 (w.alloc (.cells (mV m pa pk ca ck ha hk) 102)) w.heap.size (mV m pa pk ca ck ha hk) 102):=A3.new w _ _;have HG1:Hid (w.grownBy (w.alloc (.cells (mV m pa pk ca ck ha hk) 102)) none):=A2 _ _ none;have HCF:=b2w (w.alloc (.cells (mV m pa pk ca ck ha hk) 102)) lim b L m pa ca ha pk ck hk hC.nc p cap m1 m2 m3 q (h.out.keep HG1.out hl) (Nat.le_trans hl HG1.out.size) (hRc.out.keep HG1.out) (hRh.out.keep HG1.out) (fun i hi=>⟨(hC.code i hi).1,(hC.code i hi).2.1⟩) hC.hand (by have:=hC.np;omega) hC.nh;have HCF:=A0 HCF;cases hcf:f8 L m with
 |some a=>
  rw[hcf]at HCF;have HCK:Hid (V9 L c m 13 a):=by unfold Hid V9;rw[hcf];exact⟨rfl,rfl⟩
  clear hcf;go_enter Tryz.func102,Tryz.ntmps102;go_wp2_with (go_at_call 164;go_loud (refine HCF.out.mono ?_;rintro e w2 ⟨rfl,hg2⟩;dsimp only[Option.getD_some,Option.isSome_some]))
  exact bodyPost_ret (v:= .tuple #[.int .i64 13, .int .i64 a]) (by simp[results,Tryz.results102,go_sem]) rfl ⟨13,a,rfl,HCK.out,A1 HG1.out hg2⟩
 |none=>
  rw[hcf]at HCF;have hco:=b6o hcf;have hfine:=fun i hi=>hC.fine hco i hi
  have HX:Hid (f8 L m=none∧T2 L m∧∀i∈m.code,a1s L i):=⟨hcf,hco,hfine⟩
  have HWA:=A0 (fun W hW=>b3Y W lim b L m pa ca ha pk ck hk hC.nc p cap m1 m2 m3 q (h.out.keep hW hl) (Nat.le_trans hl hW.size) (hRc.out.keep hW) (hRh.out.keep hW) hco hfine hC.st hC.nh);clear hcf hco hfine;go_enter Tryz.func102,Tryz.ntmps102;go_upto_region 4 with(go_at_call 164;go_loud (refine HCF.out.mono ?_;rintro e w2 ⟨rfl,hg2⟩;dsimp only[Option.getD_none,Option.isSome_none]))
  have hbk:=HB.out.keep hg2 A7;have k0:=hbk.cell 0 _ rfl;have k1:=hbk.cell 1 _ rfl;have k2:=hbk.cell 2 _ rfl;have k3:=hbk.cell 3 _ rfl;have k4:=hbk.cell 4 _ rfl;have k5:=hbk.cell 5 _ rfl;have k6:=hbk.cell 6 _ rfl;have k7:=hbk.cell 7 _ rfl;have HG2:=A0 (A1 HG1.out hg2);clear hbk hg2;go_upto_region 5 with(go_at_call 128;go_loud (refine(HWA.out _ HG2.out).mono ?_;rintro e w3 ⟨base,bw,eg,hg,sg,wg,g,s,wa,wk,rfl,hlb,hub,hWM,hSn,hse,hwr,hEf,hg3⟩))
  have HG3:=A0 (A1 HG2.out hg3);have HWM:=A0 hWM;have HSN:Hid (U4 L m s∧(∀a k,sq s.seen a k=true↔Cf.G3 L m a k)∧(∀a,wq s.wrong a=true↔a0e L m a)):=⟨hSn,hse,hwr⟩
  have HEF:=A0 hEf;have HSF:=A0 (b2j w3 base bw eg hg sg wg g m pa pk ca ck ha hk s wa wk hWM hSn.len2 hC.nc);clear hlb hub hWM hSn hse hwr hEf hg3 k0 k1 k2 k3 k4 k5 k6 k7;go_upto_region 6 with(go_at_call 165;go_loud (refine HSF.out.mono ?_;rintro e w4 ⟨⟨r,rfl,hfst⟩,rfl⟩))
  have HSK:=b5k HSN.out.1 HSN.out.2.2 hfst;by_cases hr0:(0:Int)≤r
  ·obtain⟨k,rfl⟩:∃k:Nat,r=(k:Int):=⟨r.toNat,by omega⟩
   have HCK:Hid (V9 L c m 14 k):=by
    unfold Hid V9;rw[HX.out.1];exact⟨some k,HSK.2 k rfl,rfl,rfl⟩
   clear HSK;go_wp2_with fail
   exact bodyPost_ret (v:= .tuple #[.int .i64 14, .int .i64 k]) (by simp[results,Tryz.results102,go_sem]) rfl ⟨14,k,rfl,HCK.out,HG3.out⟩
  ·have HSN0:=A0 (HSK.1 (by omega));have hhk:=b2P HX.out.2.1 (fun i hi=>(HX.out.2.2 i hi).okin) HSN0.out;have hPE:=b7V hC HX.out.2.1 HX.out.2.2 hhk HSN.out.1 HSN.out.2.1;have hTE:=b6C (L:=L) (lim:=lim) HWM.out HSN.out.1 HEF.out (hRc.out.keep HG3.out) (hRh.out.keep HG3.out) (hRp.out.keep HG3.out);have HPE:=A0 hPE;have HTE:=A0 hTE;have HTD:=A0 (b5i L c m (htS s) hPE w4 lim b p cap m1 m2 m3 q (h.out.keep HG3.out hl) (Nat.le_trans hl HG3.out.size) pa ca ha pk ck hk bw eg hg hTE);have hrd:decide ((0:Int)≤r)=false:=by simp[hr0]
   clear HSK hhk hPE hTE hfst;go_upto_region 9 with(go_at_call 127;go_loud (refine HTD.out.mono ?_;rintro e w5 ⟨t,tg,g2,s2,ra,rk,rfl,hTM,hOk,hIT,htold,hg5⟩))
   have HKF:=A0 (b2r L c m (htS s) HPE w5 lim b p cap m1 m2 m3 q (h.out.keep (A1 HG3.out hg5) hl) (Nat.le_trans hl (A1 HG3.out hg5).size) pa ca ha pk ck hk bw eg hg (HTE.out.keep hg5) w4.heap.size t tg g2 s2 ra rk hTM hOk hIT htold);have HG5:=A0 (A1 HG3.out hg5);have HIT:=A0 hIT;clear hTM hOk hIT htold hg5;go_upto_region 10 with(go_at_call 166;go_loud (refine HKF.out.mono ?_;rintro e w6 ⟨r6,bo,rfl,hg6,hans⟩))
   have HG6:=A0 (A1 HG5.out hg6);rcases hans with⟨rfl,h1,k,h2,h3,h4⟩|⟨rfl,rfl,h4⟩
   ·have HCK:Hid (V9 L c m 15 r6):=by
     unfold Hid V9;rw[HX.out.1];exact⟨none,HSN0.out,_,HIT.out, .inl ⟨k,rfl,h1,h2,h3,h4⟩⟩
    clear h1 h2 h3 h4 hg6;go_wp2_with fail
    exact bodyPost_ret (v:= .tuple #[.int .i64 15, .int .i64 r6]) (by simp[results,Tryz.results102,go_sem]) rfl ⟨15,r6,rfl,HCK.out,HG6.out⟩
   ·have HCK:Hid (V9 L c m 0 0):=by
     unfold Hid V9;rw[HX.out.1];exact⟨none,HSN0.out,_,HIT.out, .inr ⟨rfl,rfl,h4⟩⟩
    clear h4 hg6;go_wp2_with fail
    exact bodyPost_ret (v:= .tuple #[.int .i64 0, .int .i64 0]) (by simp[results,Tryz.results102,go_sem]) rfl ⟨0,0,rfl,HCK.out,HG6.out⟩
def a6c(L fs:List Cl)(er f k at_:Nat):Prop:=
 (er≠0∧f<fs.length∧k<(cl fs f).methods.length∧V9 L (cl fs f).name ((cl fs f).methods.getD k K8) er at_∧(∀f' k',f'<f→k'<(cl fs f').methods.length→V9 L (cl fs f').name ((cl fs f').methods.getD k' K8) 0 0)∧∀k',k'<k→V9 L (cl fs f).name ((cl fs f).methods.getD k' K8) 0 0)∨
 (er=0∧f=0∧k=0∧at_=0∧∀f' k',f'<fs.length→k'<(cl fs f').methods.length→V9 L (cl fs f').name ((cl fs f').methods.getD k' K8) 0 0)
theorem b4H{a:Nat}(h:V9 L c m 0 a):a=0:=by
 unfold V9 at h;split at h
 ·omega
 ·obtain⟨f,-,h⟩:=h;split at h
  ·omega
  ·obtain⟨T,-,h⟩:=h;rcases h with⟨k,h1,-⟩|⟨-,h1,-⟩
   ·omega
   ·exact h1
set_option maxRecDepth 100000 in
set_option maxHeartbeats 40000000 in
theorem b2V(w:World)(lim b:Nat)(fs:List Cl)(L:List Cl)(hL:L=A5++fs)(p:Addr)(cap m1 m2 m3:Nat)(qf:Nat→Qs)(h:Hid (Lk w lim b L p cap m1 m2 m3 (K6 qf)))(hl:lim≤w.heap.size)(a:Option Addr)(kk:Nat)(hR:Hid (C0 w lim 4 (K4 fs qf) a (List.range fs.length)))(hPM:Hid (O9 w lim (A5++fs) (K6 qf)))(hl12:fs.length≤12)(hmn:∀i,i<fs.length→(cl fs i).methods.length≤65535)
 (hmc:∀i,i<fs.length→∀j,j<(cl fs i).methods.length→MeC L (cl fs i).name ((cl fs i).methods.getD j K8)):
 Calls Tryz.prog 61 #[.pointer (some ⟨b,0,none⟩), .slice a fs.length kk] w fun e w'=>∃er f k at_:Nat,e= .returned (.tuple #[.int .i64 er, .agg #[.int .i64 f, .int .i64 k, .int .i64 at_]])∧a6c L fs er f k at_∧w.grownBy w' none:=by
 have HB1:Hid (A3 (w.alloc (.cells #[.int .i64 0, .int .i64 0, .int .i64 0] 78)) w.heap.size #[.int .i64 0, .int .i64 0, .int .i64 0] 78):=A3.new w _ _;have HG1:Hid (w.grownBy (w.alloc (.cells #[.int .i64 0, .int .i64 0, .int .i64 0] 78)) none):=A2 _ _ none;obtain⟨n,hn⟩:∃n,n=fs.length:=⟨_,rfl⟩
 have HN:=A0 hn;have hn12:n≤12:=by rw[hn];exact hl12
 rw[←hn];clear hn;go_enter Tryz.func61,Tryz.ntmps61;go_wp2_with fail
 generalize (w.alloc (.cells #[.int .i64 0, .int .i64 0, .int .i64 0] 78))=W1 at HB1 HG1⊢;go_loopw [14] (fun v W=>∃i:Nat,v= .int .i64 i∧i≤n∧W1.grownBy W none∧∀f k,f<i→k<(cl fs f).methods.length→V9 L (cl fs f).name ((cl fs f).methods.getD k K8) 0 0) (fun v _=>n-(intOf v).toNat)
 case atStart=>exact⟨0,rfl,Nat.zero_le _,G1 _ _,fun f k hf=>absurd hf (Nat.not_lt_zero _)⟩
 case round=>
  obtain⟨i,rfl,hi,hgr,hall⟩:=hrel;have HGQ:=A0 hgr;have HG:=A0 (A1 HG1.out hgr);have HALL:=A0 hall;clear hgr hall;by_cases hlt:i<n
  ·obtain⟨pd,hpd,-,hcd⟩:=(hR.out.keep HG.out) i (by simp;rw[←HN.out];exact hlt);simp only[List.getElem_range,K4]at hcd;obtain⟨cc,hcc⟩:∃cc,cc=cl fs i:=⟨_,rfl⟩
   obtain⟨⟨fa,fk,ma,mk⟩,hq⟩:∃q2,q2=qf i:=⟨_,rfl⟩
   rw[←hcc,←hq]at hcd;have HCC:Hid (cc=cl fs i∧(⟨fa,fk,ma,mk⟩:Qs)=qf i):=⟨hcc,hq⟩
   subst hpd;have y0:wr.cell? (pd.add (i*4))=some (.string cc.name):=hcd 0 _ rfl;have y1:wr.cell? ⟨(pd.add (i*4)).block,(pd.add (i*4)).off+1,none⟩=some (.string cc.super):=by rw[B9 pd (i*4) 0];exact hcd 1 _ rfl
   have y2:wr.cell? ⟨(pd.add (i*4)).block,(pd.add (i*4)).off+2,none⟩=some (.slice fa cc.fields.length fk):=by rw[B9 pd (i*4) 1];exact hcd 2 _ rfl
   have y3:wr.cell? ⟨(pd.add (i*4)).block,(pd.add (i*4)).off+3,none⟩=some (.slice ma cc.methods.length mk):=by rw[B9 pd (i*4) 2];exact hcd 3 _ rfl
   have hiI:(i:Int)<(n:Int):=by omega
   have hml:cc.methods.length≤65535:=by rw[hcc];exact hmn i (by rw[←HN.out];exact hlt)
   have HIF:Hid (i<fs.length):=by unfold Hid;rw[←HN.out];exact hlt
   clear hcd hcc hq;go_wp2_with fail
   have hbc:A3 (wr.alloc (.cells #[.string cc.name, .string cc.super, .slice fa cc.fields.length fk, .slice ma cc.methods.length mk] 44)) wr.heap.size #[.string cc.name, .string cc.super, .slice fa cc.fields.length fk, .slice ma cc.methods.length mk] 44:=A3.new wr _ _;have HBC:=A0 hbc;have HGC:Hid (W1.grownBy (wr.alloc (.cells #[.string cc.name, .string cc.super, .slice fa cc.fields.length fk, .slice ma cc.methods.length mk] 44)) none):=A1 HGQ.out (A2 _ _ none);generalize wr.alloc (.cells #[.string cc.name, .string cc.super, .slice fa cc.fields.length fk, .slice ma cc.methods.length mk] 44)=W2 at HBC HGC⊢;generalize wr.heap.size=B7 at HBC⊢;clear hbc y0 y1 y2 y3;go_loopw [22] (fun v W=>∃j:Nat,v= .int .i64 j∧j≤cc.methods.length∧W2.grownBy W none∧∀k,k<j→V9 L cc.name (cc.methods.getD k K8) 0 0) (fun v _=>cc.methods.length-(intOf v).toNat)
   case atStart=>exact⟨0,rfl,Nat.zero_le _,G1 _ _,fun k hk=>absurd hk (Nat.not_lt_zero _)⟩
   case round=>
    obtain⟨j,rfl,hj,hgr,hall⟩:=hrel;have HGR:=A0 (A1 HGC.out hgr);have HGW:=A0 (A1 HG1.out HGR.out);have HG2:=A0 hgr;have HALJ:=A0 hall;have hb7:=HBC.out.keep hgr A7;have z0:=hb7.c0;have lB7:=hb7.lt;clear hgr hall hb7;by_cases hlj:j<cc.methods.length
    ·obtain⟨pm,pa,ca,ha,pk,ck,hk,hpm,-,r1,r2,r3,hcm⟩:=(hPM.out.keep HGW.out) (9+i) (by simp[a7r];have:=HIF.out;omega) j (by rw[R4,←HCC.out.1];exact hlj);rw[R4,←HCC.out.1]at r1 r2 r3 hcm;have hqq:K6 qf (9+i)=⟨fa,fk,ma,mk⟩:=by unfold K6;rw[if_neg (by omega),Nat.add_sub_cancel_left];exact HCC.out.2.symm
     rw[hqq]at hpm;dsimp only at hpm;obtain⟨me,hme⟩:∃me,me=cc.methods.getD j K8:=⟨_,rfl⟩
     rw[←hme]at r1 r2 r3 hcm;have HME:=A0 hme;have hMC:=hmc i HIF.out j (by rw[←HCC.out.1];exact hlj);rw[←HCC.out.1,←hme]at hMC;subst hpm;have x0:wr.cell? (pm.add (j*8))=some (.string me.name):=hcm 0 _ rfl;have x1:wr.cell? ⟨(pm.add (j*8)).block,(pm.add (j*8)).off+1,none⟩=some (.slice pa me.params.length pk):=by rw[B9 pm (j*8) 0];exact hcm 1 _ rfl
     have x2:wr.cell? ⟨(pm.add (j*8)).block,(pm.add (j*8)).off+2,none⟩=some (.int .i64 me.ret.kind):=by rw[B9 pm (j*8) 1];exact hcm 2 _ rfl
     have x3:wr.cell? ⟨(pm.add (j*8)).block,(pm.add (j*8)).off+3,none⟩=some (.string me.ret.name):=by rw[B9 pm (j*8) 2];exact hcm 3 _ rfl
     have x4:wr.cell? ⟨(pm.add (j*8)).block,(pm.add (j*8)).off+4,none⟩=some (.int .i64 me.stack):=by rw[B9 pm (j*8) 3];exact hcm 4 _ rfl
     have x5:wr.cell? ⟨(pm.add (j*8)).block,(pm.add (j*8)).off+5,none⟩=some (.int .i64 me.locals):=by rw[B9 pm (j*8) 4];exact hcm 5 _ rfl
     have x6:wr.cell? ⟨(pm.add (j*8)).block,(pm.add (j*8)).off+6,none⟩=some (.slice ca me.code.length ck):=by rw[B9 pm (j*8) 5];exact hcm 6 _ rfl
     have x7:wr.cell? ⟨(pm.add (j*8)).block,(pm.add (j*8)).off+7,none⟩=some (.slice ha me.handlers.length hk):=by rw[B9 pm (j*8) 6];exact hcm 7 _ rfl
     have HMT:Hid (∀W,wr.grownBy W none→Calls Tryz.prog 102 #[.pointer (some ⟨b,0,none⟩), .string cc.name, .agg (mV me pa pk ca ck ha hk)] W fun e w'=>∃er at_:Nat,e= .returned (.tuple #[.int .i64 er, .int .i64 at_])∧V9 L cc.name me er at_∧W.grownBy w' none):=fun W hW=>
      b2x W lim b L p cap m1 m2 m3 (K6 qf) (h.out.keep (A1 HGW.out hW) hl) (Nat.le_trans hl (A1 HGW.out hW).size) cc.name me pa ca ha pk ck hk hMC (r2.keep hW) (r3.keep hW) (r1.keep hW)
     have hjI:(j:Int)<(cc.methods.length:Int):=by omega
     clear hcm r1 r2 r3 hqq hme hMC;go_upto_region 8 with(go_at_call 102;go_loud (refine(HMT.out _ (A2 _ _ none)).mono ?_;rintro e w5 ⟨er,at_,rfl,hck,hg5⟩))
     have HG5:=A0 (A1 (A1 HG2.out (A2 _ _ none)) hg5);have HCK:=A0 hck;clear hck hg5;by_cases he0:er=0
     ·subst he0;have hat:=b4H HCK.out;subst hat;go_wp2_with fail
      go_roundw
      case rel=>exact⟨j+1,by first|rfl|go_num,by omega,HG5.out,fun k hk=>by
       by_cases e:k=j
       ·subst e;rw[←HME.out];exact HCK.out
       ·exact HALJ.out k (by omega)⟩
      case measure=>first|omega|(go_num;omega)|(simp[intOf];omega)
     ·have heb:((er:Int)==0)=false:=by rw[beq_eq_false_iff_ne];omega
      have hen:¬(er:Int)=0:=by omega
      have HW5:=A0 (A1 HGC.out HG5.out);have hbp:=HB1.out.keep HW5.out A7;have p0:=hbp.cell 0 _ rfl;have p1:=hbp.cell 1 _ rfl;have p2:=hbp.cell 2 _ rfl;have f0:=hbp.frozen 0;have f1:=hbp.frozen 1;have f2:=hbp.frozen 2;have HANS:Hid (a6c L fs er i j at_):= .inl ⟨he0,HIF.out,by rw[←HCC.out.1];exact hlj,by rw[←HCC.out.1,←HME.out];exact HCK.out,HALL.out,fun k hk=>by rw[←HCC.out.1];exact HALJ.out k hk⟩;clear he0;go_wp2_with fail
      have hb6:=((hbp.set 0 (.int .i64 i)).set 1 (.int .i64 j)).set 2 (.int .i64 at_);have hs6:=A1 (A1 (A6 w5 ⟨w.heap.size,0,none⟩ (.int .i64 i)) (A6 _ ⟨w.heap.size,1,none⟩ (.int .i64 j))) (A6 _ ⟨w.heap.size,2,none⟩ (.int .i64 at_));have hg6:=C7 (A1 HG1.out HW5.out) hs6 (fun k e=>by cases e;exact .inl (Nat.le_refl _));clear p0 p1 p2 f0 f1 f2;generalize ((w5.setCell ⟨w.heap.size,0,none⟩ (.int .i64 i)).setCell ⟨w.heap.size,1,none⟩ (.int .i64 j)).setCell ⟨w.heap.size,2,none⟩ (.int .i64 at_)=W6 at hb6 hg6⊢;have q0:=hb6.c0;have q1:=hb6.c1;have q2:=hb6.c2;exact bodyPost_ret (v:= .tuple #[.int .i64 er, .agg #[.int .i64 i, .int .i64 j, .int .i64 at_]]) (by simp[results,Tryz.results61,go_sem,q0,q1,q2]) rfl ⟨er,i,j,at_,rfl,HANS.out,hg6⟩
    ·have hjn:j=cc.methods.length:=by omega
     have HNX:Hid (∀f k,f<i+1→k<(cl fs f).methods.length→V9 L (cl fs f).name ((cl fs f).methods.getD k K8) 0 0):=fun f k hf hk=>by
      by_cases e:f=i
      ·subst e;rw[←HCC.out.1]at hk⊢;exact HALJ.out k (by omega)
      ·exact HALL.out f k (by omega) hk
     clear HALJ;subst hjn;go_wp2_with fail
     go_roundw
     case rel=>exact⟨i+1,by first|rfl|go_num,by omega,HGR.out,HNX.out⟩
     case measure=>first|omega|(go_num;omega)|(simp[intOf];omega)
  ·have hin:i=n:=by omega
   have HANS:Hid (a6c L fs 0 0 0 0):= .inr ⟨rfl,rfl,rfl,rfl,fun f k hf=>HALL.out f k (by rw[hin,HN.out];exact hf)⟩;have hbp:=HB1.out.keep HGQ.out A7;have p0:=hbp.cell 0 _ rfl;have p1:=hbp.cell 1 _ rfl;have p2:=hbp.cell 2 _ rfl;have f0:=hbp.frozen 0;have f1:=hbp.frozen 1;have f2:=hbp.frozen 2;clear HALL;subst hin;go_wp2_with fail
   have hb6:=((hbp.set 0 (.int .i64 0)).set 1 (.int .i64 0)).set 2 (.int .i64 0);have hs6:=A1 (A1 (A6 wr ⟨w.heap.size,0,none⟩ (.int .i64 0)) (A6 _ ⟨w.heap.size,1,none⟩ (.int .i64 0))) (A6 _ ⟨w.heap.size,2,none⟩ (.int .i64 0));have hg6:=C7 HG.out hs6 (fun k e=>by cases e;exact .inl (Nat.le_refl _));clear p0 p1 p2 f0 f1 f2;generalize ((wr.setCell ⟨w.heap.size,0,none⟩ (.int .i64 0)).setCell ⟨w.heap.size,1,none⟩ (.int .i64 0)).setCell ⟨w.heap.size,2,none⟩ (.int .i64 0)=W6 at hb6 hg6⊢;have q0:=hb6.c0;have q1:=hb6.c1;have q2:=hb6.c2;exact bodyPost_ret (v:= .tuple #[.int .i64 0, .agg #[.int .i64 0, .int .i64 0, .int .i64 0]]) (by simp[results,Tryz.results61,go_sem,q0,q1,q2]) rfl ⟨0,0,0,0,rfl,HANS.out,hg6⟩
theorem b1J{n:Nat}(h:n≤12):n≤maxLen:=Nat.le_trans h (by decide)
theorem a7L{s:ByteArray}(h:s=C3∨F4 s=true):s.size≤maxLen:=by
 rcases h with rfl|h
 ·exact Nat.zero_le _
 ·exact b1J (a0N h)
theorem b0J(hck:∀c∈fs,i8 c)(hlp:P7 fs= .ok ()):C2 (A5++fs)∧m9 (A5++fs):=by
 have hok:=fun c hc=>(hck c hc).okCl
 have hr:Z7 fs= .ok ():=by rw[←b1q fs hok];exact hlp
 exact⟨b8L fs hok hr,b8P fs hok hr⟩
variable {qf:Nat→Qs}
theorem c0l{W:World}{B b b':Nat}{v:Value}{m1 m2 m3:Nat}(hgm:Gm w B b v m1 m2 m3 (A5++fs) (K6 qf))(hck:∀c∈fs,i8 c)(hlp:P7 fs= .ok ())(hl12:fs.length≤12)(hg:w.grownBy W none)
 (hgv:U7 W lim fs qf) (hlim:lim≤W.heap.size) (hb:∀k x,[v, .map (some m1), .map (some m2), .map (some m3)][k]? =some x→W.cell? ⟨b',k,none⟩=some x):∃p cap,v= .slice (some p) (A5++fs).length cap∧Lk W W.heap.size b' (A5++fs) p cap m1 m2 m3 (K6 qf):=by
 obtain⟨hW,hT⟩:=b0J hck hlp;have hokL:∀c∈A5++fs,q8 c:=fun c hc=>(List.mem_append.1 hc).elim (a5C 9 c) (fun h=>a3f (hck c h))
 have hlen:(A5++fs).length=9+fs.length:=by rw[List.length_append];rfl
 obtain⟨p,cap,hv,hK⟩:=(hgm.keep hg).kls (by omega) hokL (by omega);have hb0:=block_lt_of_cell (hb 0 _ rfl);have htl:fs.take fs.length=fs:=List.take_length;have hpf:U0 W W.heap.size (A5++fs) (K6 qf):=by have:=hgv.partF (Nat.le_refl fs.length);rw[htl]at this;exact this.upto hlim
 have hpm:O9 W W.heap.size (A5++fs) (K6 qf):=by have:=hgv.partM (Nat.le_refl fs.length);rw[htl]at this;exact this.upto hlim
 refine⟨p,cap,hv,⟨hb0,hK.p_lt,hK.m1_lt,hK.m2_lt,hK.m3_lt,by rw[←hv];exact hb 0 _ rfl,hb 1 _ rfl,hb 2 _ rfl,hb 3 _ rfl,hK.row,hK.n1,hK.n2,hK.n3,hK.names,hK.small⟩,fun n=>hW.up_eq n,hW.dist,?_,(q8.sized hokL).1,(q8.sized hokL).2,hpf,hpm⟩;unfold a6h;cases hf:C5 (A5++fs) ⟨#[]⟩with
 |none=>rfl
 |some i=>
  have:=L4 hf;exact absurd this.2.1 (hW.names i this.1)
theorem b9d(hck:∀c∈fs,i8 c)(hlp:P7 fs= .ok ())(hl12:fs.length≤12){i:Nat}(hi:i<fs.length){j:Nat}(hj:j<(cl fs i).methods.length):MeC (A5++fs) (cl fs i).name ((cl fs i).methods.getD j K8):=by
 obtain⟨hW,hT⟩:=b0J hck hlp;have hcl:∀k,k<fs.length→i8 (cl fs k):=fun k hk=>by rw[U3 hk];exact hck _ (List.getElem_mem hk)
 have hlen:(A5++fs).length=9+fs.length:=by rw[List.length_append];rfl
 have hmem:(cl fs i).methods.getD j K8∈(cl fs i).methods:=by
  rw[List.getD_eq_getElem?_getD,List.getElem?_eq_getElem hj];exact List.getElem_mem hj
 have hm:=(hcl i hi).methods _ hmem;have hfile:=R4 fs i;refine⟨hW,hT,fun x hx=> ?_,fun x=> ?_,fun d hd=>a7L (.inr (hm.handlers d hd).cls),?_,fun p hp=> ?_,by have:=hm.nc;omega,by have:=hm.np;omega,by have:=hm.nh;omega,by have:=hm.stack;omega,by have:=hm.locals;omega,by omega⟩
 ·have hx':=hm.code x hx;exact⟨a7L hx'.cls,a7L hx'.mem,hx'.op,fun h0=>(hx'.nn h0).1⟩
 ·unfold O0;cases hk:O7 (A5++fs) x.cls x.mem with
  |none=>exact Nat.zero_le _
  |some p=>
   dsimp only;obtain⟨h1,h2,-⟩:=hW.meth_lt hk;unfold g9;by_cases h9:p.1<9
   ·have hbase:(cl (A5++fs) p.1).methods=[]:=by
     rw[L9 (by have:A5.length=9:=rfl;omega)];rcases a0Y h9 with e|e|e|e|e|e|e|e|e<;>rw[e]<;>rfl
    rw[hbase]at h2;simp at h2
   ·obtain⟨k,hk2⟩:∃k,p.1=9+k:=⟨p.1-9,by omega⟩
    rw[hk2,R4]at h2⊢
    have hmm:(cl fs k).methods.getD p.2 K8∈(cl fs k).methods:=by
     rw[List.getD_eq_getElem?_getD,List.getElem?_eq_getElem h2];exact List.getElem_mem h2
    have:=((hcl k (by omega)).methods _ hmm).np;omega
 ·unfold E2;rw[←hfile,a5q hW.dist (by omega)];rfl
 ·have:=(hT.meths (9+i) (by omega) _ (by rw[hfile];exact hmem)).2.2.1 p hp;exact this.1
def a7Q(B0:Nat)(files:List ByteArray)(e:Ending)(w':World):Prop:=
 (12<files.length∧e= .returned (.tuple #[.pointer none, .int .i64 17, .agg #[.int .i64 0, .int .i64 0, .int .i64 0]]))∨
 (files.length≤12∧∃(j:Nat) (hj:j<files.length) (er:Er),F7 files[j]= .error er∧(∀i (hi:i<files.length),i<j→∃c,F7 files[i]= .ok c)∧e= .returned (.tuple #[.pointer none, .int .i64 er.1, .agg #[.int .i64 j, .int .i64 0, .int .i64 er.2]]))∨
 (files.length≤12∧∃(fs:List Cl),fs.length=files.length∧(∀i (hi:i<files.length),F7 files[i]= .ok (cl fs i))∧
   ((∃er:Er,P7 fs= .error er∧e= .returned (.tuple #[.pointer none, .int .i64 er.1, .agg #[.int .i64 er.2, .int .i64 0, .int .i64 0]]))∨
    (P7 fs= .ok ()∧∃er f k at_:Nat,a6c (A5++fs) fs er f k at_∧
      ((er≠0∧e= .returned (.tuple #[.pointer none, .int .i64 er, .agg #[.int .i64 f, .int .i64 k, .int .i64 at_]]))∨
       (er=0∧∃(P B b:Nat) (v:Value) (m1 m2 m3:Nat) (qf:Nat→Qs),e= .returned (.tuple #[.pointer (some ⟨P,0,none⟩), .int .i64 0, .agg #[.int .i64 0, .int .i64 0, .int .i64 0]])∧
        B0≤P∧B0≤B∧A3 w' P #[v, .map (some m1), .map (some m2), .map (some m3), .bool true] 158∧Gm w' B b v m1 m2 m3 (A5++fs) (K6 qf))))))
theorem U7.upto{lim':Nat}(h:U7 w lim fs qf)(hl:lim≤lim'):U7 w lim' fs qf:=
 ⟨fun i hi=>(h.fields i hi).upto hl,h.meths.upto hl,h.sz,h.names,h.memb,h.few⟩
set_option maxRecDepth 100000 in
set_option maxHeartbeats 4000000 in
theorem a9F(w:World)(lim:Nat)(hl:lim≤w.heap.size)(files:List ByteArray)(a:Option Addr)(kk:Nat)(hR:Hid (C0 w lim 1 P9 a files))(hz:Hid (∀s∈files,s.size≤maxLen))(hS:Hid (p9 w))(hBin:Hid (Bin w)):
 Calls Tryz.prog 31 #[.slice a files.length kk, .bool true] w fun e w'=>w.grownBy w' none∧a7Q w.heap.size files e w':=by
 obtain⟨n,hn⟩:∃n,n=files.length:=⟨_,rfl⟩
 have HN:=A0 hn
 have HDA:Hid (n≤12→Calls Tryz.prog 59 #[.slice a n kk] (w.alloc (.cells #[.int .i64 0, .int .i64 0, .int .i64 0] 78)) fun e w'=>(w.alloc (.cells #[.int .i64 0, .int .i64 0, .int .i64 0] 78)).grownBy w' none∧a8g (w.heap.size+2) files e w'):=fun h12=>by
  have:=a8w (w.alloc (.cells #[.int .i64 0, .int .i64 0, .int .i64 0] 78)) lim (by simp;omega) files a kk (hR.out.keep (A2 _ _ _)) hz (by omega) (hS.out.keep (A2 w (.cells #[.int .i64 0, .int .i64 0, .int .i64 0] 78) none) (by simp));rw[←hn,World.size_alloc]at this;exact this
 rw[←hn];clear hn;have HB0:Hid (A3 (w.alloc (.cells #[.int .i64 0, .int .i64 0, .int .i64 0] 78)) w.heap.size #[.int .i64 0, .int .i64 0, .int .i64 0] 78):=A3.new w _ _;have HG0:Hid (w.grownBy (w.alloc (.cells #[.int .i64 0, .int .i64 0, .int .i64 0] 78)) none):=A2 _ _ _;have HBN:Hid (Bin w):=hBin;clear hR hS hBin;by_cases h12:12<n
 ·go_enter Tryz.func31,Tryz.ntmps31;have r0:=HB0.out.cell 0 _ rfl;have r1:=HB0.out.cell 1 _ rfl;have r2:=HB0.out.cell 2 _ rfl;have z0:=HB0.out.frozen 0;have z1:=HB0.out.frozen 1;have z2:=HB0.out.frozen 2;go_wp2_with fail
  refine bodyPost_ret (v:= .tuple #[.pointer none, .int .i64 17, .agg #[.int .i64 0, .int .i64 0, .int .i64 0]]) (by simp[results,Tryz.results31,go_sem,r0,r1,r2]) rfl ⟨HG0.out, .inl ⟨by rw[←HN.out];exact h12,rfl⟩⟩
 ·go_enter Tryz.func31,Tryz.ntmps31;go_wp2_with (go_at_call 59;refine(HDA.out (by omega)).mono ?_)
  rintro e w1 ⟨hg1,⟨j,hj,er,hde,hpre,rfl⟩|⟨fs,v,qf,hfl,hall,rfl,hD⟩⟩
  ·have her:=a5R hde;have hne:(er.1:Int)≠0:=by omega
   have HDE:=A0 hde;have HPR:=F5 hpre;clear hde hpre her;have hb1:=HB0.out.keep hg1 (by simp);have hq1:=hb1.keep (A2 w1 (.cells #[.int .i64 j, .int .i64 0, .int .i64 er.2] 78) none) (by simp);have hP1:A3 (w1.alloc (.cells #[.int .i64 j, .int .i64 0, .int .i64 er.2] 78)) w1.heap.size #[.int .i64 j, .int .i64 0, .int .i64 er.2] 78:=A3.new w1 _ _;have z0:=hq1.frozen 0;have z1:=hq1.frozen 1;have z2:=hq1.frozen 2;have r0:=hq1.cell 0 _ rfl;have r1:=hq1.cell 1 _ rfl;have r2:=hq1.cell 2 _ rfl;have p0:=hP1.cell 0 _ rfl;have p1:=hP1.cell 1 _ rfl;have p2:=hP1.cell 2 _ rfl;have hg5w:w.grownBy (w1.alloc (.cells #[.int .i64 j, .int .i64 0, .int .i64 er.2] 78)) none:=A1 (A1 HG0.out hg1) (A2 _ _ _);go_wp2_with fail
   go_region
   all_goals
    have hb6:=A3.keep (row:=none) (((hq1.set 0 (.int .i64 j)).set 1 (.int .i64 0)).set 2 (.int .i64 er.2)) (B8 _ none) (by simp);have hg6:=A1 (x9 (w:=w) hg5w (Nat.le_refl _) (i:=0) (j:=1) (k:=2) (x:= .int .i64 j) (y:= .int .i64 0) (z:= .int .i64 er.2)) (B8 _ none);clear r0 r1 r2 z0 z1 z2 p0 p1 p2;generalize ((((w1.alloc (.cells #[.int .i64 j, .int .i64 0, .int .i64 er.2] 78)).setCell ⟨w.heap.size,0,none⟩ (.int .i64 j)).setCell ⟨w.heap.size,1,none⟩ (.int .i64 0)).setCell ⟨w.heap.size,2,none⟩ (.int .i64 er.2)).drew=W6 at hb6 hg6⊢;have q0:=hb6.c0;have q1:=hb6.c1;have q2:=hb6.c2;go_wp2_with fail
    refine bodyPost_ret (v:= .tuple #[.pointer none, .int .i64 er.1, .agg #[.int .i64 j, .int .i64 0, .int .i64 er.2]]) (by simp[results,Tryz.results31,go_sem,q0,q1,q2]) rfl ⟨hg6, .inr (.inl ⟨by rw[←HN.out];omega,j,hj,er,HDE.out,HPR.out,rfl⟩)⟩
  ·obtain⟨va,vk,rfl⟩:=F1 hD.own;have hck:=a5J hfl hall;have h12f:fs.length≤12:=by rw[hfl,←HN.out];omega
   obtain⟨W2,hW2⟩:∃W2,W2=w1.alloc (.cells #[.int .i64 0, .int .i64 0, .int .i64 0] 78):=⟨_,rfl⟩
   have hg12:w1.grownBy W2 none:=by rw[hW2];exact A2 _ _ _
   have hgv:=(hD.keep hg12).gvn hck h12f
   have HLK:Hid (Calls Tryz.prog 60 #[.slice va fs.length vk] W2 fun e w'=>W2.grownBy w' none∧a1V (W2.heap.size+1) fs qf (P7 fs) e w'):=
    b0r W2 W2.heap.size (Nat.le_refl _) fs qf va vk hgv.1 (fun c hc=>a3f (hck c hc)) (fun c hc=>(hck c hc).okCl) (b1h hck) hgv.2 (HBN.out.keep (A1 HG0.out (A1 hg1 hg12)))
   have hz2:W2.heap.size=w1.heap.size+1:=by rw[hW2];simp
   have HGV:=A0 hgv;have HCKL:Hid ((∀c∈fs,i8 c)∧fs.length≤12):=⟨hck,h12f⟩
   have HB1:=A0 ((HB0.out.keep hg1 (by simp)).keep hg12 (by simp));have HPL:Hid (A3 W2 w1.heap.size #[.int .i64 0, .int .i64 0, .int .i64 0] 78):=by rw[hW2];exact A3.new w1 _ _
   have HGW:=A0 (A1 HG0.out (A1 hg1 hg12));have HALL:=F5 hall;have HFL:=F5 hfl;have HZ2:=F5 hz2;rw[hz2]at HLK;have hgl1:w.heap.size+1≤w1.heap.size:=by have:=hg1.size;simp at this;omega
   clear hck hg12 hgv hD hall hfl HDA hg1 hz2;rw[hW2]at HLK HB1 HPL HGW HGV;go_wp2_with (go_at_call 60;refine HLK.out.mono ?_)
   rintro e w3 ⟨hg3,hla⟩;have hb3:=HB1.out.keep hg3 (by simp);cases hlp:P7 fs with
   |error er=>
    rw[hlp]at hla;obtain rfl:=hla;have HLP:=A0 hlp;have hne:(er.1:Int)≠0:=by have:=b0p hlp;omega
    clear hlp;have hb4:=hb3.keep (A2 w3 (.cells #[.slice none 0 0, .map none, .map none, .map none] 151) none) (by simp);have hg4w:w.grownBy (w3.alloc (.cells #[.slice none 0 0, .map none, .map none, .map none] 151)) none:=A1 (A1 HGW.out hg3) (A2 _ _ _);have r0:=hb4.cell 0 _ rfl;have r1:=hb4.cell 1 _ rfl;have r2:=hb4.cell 2 _ rfl;have z0:=hb4.frozen 0;have z1:=hb4.frozen 1;have z2:=hb4.frozen 2;go_wp2_with fail
    clear r0 r1 r2 z0 z1 z2;have hb6:=((hb4.set 0 (.int .i64 er.2)).set 1 (.int .i64 0)).set 2 (.int .i64 0);have hg6:=x9 (w:=w) hg4w (Nat.le_refl _) (i:=0) (j:=1) (k:=2) (x:= .int .i64 er.2) (y:= .int .i64 0) (z:= .int .i64 0);generalize (((w3.alloc (.cells #[.slice none 0 0, .map none, .map none, .map none] 151)).setCell ⟨w.heap.size,0,none⟩ (.int .i64 er.2)).setCell ⟨w.heap.size,1,none⟩ (.int .i64 0)).setCell ⟨w.heap.size,2,none⟩ (.int .i64 0)=W6 at hb6 hg6⊢;have q0:=hb6.c0;have q1:=hb6.c1;have q2:=hb6.c2;refine bodyPost_ret (v:= .tuple #[.pointer none, .int .i64 er.1, .agg #[.int .i64 er.2, .int .i64 0, .int .i64 0]]) (by simp[results,Tryz.results31,go_sem,q0,q1,q2]) rfl ⟨hg6, .inr (.inr ⟨by rw[←HN.out];omega,fs,HFL.out,HALL.out, .inl ⟨er,HLP.out,rfl⟩⟩)⟩
   |ok u=>
    rw[hlp]at hla;obtain⟨b,v,m1,m2,m3,rfl,hgm⟩:=hla;obtain⟨ra,rk,rfl⟩:=F1 hgm.own;have hb4:=(hb3.keep (A2 w3 (.cells #[.slice ra (A5++fs).length rk, .map (some m1), .map (some m2), .map (some m3)] 151) none) (by simp))
    have hpl4:=(HPL.out.keep hg3 (by simp)).keep (A2 w3 (.cells #[.slice ra (A5++fs).length rk, .map (some m1), .map (some m2), .map (some m3)] 151) none) (by simp);have hcb4:A3 (w3.alloc (.cells #[.slice ra (A5++fs).length rk, .map (some m1), .map (some m2), .map (some m3)] 151)) w3.heap.size #[.slice ra (A5++fs).length rk, .map (some m1), .map (some m2), .map (some m3)] 151:=A3.new w3 _ _;have hgv4:=HGV.out.1.keep (A1 hg3 (A2 w3 (.cells #[.slice ra (A5++fs).length rk, .map (some m1), .map (some m2), .map (some m3)] 151) none));have hrd4:=(HGV.out.2.keep (A1 hg3 (A2 w3 (.cells #[.slice ra (A5++fs).length rk, .map (some m1), .map (some m2), .map (some m3)] 151) none)))
    have hsz24:=(A1 hg3 (A2 w3 (.cells #[.slice ra (A5++fs).length rk, .map (some m1), .map (some m2), .map (some m3)] 151) none)).size;obtain⟨pp,cap,hv,hLk⟩:=c0l hgm HCKL.out.1 hlp HCKL.out.2 (A2 w3 (.cells #[.slice ra (A5++fs).length rk, .map (some m1), .map (some m2), .map (some m3)] 151) none) (hgv4.upto hsz24) (Nat.le_refl _) (b':=w3.heap.size) (fun k x hx=>hcb4.cell k x (by simpa using hx));have hCA:=b2V (w3.alloc (.cells #[.slice ra (A5++fs).length rk, .map (some m1), .map (some m2), .map (some m3)] 151)) (w3.alloc (.cells #[.slice ra (A5++fs).length rk, .map (some m1), .map (some m2), .map (some m3)] 151)).heap.size w3.heap.size fs (A5++fs) rfl pp cap m1 m2 m3 qf hLk (Nat.le_refl _) va vk (hrd4.upto hsz24) hLk.pm HCKL.out.2 (fun i hi=>by have:=(HCKL.out.1 _ (by rw[U3 hi];exact List.getElem_mem hi):i8 (cl fs i)).nm;omega) (fun i hi j hj=>b9d HCKL.out.1 hlp HCKL.out.2 hi hj);have HCA:=A0 hCA;have HLP:Hid (P7 fs= .ok ()):=hlp;have HGM4:=F5 (hgm.keep (A2 w3 (.cells #[.slice ra (A5++fs).length rk, .map (some m1), .map (some m2), .map (some m3)] 151) none));have HB4:=F5 hb4;have HPL4:=F5 hpl4;have HCB4:=F5 hcb4;have HG4:=F5 (A1 (A1 HGW.out hg3) (A2 w3 (.cells #[.slice ra (A5++fs).length rk, .map (some m1), .map (some m2), .map (some m3)] 151) none));clear hb3 hb4 hpl4 hcb4 hgv4 hrd4 hsz24 hLk hCA hlp hgm hv;have hlt1:w1.heap.size<w3.heap.size:=by have:=hg3.size;simp at this;omega
    have HLT:Hid (w.heap.size<w1.heap.size∧w1.heap.size<w3.heap.size∧w3.heap.size<(w3.alloc (.cells #[.slice ra (A5++fs).length rk, .map (some m1), .map (some m2), .map (some m3)] 151)).heap.size):=⟨by have:=HB0.out.lt;have h2:=HGW.out.size;have h3:=HPL.out.lt;have h4:=hgl1;omega,hlt1,by simp⟩
    obtain⟨NL,hNL⟩:∃NL,NL=(A5++fs).length:=⟨_,rfl⟩
    rw[←hNL]at HCA HGM4 HB4 HPL4 HCB4 HG4 HLT⊢;clear hNL hlt1;go_upto_region 11 with(go_at_call 61;go_loud (refine HCA.out.mono ?_;rintro e w5 ⟨er,f,k,at_,rfl,hall5,hg5⟩;have hpl5:=HPL4.out.keep hg5 A7;have p0:=hpl5.cell 0 _ rfl;have p1:=hpl5.cell 1 _ rfl;have p2:=hpl5.cell 2 _ rfl;have f0:=hpl5.frozen 0;have f1:=hpl5.frozen 1;have f2:=hpl5.frozen 2))
    clear p0 p1 p2 f0 f1 f2;have hs6:=A1 (A1 (A6 w5 ⟨w1.heap.size,0,none⟩ (.int .i64 f)) (A6 _ ⟨w1.heap.size,1,none⟩ (.int .i64 k))) (A6 _ ⟨w1.heap.size,2,none⟩ (.int .i64 at_));have hpl6:=((hpl5.set 0 (.int .i64 f)).set 1 (.int .i64 k)).set 2 (.int .i64 at_);have hb6:=(HB4.out.keep hg5 A7).keep hs6 (by simp;have:=HLT.out;omega);have hcb6:=(HCB4.out.keep hg5 A7).keep hs6 (by simp;have:=HLT.out;omega);have hgm6:=Am.far (HGM4.out.keep hg5) hs6 (by show w1.heap.size<_;first|omega|(simp;omega));have hg6:=C7 (A1 HG4.out hg5) hs6 (fun k e=>by cases e;exact .inl (Nat.le_of_lt HLT.out.1));have hz6:=hcb6.lt;clear hpl5;generalize ((w5.setCell ⟨w1.heap.size,0,none⟩ (.int .i64 f)).setCell ⟨w1.heap.size,1,none⟩ (.int .i64 k)).setCell ⟨w1.heap.size,2,none⟩ (.int .i64 at_)=W6 at hs6 hpl6 hb6 hcb6 hgm6 hg6 hz6⊢;have HAL:=A0 hall5;have r0:=hb6.cell 0 _ rfl;have r1:=hb6.cell 1 _ rfl;have r2:=hb6.cell 2 _ rfl;have z0:=hb6.frozen 0;have z1:=hb6.frozen 1;have z2:=hb6.frozen 2;have HB6:=F5 hb6;have HG6:=F5 hg6;have HGM6:=F5 hgm6;by_cases he0:er=0
    ·subst he0;have n0:=hcb6.cell 0 _ rfl;have n1:=hcb6.cell 1 _ rfl;have n2:=hcb6.cell 2 _ rfl;have n3:=hcb6.cell 3 _ rfl;have lt1:=hb6.lt;clear hs6 hpl6 hb6 hcb6 hgm6 hg6 hg5 hall5;go_wp2_with fail
     clear r0 r1 r2 z0 z1 z2 n0 n1 n2 n3;have hs7:=A1 (A1 (A6 W6 ⟨w.heap.size,0,none⟩ (.int .i64 0)) (A6 _ ⟨w.heap.size,1,none⟩ (.int .i64 0))) (A6 _ ⟨w.heap.size,2,none⟩ (.int .i64 0));have hb7:=((HB6.out.set 0 (.int .i64 0)).set 1 (.int .i64 0)).set 2 (.int .i64 0);have hgm7:=Am.far HGM6.out hs7 (by show w.heap.size<_;have:=HLT.out.1;first|omega|(simp;omega));have hg7:=C7 HG6.out hs7 (fun k e=>by cases e;exact .inl (Nat.le_refl _));have hsz7:(((W6.setCell ⟨w.heap.size,0,none⟩ (.int .i64 0)).setCell ⟨w.heap.size,1,none⟩ (.int .i64 0)).setCell ⟨w.heap.size,2,none⟩ (.int .i64 0)).heap.size=W6.heap.size:=by simp[World.setCell]
     generalize ((W6.setCell ⟨w.heap.size,0,none⟩ (.int .i64 0)).setCell ⟨w.heap.size,1,none⟩ (.int .i64 0)).setCell ⟨w.heap.size,2,none⟩ (.int .i64 0)=W7 at hs7 hb7 hgm7 hg7 hsz7⊢;have hb8:=hb7.keep (A2 W7 (.cells #[.slice ra NL rk, .map (some m1), .map (some m2), .map (some m3), .bool true] 158) none) (by simp)
     have hp8:A3 (W7.alloc (.cells #[.slice ra NL rk, .map (some m1), .map (some m2), .map (some m3), .bool true] 158)) W6.heap.size #[.slice ra NL rk, .map (some m1), .map (some m2), .map (some m3), .bool true] 158:=by
      have:=A3.new W7 #[.slice ra NL rk, .map (some m1), .map (some m2), .map (some m3), .bool true] 158;rw[hsz7]at this;exact this
     have hg8:=A1 hg7 (A2 W7 (.cells #[.slice ra NL rk, .map (some m1), .map (some m2), .map (some m3), .bool true] 158) none);have hgm8:=Gm.keep hgm7 (A2 W7 (.cells #[.slice ra NL rk, .map (some m1), .map (some m2), .map (some m3), .bool true] 158) none);generalize W7.alloc (.cells #[.slice ra NL rk, .map (some m1), .map (some m2), .map (some m3), .bool true] 158)=W8 at hb8 hp8 hgm8 hg8⊢;have q0:=hb8.c0;have q1:=hb8.c1;have q2:=hb8.c2;refine bodyPost_ret (v:= .tuple #[.pointer (some ⟨W6.heap.size,0,none⟩), .int .i64 0, .agg #[.int .i64 0, .int .i64 0, .int .i64 0]]) (by simp[results,Tryz.results31,go_sem,q0,q1,q2]) rfl ⟨hg8, .inr (.inr ⟨by rw[←HN.out];omega,fs,HFL.out,HALL.out, .inr ⟨HLP.out,0,f,k,at_,HAL.out, .inr ⟨rfl,W6.heap.size,w1.heap.size+1+1,b,_,m1,m2,m3,qf,rfl,Nat.le_of_lt lt1,by have:=HLT.out.1;omega,hp8,?_⟩⟩⟩)⟩;exact hgm8
    ·have hne:(er:Int)≠0:=by omega
     have HNE:Hid (er≠0):=he0;have p0:=hpl6.cell 0 _ rfl;have p1:=hpl6.cell 1 _ rfl;have p2:=hpl6.cell 2 _ rfl;clear hs6 hpl6 hb6 hcb6 hgm6 hg6 hg5 hall5 he0;go_wp2_with fail
     go_region
     all_goals
      have hb8:=A3.keep (row:=none) (((HB6.out.set 0 (.int .i64 f)).set 1 (.int .i64 k)).set 2 (.int .i64 at_)) (B8 _ none) (by simp);have hg8:=A1 (x9 (w:=w) HG6.out (Nat.le_refl _) (i:=0) (j:=1) (k:=2) (x:= .int .i64 f) (y:= .int .i64 k) (z:= .int .i64 at_)) (B8 _ none);clear r0 r1 r2 z0 z1 z2 p0 p1 p2;generalize (((W6.setCell ⟨w.heap.size,0,none⟩ (.int .i64 f)).setCell ⟨w.heap.size,1,none⟩ (.int .i64 k)).setCell ⟨w.heap.size,2,none⟩ (.int .i64 at_)).drew=W8 at hb8 hg8⊢;have q0:=hb8.c0;have q1:=hb8.c1;have q2:=hb8.c2;go_wp2_with fail
      refine bodyPost_ret (v:= .tuple #[.pointer none, .int .i64 er, .agg #[.int .i64 f, .int .i64 k, .int .i64 at_]]) (by simp[results,Tryz.results31,go_sem,q0,q1,q2]) rfl ⟨hg8, .inr (.inr ⟨by rw[←HN.out];omega,fs,HFL.out,HALL.out, .inr ⟨HLP.out,er,f,k,at_,HAL.out, .inl ⟨HNE.out,rfl⟩⟩⟩)⟩
end Kx
end Go.Proofs.YtdhophglnhcjbaaGreatDoor
