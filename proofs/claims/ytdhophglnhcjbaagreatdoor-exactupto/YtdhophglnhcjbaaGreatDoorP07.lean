/- P07: a part of the proof that the last text tells. -/
import Derived.Test.YtdhophglnhcjbaaGreatDoorP06
set_option linter.all false
set_option maxRecDepth 100000
set_option maxHeartbeats 40000000
open Go.Proofs.Tryz
namespace Go.Proofs.YtdhophglnhcjbaaGreatDoor
section
theorem c7o{P:Prop}(h:P:=by
 go_simp
 refine hK.out _ _ trivial (fun _=> ?_);clear hK;try simp only[Act.put,lz]
 refine T6 10 fun K' hK=> ?_
 exact a0g):P:=h
theorem c7p{P:Prop}(h:P:=by
 go_simp
 refine hK.out _ _ trivial (fun _=> ?_);clear hK;try simp only[Act.put,lz]
 refine T6 6 fun K' hK=> ?_
 exact a0g):P:=h
theorem a0g{P:Prop}(h:P:=by
 go_simp
 refine hK.out _ _ trivial (fun _=> ?_);clear hK;try simp only[Act.put,lz]
 refine A4 11 ?_;refine T6 12 fun K' hK=> ?_
 go_simp
 refine hK.out _ _ trivial (fun _=> ?_);clear hK;try simp only[Act.put,lz]
 refine T6 13 fun K' hK=> ?_
 go_simp
 go_wp2_with (go_at_call 155;refine(HD.out _ (HM2.out.keep (B6 _ _))).mono ?_;rintro e w5 ⟨rfl,fps5,hM5⟩)
 refine hK.out _ _ trivial (fun _=> ?_);clear hK;refine A4 14 ?_;refine wpAnyH_done (by kernel_rfl) ?_ _;have HM5:=A0 hM5;clear hM5 c7 c9 y0 y1 y2 y3;by_cases h0:r.2=0
 ·have HZ2:Hid (z=r.1):=by unfold Hid;rw[HZ.out,if_pos h0]
  have k0:((r.2:Int)==0)=true:=by simp;omega
  go_wp2_with fail
  all_goals
   refine bodyPost_ret (v:= .bool true) (by simp[results,results98,go_sem]) rfl ?_;exact⟨rfl,_,by rw[HZ2.out];exact HM5.out⟩
 ·have HZ2:Hid (z=a0Q E.fast E.L r.1 r.2):=by unfold Hid;rw[HZ.out,if_neg h0]
  have k0:((r.2:Int)==0)=false:=by simp;omega
  have HT2:=A0 (HT.out h0);go_wp2_with (go_at_call 156;refine(HT2.out _ _ HM5.out).mono ?_;rintro e w6 ⟨rfl,fps6,hM6⟩)
  all_goals
   refine bodyPost_ret (v:= .bool true) (by simp[results,results98,go_sem]) rfl ?_;exact⟨rfl,fps6,by rw[HZ2.out];exact hM6⟩):P:=h
theorem a1d{P:Prop}(h:P:=by
 have I1:=(HIb.out _ HGW.out).c1;have I2:=(HIb.out _ HGW.out).c2;have I3:=(HIb.out _ HGW.out).c3;have htz:tn=0:=by omega
 subst htz;have hTn:=List.eq_nil_of_length_eq_zero HTN.out.symm
 have hA:Hid (ans=O6 L i []):=by
  exact c7l
 go_wp2_with fail
 go_loopw [16,56] (fun tv c wr=>tv= .slice none 0 0∧c= .int .i64 0∧wr=w2) (fun _ _ _=>0)
 case atStart=>exact⟨rfl,rfl,rfl⟩
 case round=>
  obtain⟨rfl,rfl,hwr⟩:=hrel;subst hwr;go_wp2_with (go_at_call 296;refine(HF.out _ [] none 0 HW2.out).mono ?_;rintro e w8 ⟨rfl,hg8⟩)
  all_goals exact bodyPost_ret (v:= .bool (O6 L i [])) (by simp[results,results230,go_sem]) rfl ⟨by rw[hA.out],A1 HW2.out hg8⟩):P:=h
theorem c6h{P:Prop}(h:P:=by
 go_wp2_with fail
 all_goals exact bodyPost_ret (v:= .bool false) (by simp[results,results63,go_sem]) rfl ⟨by rw[HR.out],I8 _ _⟩):P:=h
end
section
open Go.RowKit Go.Shelf Cf
namespace Kx
section
variable{E:En}{W0:World}{S0:List Nat}{loc:List Lo}{fp:Nat}{fps:List Nat}{s:Ms}{st:Nat}{f:Fm}{fs:List Fm}
theorem c1s:(prog.info? 210).map (fun i=>(i.zero,i.size,i.bytes))=some (some (.pointer none),1,8):=by kernel_rfl
theorem b6O(w:World)(ga:Option Addr)(gk:Nat)(given:List Wd)(h:Hid (Mc E W0 S0 w fps s st (F8 E.base (.slice ga given.length gk) given::loc)))(cls mem:ByteArray)(hc:cls.size≤maxLen)(hm:mem.size≤maxLen)(p:Nat×Nat)(hp:L3 E.L cls mem=some p)(hg1:1≤given.length)(hgl:given.length≤1000)(hml:(E1 E.L p).locals≤1000)(hfl:s.fr.length≤1000):
 Calls prog 109 #[.pointer (some ⟨E.b,0,none⟩), .string cls, .string mem, .slice ga given.length gk] w fun e w'=>e= .returned (.tuple #[])∧∃fp,Mc E W0 S0 w' (fp::fps) {s with fr:=a4d E.L cls mem given::s.fr} st (F8 E.base (.slice ga given.length gk) given::loc):=by
 obtain⟨hlk,hlkl⟩:=h.out.lk;have hb1:=h.out.b1
 have HO:Hid (∀W,w.grownBy W none→Calls prog 103 #[.pointer (some ⟨E.cb,0,none⟩), .string cls, .string mem] W fun e w'=>e= .returned (.string (a0B E.L cls mem))∧W.grownBy w' none):=fun W hW=>by
  obtain⟨hk,hkl⟩:=(h.out.keep hW).lk;exact a8z W E.lim E.cb E.L E.p E.cap E.m1 E.m2 E.m3 E.q hk.kls hkl hk.up hk.dist hk.sm cls mem hc hm
 have how:a0B E.L cls mem=(cl E.L p.1).name:=by unfold a0B;rw[hp]
 have hos:(a0B E.L cls mem).size≤maxLen:=by
  rw[how];obtain⟨k,hk,hk2⟩:=List.exists_of_findSome?_eq_some hp;obtain⟨i,-,hi⟩:=Option.map_eq_some_iff.1 hk2;rw[←hi];exact(hlk.kls.names k (a2G _ _ k hk)).1
 obtain⟨ow,HOW⟩:∃ow,Hid (ow=(cl E.L p.1).name):=⟨_,rfl⟩
 obtain⟨m,HME⟩:∃m,Hid (m=E1 E.L p):=⟨_,rfl⟩
 have HOM:Hid (∀W,w.grownBy W none→Calls prog 69 #[.pointer (some ⟨E.cb,0,none⟩), .string ow, .string mem] W fun e w'=>W.grownBy w' none∧∃(pa ca ha:Option Addr) (pk ck hk:Nat),e= .returned (.tuple #[.agg (mv m pa pk ca ck ha hk).toArray, .bool true])∧B8 W E.lim 4 T3 ca m.code∧B8 W E.lim 4 T4 ha m.handlers):=fun W hW=>by
  obtain⟨hk,hkl⟩:=(h.out.keep hW).lk;refine(a4t W E.lim E.cb E.L E.p E.cap E.m1 E.m2 E.m3 E.q hk.kls hkl hk.dist hk.sm hk.pm ow mem (by rw[HOW.out,←how];exact hos) hm).mono (fun e w' h'=>⟨h'.1,?_⟩);have h2:=h'.2;rw[HOW.out,←how,b0J hk.dist hk.named hk.up,hp]at h2;obtain⟨pa,ca,ha,pk,ck,hk',h3,h4,h5,h6⟩:=h2;rw[HME.out];exact⟨pa,ca,ha,pk,ck,hk',h3,h5,h6⟩
 rw[how,←HOW.out]at HO;obtain⟨fr,hfr⟩:∃fr,fr=a4d E.L cls mem given:=⟨_,rfl⟩
 have HFR:Hid (fr=⟨ow,m,0,[],given++List.replicate (m.locals-given.length) X9⟩):=by rw[hfr];unfold a4d;rw[hp];rw[HOW.out,HME.out];exact rfl
 rw[←hfr];have HML:Hid (m.locals≤1000∧given.length≤1000∧s.fr.length≤1000):=⟨by rw[HME.out];exact hml,hgl,hfl⟩
 have H0:Hid (Mc E W0 S0 w fps s st (F8 E.base (.slice ga given.length gk) given::loc)):=h;have HG1:Hid (0<given.length):=hg1;clear hfr hp hg1 hml hgl hfl hos how hlk hlkl hc hm h;go_enter func109,ntmps109;go_upto_region 1 with(go_at_call 103;refine(HO.out _ (I8 _ _)).mono ?_;rintro e w1 ⟨rfl,hg1⟩;have b1:=hg1.cell hb1 A5)
 go_upto_region 2 with(go_at_call 69;refine(HOM.out _ hg1).mono ?_;rintro e w2 ⟨hg2,pa,ca,ha,pk,ck,hk,rfl,hrc,hrh⟩;dsimp only[mv])
 have HA:=((H0.out.keep hg1).keep hg2).alloc (mV m pa pk ca ck ha hk) 102;have hgA:=A1 (A1 hg1 hg2) (A2 w2 (.cells (mV m pa pk ca ck ha hk) 102) none);have hrc3:=B8.keep hrc (A1 hg2 (A2 w2 (.cells (mV m pa pk ca ck ha hk) 102) none));have hrh3:=B8.keep hrh (A1 hg2 (A2 w2 (.cells (mV m pa pk ca ck ha hk) 102) none));generalize w2.alloc (.cells (mV m pa pk ca ck ha hk) 102)=W3 at HA hgA hrc3 hrh3⊢;have m5:=(N6 HA.l0).c5;obtain⟨n,hn⟩:∃n,n=max m.locals given.length:=⟨_,rfl⟩
 have HNm:=A0 hn;clear hn hg1 hg2 hrc hrh b1 hb1;obtain⟨inf,hi0,hz0,hz1,hz2⟩:=info_parts a7r;have HW3:=A0 HA;have hMLb:=HML.out;refine a6e (fun a' W=>∃g,(∃t':Nat→Value,a'={tmps:= #[.pointer (some ⟨E.b,0,none⟩),t' 1,t' 2, .slice ga given.length gk,t' 4,t' 5,t' 6,t' 7, .string ow, .pointer (some ⟨w2.heap.size,0,none⟩),t' 10, .slice (some ⟨g,0,none⟩) n n,t' 12,t' 13,t' 14,t' 15,t' 16,t' 17,t' 18,t' 19,t' 20,t' 21,t' 22,t' 23,t' 24,t' 25,t' 26,t' 27,t' 28,t' 29,t' 30,t' 31,t' 32,t' 33,t' 34,undef,undef,undef,undef,undef,undef,undef,undef,undef,undef,undef,undef,undef,undef,undef,undef,undef],defers:=[]})∧W.ownsRow W3.heap.size 145 2 (.slice (some ⟨g,0,none⟩) n n) n (madeCells (Value.agg #[.int .i64 0, .int .i64 0]).cells (n*2)).toList∧W3.grownBy W none) ?h ?q
 case h=>
  by_cases hlt:m.locals<given.length
  ·have hn2:n=given.length:=by rw[HNm.out];omega
   have d1:=decide_eq_true hlt;have d2:max (m.locals:Int) (given.length:Int)=given.length:=(by omega);rw[hn2];clear hn2;go_wp2_with (at_make;go_loud (refine wpList_make_full _ rfl _ _ 134 rfl W3.heap.size 145 inf _ 2 underlying134 hi0 hz0 hz1 .i64 .i64 (given.length:Int) (given.length:Int) given.length rfl rfl rfl rfl (by rw[hz2];omega) (by unfold maxLen;omega) (Nat.le_refl _) ?_;intro w4 ho4 hg4;dsimp only))
   all_goals exact⟨_,a1t rfl,ho4,hg4⟩
  ·have hn2:n=m.locals:=by rw[HNm.out];omega
   have d1:=decide_eq_false hlt;have d2:max (m.locals:Int) (given.length:Int)=m.locals:=(by omega);rw[hn2];clear hn2;go_wp2_with (at_make;go_loud (refine wpList_make_full _ rfl _ _ 134 rfl W3.heap.size 145 inf _ 2 underlying134 hi0 hz0 hz1 .i64 .i64 (m.locals:Int) (m.locals:Int) m.locals rfl rfl rfl rfl (by rw[hz2];omega) (by unfold maxLen;omega) (Nat.le_refl _) ?_;intro w4 ho4 hg4;dsimp only))
   all_goals exact⟨_,a1t rfl,ho4,hg4⟩
 rintro _ W ⟨g,⟨t',rfl⟩,ho4,hg4⟩;have hn1:given.length≤n:=by rw[HNm.out];omega
 have hn0:=HML.out;obtain⟨cur,hcur,hcl⟩:=a8Z ho4
 have hcx:cur=(List.replicate n X9).flatMap H9:=by
  rw[←b2B];rcases ho4.2 with⟨e1,-⟩|⟨g',cap,cur',e1,-,hb,-,-,h5,h6⟩
  ·cases e1
  ·injection e1 with e1 _ _
   injection e1 with e1
   injection e1 with e1
   subst e1;rw[hb]at hcur;injection hcur with e2
   injection e2 with e2 _ _
   rw[←h6,e2];exact(List.take_of_length_le (by simp[hcl])).symm
 have hgl:=ho4.lt g rfl
 have hM4:=HW3.out.row hg4 (F8 E.base (.slice (some ⟨g,0,none⟩) n n) (List.replicate n X9)) (by
  show W.ownsRow _ _ _ _ _ _;rw[List.length_replicate,←b2B];exact P3 ho4 HW3.out.lw.1) (fun k hk=>ho4.lt k (E2.1 hk)) (a3O (.slice (some ⟨g,0,none⟩) n n))
 have hrg:=lrp hM4.l2;obtain⟨sg,gcap,e',-⟩:=hrg.form HG1.out;injection e' with e1 _ e3
 subst e1;subst e3;have HSrc:=A0 (fun j v hv=>hrg.cells (g:=sg) rfl j v hv);have HFit:Hid (0+(given.flatMap H9).length≤cur.length):=by show _≤_;rw[a4Y,hcl];omega
 have HOne:Hid (∀v∈given.flatMap H9,v.oneCell'=true):=fun v hv=>by
  obtain⟨t,-,ht⟩:=List.mem_flatMap.1 hv;simp only[H9,List.mem_cons,List.not_mem_nil,or_false]at ht;rcases ht with rfl|rfl<;>rfl
 have HLen:=A0 (a4Y given);have HMin:Hid (given.length=Nat.min given.length n):=(Nat.min_eq_left hn1).symm;have HCur:=A0 hcur;have HM4:Hid (_∧_∧_∧_):=⟨hM4,hcx,hcl,hn1⟩
 have HG4:=A0 hg4;have HGL:=A0 (Nat.le_trans (Nat.le_trans HW3.out.lw.2 HW3.out.lw.1) hgl.1);clear hrg hcur hcx hcl hn1 hgl ho4 hg4 hM4;go_upto_region 4 with(refine a7V rfl (.tmp 35) (.tmp 36) 134 134 rfl 145 2 underlying134 (by kernel_rfl) g 0 ⟨sg,0,none⟩ n n given.length gk rfl rfl cur 145 HCur (given.flatMap H9) given.length HMin.out HLen.out HSrc.out HFit.out HOne.out ?_;intro w5 HR5 hg5;dsimp only[goInt])
 obtain⟨hM4,hcx,hcl,hn1⟩:=HM4.out;have hn16:n≤1000:=by rw[HNm.out];omega
 obtain⟨l,hl⟩:∃l,l=given++List.replicate (m.locals-given.length) X9:=⟨_,rfl⟩
 have hll:l.length=n:=by rw[hl,List.length_append,List.length_replicate,HNm.out];omega
 have hsp:splice cur 0 (given.flatMap H9)=l.flatMap H9:=by
  have e1:m.locals-given.length=n-given.length:=by rw[HNm.out];omega
  unfold splice;rw[hl,e1,List.flatMap_append,List.take_zero,List.nil_append,Nat.zero_add,hcx,a4Y,c1D,List.drop_replicate]
 have hrow:w5.ownsRow E.base 145 2 (.slice (some ⟨g,0,none⟩) n n) n (l.flatMap H9):=by
  have hge:=(lrp hM4.l0).lt g rfl;have h5:=HR5.out;rw[hsp]at h5;exact a8P h5 (by rw[a4Y,hll]) (List.take_of_length_le (by rw[a4Y,hll];exact Nat.le_refl _)) hge.1 (by unfold maxLen;omega)
 have HM5:Hid (Mc E W0 S0 w5 fps s st (F8 E.base (.slice (some ⟨g,0,none⟩) n n) l::F4 w2.heap.size (mV m pa pk ca ck ha hk) 102::F8 E.base (.slice (some ⟨sg,0,none⟩) given.length gk) given::loc)):=
  Mc.turn (l1:=[_]) (l2:=[_]) hM4 (W':=w5) (E8.one hg5 (by simp[F8,C2,Value.ownBlock]) (fun k hk=> .inl (by simpa[F8]using hk))) (fun e he=>by
   rw[List.mem_singleton.1 he];show w5.ownsRow _ _ _ _ _ _;rw[hll];exact hrow) (fun k hk=>by simp[F8,C2,Value.ownBlock]at hk;rw[hk];exact(hrow.lt g rfl).2) (by simp[F8,C2,Value.ownBlock])
 have HFR2:Hid (fr=⟨ow,m,0,[],l⟩):=by rw[HFR.out,hl];exact rfl
 have hW35:Below E.lim W3 w5:=⟨hg5.os.trans HG4.out.os,hg5.tape.trans HG4.out.tape,hg5.output.trans HG4.out.output,Nat.le_trans HG4.out.size hg5.size,fun k hk=>(hg5.block k (Nat.lt_of_lt_of_le (Nat.lt_of_lt_of_le hk (Nat.le_trans HW3.out.lw.2 HW3.out.lw.1)) HG4.out.size) (fun e=>by have e:=Option.some.inj e;have:=HGL.out;subst e;omega)).trans (HG4.out.block k (Nat.lt_of_lt_of_le hk (Nat.le_trans HW3.out.lw.2 HW3.out.lw.1)) (by simp))⟩
 have hrd:∀{α:Type} {enc:α→List Value} {a:Option Addr} {xs:List α},B8 W3 E.lim 4 enc a xs→B8 w5 E.lim 4 enc a xs:=fun hr j hj=>by
  obtain⟨p,h1,h2,h3⟩:=hr j hj;exact⟨p,h1,h2,fun k u hu=>(hW35.cell (by rw[U9];omega)).trans (h3 k u hu)⟩
 have HRC:Hid (B8 w5 E.lim 4 T3 ca m.code∧B8 w5 E.lim 4 T4 ha m.handlers):=⟨hrd hrc3,hrd hrh3⟩
 obtain⟨y,hy,hY⟩:=HM5.out;obtain⟨fa,fk,hfv⟩:=F0 hY.mac.frs;obtain⟨N,hN⟩:∃N,N=s.fr.length:=⟨_,rfl⟩
 rw[←hN]at hfv
 have HOw:Hid (w5.ownsRow E.base 210 1 (.slice fa N fk) N (y.fr.reverse.flatMap a1s)):=by
  have:=hY.mac.frs;rw[hfv,←hN]at this;exact this
 have HBb:Hid (A3 w5 E.b (a3n E.cb E.fast y s st) 209):=by rw[←hY.bb];exact hY.mac.blk
 have c4:w5.cell? ⟨E.b,4,none⟩=some (.slice fa N fk):=by rw[←hfv];exact HBb.out.cell 4 _ rfl
 have e4:=HBb.out.frozen 4;have hne:=I4 HOw.out HBb.out (by decide);have hwl:=HBb.out.lt;have hN16:N≤1000:=by rw[hN];exact HML.out.2.2
 have hbW:=HM5.out.lw.1;obtain⟨q0,q1,q2,q3,q4,q5,q6,q7⟩:=(N6 HM5.out.l1).q8;obtain⟨infp,pi0,pz0,pz1,pz2⟩:=info_parts c1s;have HY:Hid (i9 E W0 S0 w5 y s st (F8 E.base (.slice (some ⟨g,0,none⟩) n n) l::F4 w2.heap.size (mV m pa pk ca ck ha hk) 102::F8 E.base (.slice (some ⟨sg,0,none⟩) given.length gk) given::loc)∧y.fr.map D9.fp=fps∧N=s.fr.length∧y.fv= .slice fa N fk∧l.length=n):=⟨hY,hy,hN,hfv,hll⟩
 have c4a:∀o,(w5.drew.alloc o).cell? ⟨E.b,4,none⟩=some (.slice fa N fk):=fun o=>(A1 (B6 _ _) (A2 _ _ none)).cell c4 (by simp)
 have c4b:∀o o2,((w5.drew.alloc o).alloc o2).cell? ⟨E.b,4,none⟩=some (.slice fa N fk):=fun o o2=>(A1 (A1 (B6 _ _) (A2 _ _ none)) (A2 _ _ none)).cell c4 (by simp)
 have z4b:=fun o o2=>((A2 (w5.drew.alloc o) o2 none).frozen_far ⟨E.b,4,none⟩ (by simp;omega) (by simp)).trans (((A2 w5.drew o none).frozen_far ⟨E.b,4,none⟩ hwl (by simp)).trans e4)
 clear hY hy hN hfv hM4 hcx hcl hn1 hl hsp hrow hW35 hrd hll hrc3 hrh3 m5 HA hgA
 have HNC:Hid (∀jj u,[Value.pointer (some ⟨w5.heap.size,0,none⟩)][jj]? =some u→((w5.drew.alloc (.cells #[.string ow, .string m.name, .slice pa m.params.length pk, .int .i64 m.ret.kind, .string m.ret.name, .int .i64 m.stack, .int .i64 m.locals, .slice ca m.code.length ck, .slice ha m.handlers.length hk, .int .i64 0, .slice none 0 0, .slice (some ⟨g,0,none⟩) n n] 212)).alloc (.cells #[.pointer (some ⟨w5.heap.size,0,none⟩)] 210)).cell? ((⟨w5.heap.size+1,0,none⟩:Addr).add jj)=some u):=fun jj u hu=>by
  have:=S6 (w5.drew.alloc (.cells #[.string ow, .string m.name, .slice pa m.params.length pk, .int .i64 m.ret.kind, .string m.ret.name, .int .i64 m.stack, .int .i64 m.locals, .slice ca m.code.length ck, .slice ha m.handlers.length hk, .int .i64 0, .slice none 0 0, .slice (some ⟨g,0,none⟩) n n] 212)) [.pointer (some ⟨w5.heap.size,0,none⟩)] 210 jj u hu;have e:(w5.drew.alloc (.cells #[.string ow, .string m.name, .slice pa m.params.length pk, .int .i64 m.ret.kind, .string m.ret.name, .int .i64 m.stack, .int .i64 m.locals, .slice ca m.code.length ck, .slice ha m.handlers.length hk, .int .i64 0, .slice none 0 0, .slice (some ⟨g,0,none⟩) n n] 212)).heap.size=w5.heap.size+1:=by simp
  rw[e]at this;exact this
 go_region_law (refine step_append_lies _ rfl _ _ 207 rfl E.base 210 infp _ 1 8 underlying207 pi0 pz0 pz1 pz2 rfl (by decide) _ N (y.fr.reverse.flatMap a1s) rfl (((World.ownsRow.drew HOw.out).alloc _).alloc _) ⟨w5.heap.size+1,0,none⟩ 1 1 [.pointer (some ⟨w5.heap.size,0,none⟩)] rfl rfl HNC.out (by simp[Value.oneCell']) (by omega) (by unfold maxLen;omega) (by omega) (by simp;omega) _ rfl ?_
                intro g7 cap w7 hown7 hgrow7 hat7 hlt7;have c7:=(hgrow7.cell_far ⟨E.b,4,none⟩ (by simp;omega) (fun e=>hne e.symm)).trans (c4b _ _);have f7:=(hgrow7.frozen_far ⟨E.b,4,none⟩ (by simp;omega) (fun e=>hne e.symm)).trans (z4b _ _))
 all_goals
  obtain⟨hY,hy,hN,hfv,hll⟩:=HY.out;have hY7:i9 E W0 S0 ((w5.drew.alloc (.cells #[.string ow, .string m.name, .slice pa m.params.length pk, .int .i64 m.ret.kind, .string m.ret.name, .int .i64 m.stack, .int .i64 m.locals, .slice ca m.code.length ck, .slice ha m.handlers.length hk, .int .i64 0, .slice none 0 0, .slice (some ⟨g,0,none⟩) n n] 212)).alloc (.cells #[.pointer (some ⟨w5.heap.size,0,none⟩)] 210)) y s st ([F4 w5.heap.size #[.string ow, .string m.name, .slice pa m.params.length pk, .int .i64 m.ret.kind, .string m.ret.name, .int .i64 m.stack, .int .i64 m.locals, .slice ca m.code.length ck, .slice ha m.handlers.length hk, .int .i64 0, .slice none 0 0, .slice (some ⟨g,0,none⟩) n n] 212,F8 E.base (.slice (some ⟨g,0,none⟩) n n) l]++(F4 w2.heap.size (mV m pa pk ca ck ha hk) 102::F8 E.base (.slice (some ⟨sg,0,none⟩) given.length gk) given::loc)):=((hY.keep (B6 w5 none)).alloc #[.string ow, .string m.name, .slice pa m.params.length pk, .int .i64 m.ret.kind, .string m.ret.name, .int .i64 m.stack, .int .i64 m.locals, .slice ca m.code.length ck, .slice ha m.handlers.length hk, .int .i64 0, .slice none 0 0, .slice (some ⟨g,0,none⟩) n n] 212).keep (A2 _ _ none);have hgE:=A1 (A1 (B6 w5 none) (A2 w5.drew (.cells #[.string ow, .string m.name, .slice pa m.params.length pk, .int .i64 m.ret.kind, .string m.ret.name, .int .i64 m.stack, .int .i64 m.locals, .slice ca m.code.length ck, .slice ha m.handlers.length hk, .int .i64 0, .slice none 0 0, .slice (some ⟨g,0,none⟩) n n] 212) none)) (A2 (w5.drew.alloc (.cells #[.string ow, .string m.name, .slice pa m.params.length pk, .int .i64 m.ret.kind, .string m.ret.name, .int .i64 m.stack, .int .i64 m.locals, .slice ca m.code.length ck, .slice ha m.handlers.length hk, .int .i64 0, .slice none 0 0, .slice (some ⟨g,0,none⟩) n n] 212)) (.cells #[.pointer (some ⟨w5.heap.size,0,none⟩)] 210) none)
  have hF:M1 ((w5.drew.alloc (.cells #[.string ow, .string m.name, .slice pa m.params.length pk, .int .i64 m.ret.kind, .string m.ret.name, .int .i64 m.stack, .int .i64 m.locals, .slice ca m.code.length ck, .slice ha m.handlers.length hk, .int .i64 0, .slice none 0 0, .slice (some ⟨g,0,none⟩) n n] 212)).alloc (.cells #[.pointer (some ⟨w5.heap.size,0,none⟩)] 210)) E.lim E.base ⟨w5.heap.size,pa,ca,ha,pk,ck,hk, .slice none 0 0, .slice (some ⟨g,0,none⟩) n n⟩ ⟨ow,m,0,[],l⟩:=
   ⟨(hY7.lc (F4 w5.heap.size #[.string ow, .string m.name, .slice pa m.params.length pk, .int .i64 m.ret.kind, .string m.ret.name, .int .i64 m.stack, .int .i64 m.locals, .slice ca m.code.length ck, .slice ha m.handlers.length hk, .int .i64 0, .slice none 0 0, .slice (some ⟨g,0,none⟩) n n] 212) (by simp)).1,hbW,World.ownsRow_nil _ _ _ _,(hY7.lc (F8 E.base (.slice (some ⟨g,0,none⟩) n n) l) (by simp)).1,(fun k e=>by cases e),(by simp),(by simp),B8.keep HRC.out.1 hgE,B8.keep HRC.out.2 hgE⟩
  have hfin:=hY7.growF (l1:=[_,_]) (x:=⟨w5.heap.size,pa,ca,ha,pk,ck,hk, .slice none 0 0, .slice (some ⟨g,0,none⟩) n n⟩) (f:=⟨ow,m,0,[],l⟩) (v:= .slice (some ⟨g7,0,none⟩) (N+1) cap) hgrow7 (fun k e=>by rw[hfv];exact e) (by
   rw[←hN,List.reverse_cons,List.flatMap_append];exact hown7) (fun k e=>by
   have e:g7=k:=Option.some.inj e;subst e;rw[hfv];rcases hat7 with h1|h1
   ·exact .inl h1
   ·exact .inr (by rw[h1];exact Nat.le_refl _)) hF (fun k hk=>by
   simp only[D9.ids,List.mem_cons,List.mem_append]at hk;rcases hk with h1|h1|h1
   ·simp[F4,h1]
   ·simp[C2,Value.ownBlock]at h1
   ·simp[F8,h1]) (W':=w7.setCell ⟨E.b,4,none⟩ (.slice (some ⟨g7,0,none⟩) (N+1) cap)) rfl
  rw[hy]at hfin;have HF:Hid (Mc E W0 S0 (w7.setCell ⟨E.b,4,none⟩ (.slice (some ⟨g7,0,none⟩) (N+1) cap)) (w5.heap.size::fps) {s with fr:=⟨ow,m,0,[],l⟩::s.fr} st (F8 E.base (.slice (some ⟨sg,0,none⟩) given.length gk) given::loc)):=hfin.drop1;clear hY7 hF hfin hY hy hN hfv hll hgE;go_end0;rw[HFR2.out];exact⟨rfl,_,HF.out⟩
end
section
variable{E:En}{W0:World}{S0:List Nat}{loc:List Lo}{fp:Nat}{fps:List Nat}{s:Ms}{st:Nat}{f:Fm}{fs:List Fm}
end
section
variable{E:En}{W0:World}{S0:List Nat}{loc:List Lo}{fp:Nat}{fps:List Nat}{s:Ms}{st:Nat}{f:Fm}{fs:List Fm}
end
end Kx
theorem V6{P:Program}{ops:Array Oper}{Q:Exit→Act→World→Prop}{md:Region.Mode}{S:World→Prop}(i:Nat){oi:Oper}{fuel:Nat}{listed:Array Bool}{a:Act}{w:World}{G:Prop}(g:G)(h7:S w:=by assumption)
 (h1:ops[i]? =some oi:=by rfl) (h2:Region.noSelect ops=true:=by kernel_rfl) (h3:Region.free md ops listed i=true:=by kernel_rfl) (h4:(Region.ready md ops listed).contains i=true:=by kernel_rfl)
 (h5:∀(c:List PanicEntry) (a:Act) (w:World),Q (Exit.panic c) (a.put oi.dst undef) w→Q (Exit.panic c) a w:=by exact fun _ _ _ h=>h)
 (hv:YieldsIf P ops S oi undef a:=by exact Or.inr ⟨by rfl,rfl⟩)
 (k:G→wpAnyH P md ops Q S fuel (listed.setIfInBounds i true) (a.put oi.dst undef) w:=by(intro k;(try simp only[Act.put,lz]);exact k)):wpAnyH P md ops Q S (fuel+1) listed a w:=
 wpAnyH_take h1 h2 h3 h4 h5 hv h7 (k g)
namespace Kx
section
variable{E:En}{W0:World}{S0:List Nat}{loc:List Lo}{fp:Nat}{fps:List Nat}{s:Ms}{st:Nat}{f:Fm}{fs:List Fm}
end
section
variable{E:En}{W0:World}{S0:List Nat}{loc:List Lo}{fp:Nat}{fps:List Nat}{s:Ms}{st:Nat}{f:Fm}{fs:List Fm}
end
section
variable{E:En}{W0:World}{S0:List Nat}{loc:List Lo}{fp:Nat}{fps:List Nat}{s:Ms}{st:Nat}{f:Fm}{fs:List Fm}
end
section
variable{E:En}{W0:World}{S0:List Nat}{loc:List Lo}{fp:Nat}{fps:List Nat}{s:Ms}{st:Nat}{f:Fm}{fs:List Fm}
theorem w_2(w:World)(h:Hid (Mc E W0 S0 w (fp::fps) s st loc))(hs:s.fr=f::fs)(ia:Int)(cs ms:ByteArray)(k:Nat)(hia:ia=k)(hk:k<f.locals.length)(hns:f.stack.length<1000):
 Calls prog 237 #[.pointer (some ⟨E.b,0,none⟩), .pointer (some ⟨fp,0,none⟩), .agg #[.int .i64 2, .int .i64 ia, .string cs, .string ms]] w fun e w'=>e= .returned (.int .i64 (0))∧Mc E W0 S0 w' (fp::fps) {s with fr:=V1 f (f.locals.getD k X9)::fs} st loc:=by
 subst hia;obtain⟨z,hz⟩:∃z,z=f.locals.getD k X9:=⟨_,rfl⟩
 rw[←hz];obtain⟨x,hx,hbk,-,-,-,-,hlo,-⟩:=h.out.fb hs;have c11:w.cell? ⟨fp,11,none⟩=some x.lv:=hbk.cell 11 _ rfl;obtain⟨la,lk,hlv⟩:=F0 hlo;rw[hlv]at hlo c11;obtain⟨q,rfl,q0,q1⟩:=b2Z hlo hk;have hzk:f.locals[k]=z:=by rw[hz];simp[hk]
 rw[hzk]at q0 q1;have HU:=A0 (fun W loc' (hW:Mc E W0 S0 W (fp::fps) s st loc')=>a9M W hW hs hns z);have hb:(0:Int)≤k∧(k:Int)<f.locals.length:=by omega
 clear hz hns hs hlv hbk hx hzk hlo;clear hk;generalize f.locals.length=nl at c11 hb;have H0:Hid (Mc E W0 S0 w (fp::fps) s st loc):=h;clear h;go_enter func237,ntmps237;go_upto_region 1 with fail
 have HA:=H0.out.alloc #[.int .i64 2, .int .i64 (k:Int), .string cs, .string ms] 120;have hgw:=A2 w (.cells #[.int .i64 2, .int .i64 (k:Int), .string cs, .string ms] 120) none;generalize w.alloc (.cells #[.int .i64 2, .int .i64 (k:Int), .string cs, .string ms] 120)=W1 at HA hgw⊢;obtain⟨i0,i1,i2,i3⟩:=(N6 HA.l0).q4;have HAh:=A0 HA;have m0:=HA.b0;clear HA;go_upto_region 8 with fail
 have hgd:=B6 W1 none;have h11:=(A1 hgw hgd).cell c11 A5;have r0:=(A1 hgw hgd).cell q0 A5;have r1:=(A1 hgw hgd).cell q1 A5;refine wp_region_held_drew (S:=fun W=>W.cell? ⟨w.heap.size,1,none⟩=some (.int .i64 (k:Int))) (by kernel_rfl) (hgd.cell i1 A5) (fun hHeld=> ?_);have HM1:=A0 (HAh.out.keep hgd);generalize W1.drew=W2 at h11 r0 r1 hHeld HM1⊢;clear c11 q0 q1 hgw hgd i0 i1 i2 i3 m0 HAh;refine A4 0 ?_;refine A4 1 ?_;refine A4 2 ?_;refine A4 3 ?_;refine A4 5 ?_;refine A4 6 (v:= .int .i64 (k:Int)) ?_;refine T6 4 fun K' hK=> ?_
 go_simp
 refine hK.out _ _ hHeld (fun _=> ?_);clear hK;refine A4 7 (v:= .pointer (some ⟨q,k*2,none⟩)) ?_;refine T6 8 fun K' hK=> ?_
 go_simp
 refine hK.out _ _ hHeld (fun _=> ?_);clear hK;refine T6 9 fun K' hK=> ?_
 go_simp
 go_wp2_with (go_at_call 302;refine(HU.out _ _ HM1.out).mono ?_;rintro e w4 ⟨rfl,hM4⟩)
 refine hK.out _ _ ((N6 hM4.l0).cell 1 _ rfl) (fun hHeld=> ?_);clear hK;refine wpAnyH_done (by kernel_rfl) ?_ _;have HM5:=A0 hM4.drop1;clear hM4;go_wp2_with fail
 all_goals
  refine bodyPost_ret (v:= .int .i64 0) (by simp[results,results237,go_sem]) rfl ?_;exact⟨rfl,HM5.out⟩
end
section
variable{E:En}{W0:World}{S0:List Nat}{loc:List Lo}{fps:List Nat}{s:Ms}{st:Nat}{W W':World}
end
section
variable{E:En}{W0:World}{S0:List Nat}{loc:List Lo}{fp:Nat}{fps:List Nat}{s:Ms}{st:Nat}{f:Fm}{fs:List Fm}
end
section
variable{E:En}{W0:World}{S0:List Nat}{loc:List Lo}{fp:Nat}{fps:List Nat}{s:Ms}{st:Nat}{f:Fm}{fs:List Fm}
end
section
variable{E:En}{W0:World}{S0:List Nat}{loc:List Lo}{fp:Nat}{fps:List Nat}{s:Ms}{st:Nat}{f:Fm}{fs:List Fm}
end
section
variable{E:En}{W0:World}{S0:List Nat}{loc:List Lo}{fp:Nat}{fps:List Nat}{s:Ms}{st:Nat}{f:Fm}{fs:List Fm}
theorem b8O(fast:Bool)(l:List Cl)(s:Ms)(f:Fm)(fs:List Fm)(i:In):∃f',(a2a fast l s f fs i).1.fr=f'::fs∧f'.at_=f.at_:=by
 have hP:∀{c:Prop} [Decidable c] {a b:Ms×Nat},(∃f',a.1.fr=f'::fs∧f'.at_=f.at_)→(∃f',b.1.fr=f'::fs∧f'.at_=f.at_)→∃f',(if c then a else b).1.fr=f'::fs∧f'.at_=f.at_:=fun{c} _ {a b} h1 h2=>by
  by_cases h:c
  ·rw[if_pos h];exact h1
  ·rw[if_neg h];exact h2
 unfold a2a;dsimp only;repeat' (refine hP ?_ ?_)
 all_goals first
  |exact⟨_,rfl,rfl⟩
  |(split<;>exact⟨_,rfl,rfl⟩)
theorem c0s(fast:Bool)(l:List Cl)(s:Ms)(f:Fm)(fs:List Fm)(i:In)(ho:¬(12≤i.op∧i.op≤15)∧i.op≠19∧i.op≠20∧i.op≠30):M8 fast l s f fs i=(if(a2a fast l s f fs i).2=0 then({(a2a fast l s f fs i).1 with fr:=match (a2a fast l s f fs i).1.fr with| []=> []|g::gs=>atF g (g.at_+1)::gs},0)else a2a fast l s f fs i):=by
 unfold M8;dsimp only;rw[if_neg (by omega),if_neg (by omega),if_neg (by omega),if_neg (by omega),if_neg ho.2.1,if_neg ho.2.2.1,if_neg ho.2.2.2];rfl
theorem c3T(w:World)(h:Hid (Mc E W0 S0 w (fp::fps) s st loc))(hs:s.fr=f::fs)(ia:Int)(cs ms:ByteArray)(r:Ms)(HX:Hid (∀W loc',Mc E W0 S0 W (fp::fps) s st loc'→Calls prog 234 #[.pointer (some ⟨E.b,0,none⟩), .pointer (some ⟨fp,0,none⟩)] W fun e w'=>e= .returned (.tuple #[])∧Mc E W0 S0 w' fps r st loc')):
 Calls prog 155 #[.pointer (some ⟨E.b,0,none⟩), .pointer (some ⟨fp,0,none⟩), .agg #[.int .i64 20, .int .i64 ia, .string cs, .string ms]] w fun e w'=>e= .returned (.int .i64 (0))∧Mc E W0 S0 w' fps r st loc:=by
 clear hs;have H0:Hid (Mc E W0 S0 w (fp::fps) s st loc):=h;clear h;go_enter func155,ntmps155;go_upto_region 1 with fail
 have HA:=H0.out.alloc #[.int .i64 20, .int .i64 ia, .string cs, .string ms] 120;generalize w.alloc (.cells #[.int .i64 20, .int .i64 ia, .string cs, .string ms] 120)=W1 at HA⊢;obtain⟨i0,i1,i2,i3⟩:=(N6 HA.l0).q4;have HAh:=A0 HA;clear HA H0;go_wp2_with (go_at_call 234;refine(HX.out _ _ HAh.out).mono ?_;rintro e w4 ⟨rfl,hM4⟩)
 all_goals
  refine bodyPost_ret (v:= .int .i64 0) (by simp[results,results155,go_sem]) rfl ?_;exact⟨rfl,hM4.drop1⟩
theorem c1E(w:World)(h:Hid (Mc E W0 S0 w (fp::fps) s st loc))(hs:s.fr=f::fs)(op:Nat)(ia:Int)(cs ms:ByteArray)(ho:¬(12≤op∧op≤15)∧op≠19∧op≠20∧op≠30)(r:Ms×Nat)(f2:Fm)(hr2:r.1.fr=f2::fs)(hat:f2.at_≤65535)(HX:Hid (∀W loc',Mc E W0 S0 W (fp::fps) s st loc'→Calls prog 237 #[.pointer (some ⟨E.b,0,none⟩), .pointer (some ⟨fp,0,none⟩), .agg #[.int .i64 (op:Int), .int .i64 ia, .string cs, .string ms]] W fun e w'=>e= .returned (.int .i64 (r.2:Int))∧Mc E W0 S0 w' (fp::fps) r.1 st loc')):
 Calls prog 155 #[.pointer (some ⟨E.b,0,none⟩), .pointer (some ⟨fp,0,none⟩), .agg #[.int .i64 (op:Int), .int .i64 ia, .string cs, .string ms]] w fun e w'=>e= .returned (.int .i64 (r.2))∧Mc E W0 S0 w' (fp::fps) (if r.2=0 then{r.1 with fr:=atF f2 (f2.at_+1)::fs}else r.1) st loc:=by
 obtain⟨r1,r2⟩:=r;dsimp only at HX hr2⊢;have n12:((op:Int)==12)=false:=by simp;omega
 have n13:((op:Int)==13)=false:=by simp;omega
 have n14:((op:Int)==14)=false:=by simp;omega
 have n15:((op:Int)==15)=false:=by simp;omega
 have n19:((op:Int)==19)=false:=by simp;omega
 have n20:((op:Int)==20)=false:=by simp;omega
 have n30:((op:Int)==30)=false:=by simp;omega
 have HR2:Hid (r1.fr=f2::fs∧f2.at_≤65535):=⟨hr2,hat⟩
 clear hs ho hr2 hat;by_cases h0:r2=0
 ·subst h0;rw[if_pos rfl];have H0:Hid (Mc E W0 S0 w (fp::fps) s st loc):=h;clear h;go_enter func155,ntmps155;go_upto_region 1 with fail
  have HA:=H0.out.alloc #[.int .i64 (op:Int), .int .i64 ia, .string cs, .string ms] 120;generalize w.alloc (.cells #[.int .i64 (op:Int), .int .i64 ia, .string cs, .string ms] 120)=W1 at HA⊢;obtain⟨i0,i1,i2,i3⟩:=(N6 HA.l0).q4;have HAh:=A0 HA;clear HA H0;go_upto_region 16 with(go_at_call 237;refine(HX.out _ _ HAh.out).mono ?_;rintro e w4 ⟨rfl,hM4⟩)
  have HM4:=A0 hM4;obtain⟨x6,hx6,hbk6,-⟩:=hM4.fb HR2.out.1;have c9:=hbk6.c9;have e9:=hbk6.frozen 9;have hw9:IntKind.i64.wrap ((f2.at_:Int)+1)=((f2.at_+1:Nat):Int):=by have:=HR2.out.2;exact IntWalk.i64_in _ (by omega)
  have HM7:Hid (Mc E W0 S0 (w4.setCell ⟨fp,9,none⟩ (.int .i64 ((f2.at_+1:Nat):Int))) (fp::fps) {r1 with fr:=atF f2 (f2.at_+1)::fs} st loc):=(HM4.out.atT HR2.out.1 (by have:=HR2.out.2;omega)).drop1;clear hbk6 hM4 i0 i1 i2 i3;go_wp2_with fail
  all_goals
   refine bodyPost_ret (v:= .int .i64 0) (by simp[results,results155,go_sem]) rfl ?_;exact⟨rfl,HM7.out⟩
 ·rw[if_neg h0];have k0:((r2:Int)==0)=false:=by simp;omega
  clear h0;have H0:Hid (Mc E W0 S0 w (fp::fps) s st loc):=h;clear h;go_enter func155,ntmps155;go_upto_region 1 with fail
  have HA:=H0.out.alloc #[.int .i64 (op:Int), .int .i64 ia, .string cs, .string ms] 120;generalize w.alloc (.cells #[.int .i64 (op:Int), .int .i64 ia, .string cs, .string ms] 120)=W1 at HA⊢;obtain⟨i0,i1,i2,i3⟩:=(N6 HA.l0).q4;have HAh:=A0 HA;clear HA H0;go_wp2_with (go_at_call 237;refine(HX.out _ _ HAh.out).mono ?_;rintro e w4 ⟨rfl,hM4⟩)
  all_goals
   refine bodyPost_ret (v:= .int .i64 (r2:Int)) (by simp[results,results155,go_sem]) rfl ?_;exact⟨rfl,hM4.drop1⟩
theorem c3R(w:World)(h:Hid (Mc E W0 S0 w (fp::fps) s st loc))(hs:s.fr=f::fs)(i:In)(ho:¬(12≤i.op∧i.op≤15)∧i.op≠19∧i.op≠20∧i.op≠30)(ha:f.at_≤65535)(HX:Hid (∀W loc',Mc E W0 S0 W (fp::fps) s st loc'→Calls prog 237 #[.pointer (some ⟨E.b,0,none⟩), .pointer (some ⟨fp,0,none⟩), .agg #[.int .i64 (i.op:Int), .int .i64 i.a, .string i.cls, .string i.mem]] W fun e w'=>e= .returned (.int .i64 ((a2a E.fast E.L s f fs i).2:Int))∧Mc E W0 S0 w' (fp::fps) (a2a E.fast E.L s f fs i).1 st loc')):
 Calls prog 155 #[.pointer (some ⟨E.b,0,none⟩), .pointer (some ⟨fp,0,none⟩), .agg #[.int .i64 (i.op:Int), .int .i64 i.a, .string i.cls, .string i.mem]] w fun e w'=>e= .returned (.int .i64 (((M8 E.fast E.L s f fs i).2:Int)))∧∃fps',Mc E W0 S0 w' fps' (M8 E.fast E.L s f fs i).1 st loc:=by
 rw[c0s _ _ _ _ _ _ ho];obtain⟨f2,hf2,hfa⟩:=b8O E.fast E.L s f fs i;generalize a2a E.fast E.L s f fs i=r at HX hf2⊢;have hat:f2.at_≤65535:=by rw[hfa];exact ha
 obtain⟨op,ia,cs,ms⟩:=i;dsimp only at HX ho⊢;refine(c1E w h hs op ia cs ms ho r f2 hf2 hat HX).mono (fun e w' h'=> ?_);by_cases h0:r.2=0
 ·rw[if_pos h0]at h'⊢;rw[hf2];exact⟨by rw[h'.1,h0],_,h'.2⟩
 ·rw[if_neg h0]at h'⊢;exact⟨h'.1,_,h'.2⟩
theorem c3S(w:World)(h:Hid (Mc E W0 S0 w (fp::fps) s st loc))(hs:s.fr=f::fs)(i:In)(h20:i.op=20)(HX:Hid (∀W loc',Mc E W0 S0 W (fp::fps) s st loc'→Calls prog 234 #[.pointer (some ⟨E.b,0,none⟩), .pointer (some ⟨fp,0,none⟩)] W fun e w'=>e= .returned (.tuple #[])∧Mc E W0 S0 w' fps (a2i s f fs) st loc')):
 Calls prog 155 #[.pointer (some ⟨E.b,0,none⟩), .pointer (some ⟨fp,0,none⟩), .agg #[.int .i64 (i.op:Int), .int .i64 i.a, .string i.cls, .string i.mem]] w fun e w'=>e= .returned (.int .i64 (((M8 E.fast E.L s f fs i).2:Int)))∧∃fps',Mc E W0 S0 w' fps' (M8 E.fast E.L s f fs i).1 st loc:=by
 have e20:M8 E.fast E.L s f fs i=(a2i s f fs,0):=by unfold M8;dsimp only;rw[h20];rfl
 rw[e20];generalize a2i s f fs=r at HX⊢;obtain⟨op,ia,cs,ms⟩:=i;dsimp only at h20 HX⊢;subst h20;exact(c3T w h hs ia cs ms r HX).mono (fun e w' h'=>⟨h'.1,_,h'.2⟩)
end
theorem b5V(w:World)(lim b:Nat)(L:List Cl)(p:Addr)(cap m1 m2 m3:Nat)(q:Nat→Qs)(h:Hid (Lk w lim b L p cap m1 m2 m3 q))(hl:lim≤w.heap.size)(m:Me)(pa ca ha:Option Addr)(pk ck hk:Nat)(i:In)(hi:a1D L i)(hp:Option Addr)(fv:Value)(hfv:fv= .func (.func 231) #[.pointer hp] #[])(ty:Wd→Ty)(xs ys:List (Wd))(sa la:Option Addr)(sk lk:Nat)(l2:Nat)(hl2:l2≤w.heap.size)(hs:Hid (B8 w l2 2 H9 sa xs))(hly:Hid (B8 w l2 2 H9 la ys))
 (hsn:xs.length≤1000) (hyn:ys.length≤1000) (hsk:xs.length≤sk) (hsl:xs.length≤m.stack) (hms:m.stack≤1000) (hml:m.locals≤1000)
 (HTO:Hid (∀x,x∈xs∨x∈ys→(ty x).name.size≤maxLen∧((ty x).kind=5→(ty x).name=⟨#[]⟩)∧∀W,w.grownBy W none→Calls prog 231 #[.pointer hp, .agg #[.int .i64 ((x).tag:Int), .int .i64 (x).v]] W fun e w'=>e= .returned (.agg #[.int .i64 (ty x).kind, .string (ty x).name])∧W.grownBy w' none)) (hop2:i.op=2→i.a.toNat<ys.length):
 Calls prog 230 #[.pointer (some ⟨b,0,none⟩), .agg (mV m pa pk ca ck ha hk), .agg #[.int .i64 i.op, .int .i64 i.a, .string i.cls, .string i.mem], .slice sa xs.length sk, .slice la ys.length lk,fv] w fun e w'=>e= .returned (.bool (U1 L m i (xs.map ty) (ys.map ty)))∧w.grownBy w' none:=by
 subst hfv;have HG0:Hid (w.grownBy ((w.alloc (.cells (mV m pa pk ca ck ha hk) 102)).alloc (.cells #[.int .i64 i.op, .int .i64 i.a, .string i.cls, .string i.mem] 120)) none):=A1 (A2 _ _ _) (A2 _ _ _);have HE:=A0 (fun W hW=>a7Y W lim b L p cap m1 m2 m3 q (h.out.keep hW hl) (Nat.le_trans hl hW.size) m pa ca ha pk ck hk i hi.ok)
 have HU:Hid (∀W (s u:Ty),w.grownBy W none→s.name.size≤maxLen→Calls prog 295 #[.pointer (some ⟨b,0,none⟩), .agg #[.int .i64 s.kind, .string s.name], .agg #[.int .i64 u.kind, .string u.name]] W fun e w'=>e= .returned (.bool (D4 L s u))∧W.grownBy w' none):=
  fun W s u hg hs=>a8v W lim b L p cap m1 m2 m3 q (h.out.keep hg hl) (Nat.le_trans hl hg.size) s u hs
 have HF:Hid (∀W (tk:List Ty) (ta:Option Addr) (k:Nat),w.grownBy W none→Calls prog 296 #[.pointer (some ⟨b,0,none⟩), .agg #[.int .i64 i.op, .int .i64 i.a, .string i.cls, .string i.mem], .slice ta tk.length k] W fun e w'=>e= .returned (.bool (O6 L i tk))∧W.grownBy w' none):=
  fun W tk ta k hg=>b0f W lim b L p cap m1 m2 m3 q (h.out.keep hg hl) (Nat.le_trans hl hg.size) i tk ta k hi.ok.two
 have HMb:=A0 (fun W (hW:((w.alloc (.cells (mV m pa pk ca ck ha hk) 102)).alloc (.cells #[.int .i64 i.op, .int .i64 i.a, .string i.cls, .string i.mem] 120)).grownBy W none)=>((A3.new w (mV m pa pk ca ck ha hk) 102).keep (A2 _ _ none) A5).keep hW A5)
 have HIb:Hid (∀W,((w.alloc (.cells (mV m pa pk ca ck ha hk) 102)).alloc (.cells #[.int .i64 i.op, .int .i64 i.a, .string i.cls, .string i.mem] 120)).grownBy W none→A3 W (w.heap.size+1) #[.int .i64 i.op, .int .i64 i.a, .string i.cls, .string i.mem] 120):=fun W hW=>by
  exact c5m
 have htn:G8 L m i≤1001:=a8O hi;have hpn:M6 L i≤2:=a9q;have hend:U2 i=true→M6 L i=0:=a9e;have hoki:=hi.okin;unfold U1 a7z a2d;rw[List.length_map];obtain⟨TT,hTT⟩:∃TT,TT=F6 L m i:=⟨_,rfl⟩
 obtain⟨PP,hPP⟩:∃PP,PP=C6 L i:=⟨_,rfl⟩
 have htt:G8 L m i=TT.length:=by rw[hTT];rfl
 have hpp:M6 L i=PP.length:=by rw[hPP];rfl
 unfold a6s at HE;rw[←hTT,←hPP]at HE;rw[←hTT];rw[htt]at htn⊢;rw[hpp]at hpn hend⊢;clear hTT hPP htt hpp h hl hi;obtain⟨tn,htn0⟩:∃tn,tn=TT.length:=⟨_,rfl⟩
 obtain⟨pn,hpn0⟩:∃pn,pn=PP.length:=⟨_,rfl⟩
 have HTN:=A0 htn0;rw[←htn0]at htn HE⊢;rw[←hpn0]at hpn hend HE⊢;clear htn0 hpn0;obtain⟨n,hn0⟩:∃n,n=xs.length:=⟨_,rfl⟩
 have HN:=A0 hn0;rw[←hn0]at hsn hsk hsl⊢;clear hn0;obtain⟨eb,heb⟩:∃eb,eb=U2 i:=⟨_,rfl⟩
 rw[←heb]at hend HE;clear heb;have HPP:=A0 hend;clear hend;obtain⟨ans,hans⟩:∃ans,ans=(decide (tn≤n)&&decide (n-tn+pn≤m.stack)&&(if i.op=2 then decide (((ys.map ty).getD i.a.toNat B1).kind≠0)else Z1 L ((xs.map ty).drop (n-tn)) TT&&O6 L i ((xs.map ty).drop (n-tn)))):=⟨_,rfl⟩
 have HANS:=A0 hans;rw[←hans];clear hans;go_enter func230,ntmps230;have hqm:=(HMb.out _ (I8 _ _)).cell 4 _ rfl;go_wp2_with (go_at_call 197;refine(HE.out _ HG0.out).mono ?_)
 rintro e w1 ⟨hg1,v1,rfl,ta,tk,ua,uk,rfl,hot,hou⟩;have M4:=(HMb.out _ hg1).c4;have hv1:=(HIb.out _ hg1).lt;have hv0:=Nat.lt_of_succ_lt hv1;clear hqm;have HBH:=A0 (fun W=>a8s W ta ua tn tk pn uk n m.stack eb (by omega) (by omega) (by omega) (by omega));by_cases hroom:tn≤n∧n-tn+pn≤m.stack
 ·have hbv:∃bh,j8 tn pn n m.stack eb= .tuple #[bh, .bool true]:=by
   exact c6b
  obtain⟨bh,hbh⟩:=hbv;rw[hbh]at HBH;have hres:(decide (tn≤n)&&decide (n-tn+pn≤m.stack))=true:=by simp[hroom]
  clear hbh;have htle:=hroom.1;clear hroom;go_upto_region 5 with(go_at_call 275;refine(HBH.out _).mono ?_;rintro e w2 ⟨rfl,hg2⟩)
  have hW2:=A1 (A1 (A1 HG0.out hg1) (A2 _ _ _)) hg2;have HW2:=A0 hW2;have hgw:=A1 (A1 hg1 (A2 _ _ _)) hg2;have HGW:=A0 hgw;obtain⟨I0,I1⟩:=(HIb.out _ hgw).q2;by_cases h2:i.op=2
  ·have h2i:(i.op:Int)=2:=by omega
   obtain⟨k,hk⟩:∃k:Nat,i.a=(k:Int):=⟨i.a.toNat,by have:=hoki.2 (by omega);omega⟩
   have hkl:k<ys.length:=by have:=hop2 h2;rw[hk]at this;simpa using this
   obtain⟨pl,rfl,-,hcl⟩:=hly.out.keep hW2 k hkl;have L0:w2.cell? (pl.add (k*2))=some (.int .i64 ((ys[k]).tag:Int)):=hcl 0 _ rfl;have L1:w2.cell? ⟨(pl.add (k*2)).block,(pl.add (k*2)).off+1,none⟩=some (.int .i64 (ys[k]).v):=by rw[C0 pl (k*2) 0];exact hcl 1 _ rfl
   have hT:=(HTO.out (ys[k]) (.inr (List.getElem_mem hkl))).2.2;have HT:=A0 hT
   have hA:Hid (ans=decide ((ty (ys[k])).kind≠0)):=by
    unfold Hid;rw[HANS.out,hres,Bool.true_and,if_pos h2,hk];simp[hkl]
   have hkI:(k:Int)<(ys.length:Int):=by omega
   generalize ty (ys[k])=t at HT hA;generalize ys[k]=y at L0 L1 HT;obtain⟨y1,y2⟩:=y;dsimp only at L0 L1 HT;clear hcl hT hres h2 hop2 hoki;rw[hk]at I1;have hfd:=b2Q;by_cases hk0:(t.kind:Int)=0
   ·have hk0n:t.kind=0:=by omega
    obtain⟨tk0,tn0⟩:=t;dsimp only at hk0n;subst hk0n;clear hk0;go_wp2_with (go_at_call 231;refine(HT.out _ HW2.out).mono ?_;rintro e w3 ⟨rfl,hg3⟩)
    all_goals exact bodyPost_ret (v:= .bool false) (by simp[results,results230,go_sem]) rfl ⟨by rw[hA.out];simp,A1 HW2.out hg3⟩
   ·have hk0n:¬t.kind=0:=by omega
    go_wp2_with (go_at_call 231;refine(HT.out _ HW2.out).mono ?_;rintro e w3 ⟨rfl,hg3⟩)
    all_goals exact bodyPost_ret (v:= .bool true) (by simp[results,results230,go_sem,hk0,hk0n]) rfl ⟨by rw[hA.out];simp[hk0n],A1 HW2.out hg3⟩
  ·have h2i:¬(i.op:Int)=2:=by omega
   have h2b:((i.op:Int)==2)=false:=by simp[h2i]
   obtain⟨s,hs0⟩:∃s,s=n-tn:=⟨_,rfl⟩
   have hsI:(n:Int)-(tn:Int)=(s:Int):=by omega
   have hst:n-s=tn:=by omega
   have hsle:s≤n:=by omega
   have hskI:s≤sk:=by omega
   have HA:Hid (ans=(Z1 L ((xs.map ty).drop s) TT&&O6 L i ((xs.map ty).drop s))):=by
    unfold Hid;rw[HANS.out,hres,Bool.true_and,if_neg h2,hs0]
   have HSN:Hid (s+tn=xs.length):=by unfold Hid;rw[←HN.out];omega
   have hE:=(A3.new w1 #[.slice ta tn tk, .slice ua pn uk, .bool eb] 315).keep hg2 A5;have HEb:=A0 hE;have E0:=hE.c0;have hot2:=A0 ((hot.kept (A2 _ _ none) (by cases hv:(Value.slice ta tn tk).ownBlock<;>simp)).kept hg2 (by cases hv:(Value.slice ta tn tk).ownBlock<;>simp));clear hs0 hres hE hou hoki hop2 I1;cases sa with
   |none=>
    have hn0:n=0:=by
     exact c6p
    subst hn0;exact a1d
   |some p0=>
    by_cases hcap:sk=s
    ·have hcap':=hcap;exact a1d
    ·have hadd:∀j:Nat,(p0.add (s*2)).add (j*2)=p0.add ((s+j)*2):=fun j=>by rw[b2n,Nat.add_mul]
     have HX:Hid (∀W,w.grownBy W none→∀j (hj:s+j<xs.length),W.cell? ((p0.add (s*2)).add (j*2))=some (.int .i64 ((xs[s+j]).tag:Int))∧W.cell? ⟨((p0.add (s*2)).add (j*2)).block,((p0.add (s*2)).add (j*2)).off+1,none⟩=some (.int .i64 (xs[s+j]).v)):=fun W hW j hj=>by
      exact c6g
     clear hadd hs;obtain⟨inf,ii0,iz0,iz1,iz2⟩:=info_parts a5S;obtain⟨zt,hzt⟩:∃zt,zt=(xs.map ty).drop s:=⟨_,rfl⟩
     have hzl:zt.length=tn:=by rw[hzt,List.length_drop,List.length_map,←HSN.out];omega
     have HZL:=A0 hzl
     have HZ:Hid (∀r (hr:s+r<xs.length),zt.getD r B1=ty (xs[s+r])):=fun r hr=>by
      exact c6s
     have HZM:Hid (∀t∈zt,t.name.size≤maxLen∧(t.kind=5→t.name=⟨#[]⟩)):=fun t ht=>by
      exact c6j
     have HA2:Hid (ans=(Z1 L zt TT&&O6 L i zt)):=by unfold Hid;rw[HA.out,hzt]
     clear hzt HA hzl;go_wp2_with fail
     go_loopw [16,56] (fun tv c wr=>∃(j:Nat) (a':Option Addr) (k':Nat),c= .int .i64 j∧tv= .slice a' j k'∧j≤tn∧wr.ownsRow w2.heap.size 98 2 (.slice a' j k') j ((zt.take j).flatMap C9)∧(∀r,r<j→D4 L (zt.getD r B1) (TT.getD r B1)=true)∧w2.grownBy wr none) (fun _ c _=>tn-(intOf c).toNat)
     case atStart=>exact c6i
     case round=>
      obtain⟨j,a',k',rfl,rfl,hj,hown,hall,hgr⟩:=hrel;have HOWN:=A0 hown;have HALL:=A0 hall;have HG2:=A0 hgr;have HGR:=A0 (A1 HW2.out hgr);have E0r:=hgr.cell E0 A5;clear hown hall hgr E0;have E0:=E0r;clear E0r;by_cases hlt:j<tn
      ·have hjx:s+j<xs.length:=by rw[←HSN.out];omega
       have hX:=HX.out wr HGR.out j hjx;obtain⟨X0,X1⟩:=hX;have hTO:=HTO.out (xs[s+j]) (.inl (List.getElem_mem hjx));have HZJ:=A0 (HZ.out j hjx);obtain⟨xt,hxt⟩:∃xt,xt=ty (xs[s+j]):=⟨_,rfl⟩
       rw[←hxt]at hTO HZJ;have HTJ:=A0 hTO.2.2;have hxs:=hTO.1;clear hTO hxt;generalize xs[s+j]=x at X0 X1 HTJ;obtain⟨x1,x2⟩:=x;dsimp only at X0 X1 HTJ;obtain⟨gt,gcap,hgt,-,-⟩:=hot2.out.form (by omega);injection hgt with hgt hgt2 hgt3
       have hotr:=hot2.out.kept HG2.out (by cases hv:(Value.slice ta tn tk).ownBlock<;>simp);obtain⟨yt,hyt⟩:∃yt,yt=TT.getD j B1:=⟨_,rfl⟩
       have HYT:=A0 hyt;have hjT:j<TT.length:=by rw[←HTN.out];exact hlt
       have Y0:wr.cell? ⟨gt,j*2,none⟩=some (.int .i64 yt.kind):=by
        exact a5s
       have Y1:wr.cell? ⟨gt,j*2+1,none⟩=some (.string yt.name):=by
        exact c5k
       clear hyt hotr hgt2 hgt3;subst hgt;have hgB:w.grownBy (wr.alloc (.cells #[.int .i64 (((⟨x1,x2⟩:Wd)).tag:Int), .int .i64 ((⟨x1,x2⟩:Wd)).v] 145)) none:=A1 HGR.out (A2 _ _ _);have hjI:(j:Int)<(tn:Int):=by omega
       by_cases hu:D4 L xt yt=true
       ·have HUJ:Hid (∀W,w.grownBy W none→Calls prog 295 #[.pointer (some ⟨b,0,none⟩), .agg #[.int .i64 xt.kind, .string xt.name], .agg #[.int .i64 yt.kind, .string yt.name]] W fun e w'=>e= .returned (.bool true)∧W.grownBy w' none):=fun W hW=>by
         have:=HU.out W xt yt hW hxs;rw[hu]at this;exact this
        have HUA:Hid (∀r,r<j+1→D4 L (zt.getD r B1) (TT.getD r B1)=true):=fun r hr=>by
         exact c7h
        clear hu;go_upto_region 12 with(go_at_call 231;refine(HTJ.out _ hgB).mono ?_;rintro e w4 ⟨rfl,hg4⟩)
        have hgr4:wr.grownBy (w4.alloc (.cells #[.int .i64 xt.kind, .string xt.name] 98)).drew none:=A1 (A1 (A1 (A2 _ _ none) hg4) (A2 _ _ _)) (B6 _ _);have hgA:=A1 HGR.out hgr4;have hq:=(A3.new w4 #[.int .i64 xt.kind, .string xt.name] 98).keep (B6 _ none) A5;obtain⟨Q0,Q1⟩:=hq.q2;have Q2:=hgr4.cell E0 A5;have Q3:=hgr4.cell Y0 A5;have Q4:=hgr4.cell Y1 A5;clear hq;refine wp_region_held_drew (S:=(fun w'=>w'.cell? ⟨w4.heap.size,0,none⟩=some (.int .i64 xt.kind)∧w'.cell? ⟨w4.heap.size,1,none⟩=some (.string xt.name)∧w'.cell? ⟨w1.heap.size,0,none⟩=some (.slice (some ⟨gt,0,none⟩) tn tk)∧w'.cell? ⟨gt,j*2,none⟩=some (.int .i64 yt.kind)∧w'.cell? ⟨gt,j*2+1,none⟩=some (.string yt.name))) (by kernel_rfl) ?s1 (fun hHeld=> ?t1)
        case s1=>exact⟨Q0,Q1,Q2,Q3,Q4⟩
        refine tkT 0 (v:= ?v2) (hv:= .inl ⟨by rfl,?h2⟩) (k:= ?r2)
        case h2=>(intro w hSw;(try dsimp only at hSw);go_simp;try with_reducible rfl)
        try simp only[Act.put,List.getElem_toArray,List.getElem_cons_zero,List.getElem_cons_succ,List.setIfInBounds_toArray,List.set_cons_zero,List.set_cons_succ]
        refine tkT 1 (v:= ?v3) (hv:= .inl ⟨by rfl,?h3⟩) (k:= ?r3)
        case h3=>(intro w hSw;(try dsimp only at hSw);go_simp;try with_reducible rfl)
        try simp only[Act.put,List.getElem_toArray,List.getElem_cons_zero,List.getElem_cons_succ,List.setIfInBounds_toArray,List.set_cons_zero,List.set_cons_succ]
        refine tkT 2 (v:= ?v4) (hv:= .inl ⟨by rfl,?h4⟩) (k:= ?r4)
        case h4=>(intro w hSw;(try dsimp only at hSw);go_simp;try with_reducible rfl)
        try simp only[Act.put,List.getElem_toArray,List.getElem_cons_zero,List.getElem_cons_succ,List.setIfInBounds_toArray,List.set_cons_zero,List.set_cons_succ]
        refine tkT 3 (v:= ?v5) (hv:= .inl ⟨by rfl,?h5⟩) (k:= ?r5)
        case h5=>(intro w hSw;(try dsimp only at hSw);go_simp;try with_reducible rfl)
        try simp only[Act.put,List.getElem_toArray,List.getElem_cons_zero,List.getElem_cons_succ,List.setIfInBounds_toArray,List.set_cons_zero,List.set_cons_succ]
        refine tkT 4 (v:= ?v6) (hv:= .inl ⟨by rfl,?h6⟩) (k:= ?r6)
        case h6=>(intro w hSw;(try dsimp only at hSw);go_simp;try with_reducible rfl)
        try simp only[Act.put,List.getElem_toArray,List.getElem_cons_zero,List.getElem_cons_succ,List.setIfInBounds_toArray,List.set_cons_zero,List.set_cons_succ]
        refine tkT 5 (v:= ?v7) (hv:= .inl ⟨by rfl,?h7⟩) (k:= ?r7)
        case h7=>(intro w hSw;(try dsimp only at hSw);go_simp;try with_reducible rfl)
        try simp only[Act.put,List.getElem_toArray,List.getElem_cons_zero,List.getElem_cons_succ,List.setIfInBounds_toArray,List.set_cons_zero,List.set_cons_succ]
        refine tkT 6 (v:= ?v8) (hv:= .inl ⟨by rfl,?h8⟩) (k:= ?r8)
        case h8=>(intro w hSw;(try dsimp only at hSw);go_simp;try with_reducible rfl)
        try simp only[Act.put,List.getElem_toArray,List.getElem_cons_zero,List.getElem_cons_succ,List.setIfInBounds_toArray,List.set_cons_zero,List.set_cons_succ]
        refine T6 7 fun K hK=> ?_;go_simp
        go_wp2_with (go_at_call 295;refine(HUJ.out _ hgA).mono ?_;rintro e w5 ⟨rfl,hg5⟩)
        refine hK.out _ _ ?_ (fun hHeld=> ?_)
        case refine_1=>exact a6u
        try clear hK K
        try simp only[Act.put,List.getElem_toArray,List.getElem_cons_zero,List.getElem_cons_succ,List.setIfInBounds_toArray,List.set_cons_zero,List.set_cons_succ]
        refine tkT 8 (v:= ?v9) (hv:= .inl ⟨by rfl,?h9⟩) (k:= ?r9)
        case h9=>(intro w hSw;(try dsimp only at hSw);go_simp;try with_reducible rfl)
        try simp only[Act.put,List.getElem_toArray,List.getElem_cons_zero,List.getElem_cons_succ,List.setIfInBounds_toArray,List.set_cons_zero,List.set_cons_succ]
        refine wpAnyH_done (by kernel_rfl) ?_ _;have hgr5:=A1 hgr4 hg5;have r0:=hg5.cell Q0 A5;have r1:=hg5.cell Q1 A5;have hw5:=(A1 HG2.out (A1 hgr4 hg5)).size;have HO5:Hid ((w5.alloc (.cells #[.int .i64 xt.kind, .string xt.name] 98)).ownsRow w2.heap.size 98 2 (.slice a' j k') j ((zt.take j).flatMap C9)):=(HOWN.out.kept hgr5 (by cases hv:(Value.slice a' j k').ownBlock<;>simp)).kept (A2 _ _ none) (by cases hv:(Value.slice a' j k').ownBlock<;>simp)
        have htk:(zt.take (j+1)).flatMap C9=(zt.take j).flatMap C9++ [.int .i64 xt.kind, .string xt.name]:=by
         exact c5q
        go_wp2_with (at_builtin;go_loud (refine a7U rfl _ _ 96 rfl w2.heap.size 98 inf _ 2 24 underlying96 ii0 iz0 iz1 iz2 rfl (by decide) a' j k' ((zt.take j).flatMap C9) rfl HO5.out (some ⟨w5.heap.size,0,none⟩) 1 1 [.int .i64 xt.kind, .string xt.name] rfl rfl (fun jj u hu=>⟨_,rfl,S6 w5 _ _ jj u hu⟩) (by simp[Value.oneCell']) (by unfold maxLen;omega) (by omega) (Nat.le_trans hw5 (A2 w5 _ none).size) ?_;intro a7 k7 w7 hown7 hg7))
        have hg57:=D5 (A1 (A1 HG2.out hgr5) (A2 _ _ _)) hg7 (fun k e=> .inl (Y4 HO5.out e).1);go_roundw
        case rel=>exact c7k
        case measure=>simp[intOf];omega
       ·have hu':D4 L xt yt=false:=by simpa using hu
        have HUJ:Hid (∀W,w.grownBy W none→Calls prog 295 #[.pointer (some ⟨b,0,none⟩), .agg #[.int .i64 xt.kind, .string xt.name], .agg #[.int .i64 yt.kind, .string yt.name]] W fun e w'=>e= .returned (.bool false)∧W.grownBy w' none):=fun W hW=>by
         have:=HU.out W xt yt hW hxs;rw[hu']at this;exact this
        have hA:Hid (ans=false):=by
         exact c6u
        clear hu hu';go_upto_region 12 with(go_at_call 231;refine(HTJ.out _ hgB).mono ?_;rintro e w4 ⟨rfl,hg4⟩)
        have hgr4:wr.grownBy (w4.alloc (.cells #[.int .i64 xt.kind, .string xt.name] 98)).drew none:=A1 (A1 (A1 (A2 _ _ none) hg4) (A2 _ _ _)) (B6 _ _);have hgA:=A1 HGR.out hgr4;have hq:=(A3.new w4 #[.int .i64 xt.kind, .string xt.name] 98).keep (B6 _ none) A5;obtain⟨Q0,Q1⟩:=hq.q2;have Q2:=hgr4.cell E0 A5;have Q3:=hgr4.cell Y0 A5;have Q4:=hgr4.cell Y1 A5;clear hq;refine wp_region_held_drew (S:=(fun w'=>w'.cell? ⟨w4.heap.size,0,none⟩=some (.int .i64 xt.kind)∧w'.cell? ⟨w4.heap.size,1,none⟩=some (.string xt.name)∧w'.cell? ⟨w1.heap.size,0,none⟩=some (.slice (some ⟨gt,0,none⟩) tn tk)∧w'.cell? ⟨gt,j*2,none⟩=some (.int .i64 yt.kind)∧w'.cell? ⟨gt,j*2+1,none⟩=some (.string yt.name))) (by kernel_rfl) ?s10 (fun hHeld=> ?t10)
        case s10=>exact⟨Q0,Q1,Q2,Q3,Q4⟩
        refine tkT 0 (v:= ?v11) (hv:= .inl ⟨by rfl,?h11⟩) (k:= ?r11)
        case h11=>(intro w hSw;(try dsimp only at hSw);go_simp;try with_reducible rfl)
        try simp only[Act.put,List.getElem_toArray,List.getElem_cons_zero,List.getElem_cons_succ,List.setIfInBounds_toArray,List.set_cons_zero,List.set_cons_succ]
        refine tkT 1 (v:= ?v12) (hv:= .inl ⟨by rfl,?h12⟩) (k:= ?r12)
        case h12=>(intro w hSw;(try dsimp only at hSw);go_simp;try with_reducible rfl)
        try simp only[Act.put,List.getElem_toArray,List.getElem_cons_zero,List.getElem_cons_succ,List.setIfInBounds_toArray,List.set_cons_zero,List.set_cons_succ]
        refine tkT 2 (v:= ?v13) (hv:= .inl ⟨by rfl,?h13⟩) (k:= ?r13)
        case h13=>(intro w hSw;(try dsimp only at hSw);go_simp;try with_reducible rfl)
        try simp only[Act.put,List.getElem_toArray,List.getElem_cons_zero,List.getElem_cons_succ,List.setIfInBounds_toArray,List.set_cons_zero,List.set_cons_succ]
        refine tkT 3 (v:= ?v14) (hv:= .inl ⟨by rfl,?h14⟩) (k:= ?r14)
        case h14=>(intro w hSw;(try dsimp only at hSw);go_simp;try with_reducible rfl)
        try simp only[Act.put,List.getElem_toArray,List.getElem_cons_zero,List.getElem_cons_succ,List.setIfInBounds_toArray,List.set_cons_zero,List.set_cons_succ]
        refine tkT 4 (v:= ?v15) (hv:= .inl ⟨by rfl,?h15⟩) (k:= ?r15)
        case h15=>(intro w hSw;(try dsimp only at hSw);go_simp;try with_reducible rfl)
        try simp only[Act.put,List.getElem_toArray,List.getElem_cons_zero,List.getElem_cons_succ,List.setIfInBounds_toArray,List.set_cons_zero,List.set_cons_succ]
        refine tkT 5 (v:= ?v16) (hv:= .inl ⟨by rfl,?h16⟩) (k:= ?r16)
        case h16=>(intro w hSw;(try dsimp only at hSw);go_simp;try with_reducible rfl)
        try simp only[Act.put,List.getElem_toArray,List.getElem_cons_zero,List.getElem_cons_succ,List.setIfInBounds_toArray,List.set_cons_zero,List.set_cons_succ]
        refine tkT 6 (v:= ?v17) (hv:= .inl ⟨by rfl,?h17⟩) (k:= ?r17)
        case h17=>(intro w hSw;(try dsimp only at hSw);go_simp;try with_reducible rfl)
        try simp only[Act.put,List.getElem_toArray,List.getElem_cons_zero,List.getElem_cons_succ,List.setIfInBounds_toArray,List.set_cons_zero,List.set_cons_succ]
        refine T6 7 fun K hK=> ?_;go_simp
        go_wp2_with (go_at_call 295;refine(HUJ.out _ hgA).mono ?_;rintro e w5 ⟨rfl,hg5⟩)
        refine hK.out _ _ ?_ (fun hHeld=> ?_)
        case refine_1=>exact a6u
        try clear hK K
        try simp only[Act.put,List.getElem_toArray,List.getElem_cons_zero,List.getElem_cons_succ,List.setIfInBounds_toArray,List.set_cons_zero,List.set_cons_succ]
        refine tkT 8 (v:= ?v18) (hv:= .inl ⟨by rfl,?h18⟩) (k:= ?r18)
        case h18=>(intro w hSw;(try dsimp only at hSw);go_simp;try with_reducible rfl)
        try simp only[Act.put,List.getElem_toArray,List.getElem_cons_zero,List.getElem_cons_succ,List.setIfInBounds_toArray,List.set_cons_zero,List.set_cons_succ]
        refine wpAnyH_done (by kernel_rfl) ?_ _;go_wp2_with fail
        all_goals exact bodyPost_ret (v:= .bool false) (by simp[results,results230,go_sem]) rfl ⟨by rw[hA.out],A1 hgA hg5⟩
      ·have hjn:j=tn:=by omega
       subst hjn
       have hA:Hid (ans=O6 L i zt):=by
        exact c6m
       have hown2:=HOWN.out;rw[List.take_of_length_le (by rw[HZL.out];exact Nat.le_refl _)]at hown2
       have HFB:Hid (Calls prog 296 #[.pointer (some ⟨b,0,none⟩), .agg #[.int .i64 i.op, .int .i64 i.a, .string i.cls, .string i.mem], .slice a' j k'] wr fun e w'=>e= .returned (.bool (O6 L i zt))∧wr.grownBy w' none):=by
        have:=HF.out wr zt a' k' HGR.out;rw[HZL.out]at this;exact this
       have I0r:=(HIb.out _ (A1 HGW.out HG2.out)).cell 0 _ rfl;have I1r:=(HIb.out _ (A1 HGW.out HG2.out)).cell 1 _ rfl;have I2r:=(HIb.out _ (A1 HGW.out HG2.out)).cell 2 _ rfl;have I3r:=(HIb.out _ (A1 HGW.out HG2.out)).cell 3 _ rfl;go_wp2_with (go_at_call 296;refine HFB.out.mono ?_;rintro e w8 ⟨rfl,hg8⟩)
       all_goals exact bodyPost_ret (v:= .bool (O6 L i zt)) (by simp[results,results230,go_sem]) rfl ⟨by rw[hA.out],A1 HGR.out hg8⟩
 ·have hbv:∃bh,j8 tn pn n m.stack eb= .tuple #[bh, .bool false]:=by
   exact a6y
  obtain⟨bh,hbh⟩:=hbv;rw[hbh]at HBH;have hres:(decide (tn≤n)&&decide (n-tn+pn≤m.stack))=false:=by simp;omega
  have hW1:w.grownBy (w1.alloc (.cells #[.slice ta tn tk, .slice ua pn uk, .bool eb] 315)) none:=A1 (A1 HG0.out hg1) (A2 _ _ _);have hA:Hid (ans=false):=by unfold Hid;rw[HANS.out,hres,Bool.false_and]
  clear hbh hroom hres;go_wp2_with (go_at_call 275;refine(HBH.out _).mono ?_;rintro e w2 ⟨rfl,hg2⟩)
  all_goals exact bodyPost_ret (v:= .bool false) (by simp[results,results230,go_sem]) rfl ⟨by rw[hA.out],A1 hW1 hg2⟩
section
variable{E:En}{W0:World}{S0:List Nat}{loc:List Lo}{fp:Nat}{fps:List Nat}{s:Ms}{st:Nat}{f:Fm}{fs:List Fm}
structure a6r(L:List Cl)(s:Ms)(f:Fm):Prop where
 stk:f.stack.length≤f.me.stack
 ms:f.me.stack≤1000
 ml:f.me.locals≤1000
 lo:f.me.locals≤f.locals.length
 ll:f.locals.length≤1000
 cl:f.me.code.length≤65536
 ad:∀x,x∈f.stack∨x∈f.locals→x.tag=3→1≤x.v∧x.v≤s.tg.length
 fin:∀i∈f.me.code,i.cls.size≤maxLen∧i.mem.size≤maxLen∧P0 i
 few:∀i,(a0V L i).params.length≤1000
 two:∀i∈f.me.code,Op2 i
 ty:∀t∈s.tg,t.cls.size≤maxLen∧(t.kind=5→t.cls=⟨#[]⟩)
theorem b9s{w:World}{base e sz n k:Nat}{a:Option Addr}{cs:List Value}(h:w.ownsRow base e sz (.slice a n k) n cs):n≤k:=by
 cases a with
 |none=>
  rcases h.2 with⟨h1,h2⟩|⟨g',cap,cur,hv,_⟩
  ·injection h1 with _ h3 h4;omega
  ·cases hv
 |some p=>
  obtain⟨g,off,el⟩:=p;rcases h.2 with⟨h1,h2⟩|⟨g',cap,cur,hv,_,_,h1,_⟩
  ·cases h1
  ·injection hv with _ _ hc;omega
theorem b1z{s:Ms}(hty:∀t∈s.tg,t.cls.size≤maxLen∧(t.kind=5→t.cls=⟨#[]⟩))(u:Wd):(n8 s u).name.size≤maxLen∧((n8 s u).kind=5→(n8 s u).name=⟨#[]⟩):=by
 have h0:(C5).size≤maxLen:=by unfold C5 maxLen;simp[ByteArray.size]
 unfold n8;by_cases c1:u.tag=1
 ·rw[if_pos c1];exact⟨h0,fun _=>rfl⟩
 rw[if_neg c1];by_cases c2:u.tag=2
 ·rw[if_pos c2];exact⟨h0,fun _=>rfl⟩
 rw[if_neg c2];by_cases c3:u.tag=3
 ·rw[if_pos c3];unfold a0p a0q;rw[List.getD_eq_getElem?_getD];by_cases hk:u.v.toNat-1<s.tg.length
  ·rw[List.getElem?_eq_getElem hk];exact hty _ (List.getElem_mem hk)
  ·rw[List.getElem?_eq_none (by omega)];exact⟨h0,fun _=>rfl⟩
 rw[if_neg c3];exact⟨h0,fun _=>rfl⟩
theorem c3t(w:World)(g:Nat)(v0 v1 v2 v3:Value):
 w.grownBy ((((w.setCell ⟨g,0,none⟩ v0).setCell ⟨g,1,none⟩ v1).setCell ⟨g,2,none⟩ v2).setCell ⟨g,3,none⟩ v3) (some g):=
 A1 (A1 (A1 (A9 w ⟨g,0,none⟩ v0) (A9 _ ⟨g,1,none⟩ v1)) (A9 _ ⟨g,2,none⟩ v2)) (A9 _ ⟨g,3,none⟩ v3)
theorem b1Q(w:World)(h:Hid (Mc E W0 S0 w (fp::fps) s st loc))(hs:s.fr=f::fs)(hl:s.tg.length≤100000)(F:a6r E.L s f):
 Calls prog 154 #[.pointer (some ⟨E.b,0,none⟩), .pointer (some ⟨fp,0,none⟩)] w fun e w'=>e= .returned (.bool (a2f E.L s f))∧w.grownBy w' none:=by
 obtain⟨x,hx,hbk,hco,-,hat,hst,hlo,hn⟩:=h.out.fb hs;obtain⟨sa,sk,hsv⟩:=F0 hst;obtain⟨la,lk,hlv⟩:=F0 hlo;rw[hsv]at hst;rw[hlv]at hlo;obtain⟨i,hi⟩:∃i,i=A6 f.me f.at_:=⟨_,rfl⟩
 have HI:Hid (f.at_<f.me.code.length→∀W,w.grownBy W none→Calls prog 229 #[.pointer (some ⟨E.cb,0,none⟩), .agg #[.string f.me.name, .slice x.pa f.me.params.length x.pk, .int .i64 f.me.ret.kind, .string f.me.ret.name, .int .i64 f.me.stack, .int .i64 f.me.locals, .slice x.ca f.me.code.length x.ck, .slice x.ha f.me.handlers.length x.hk], .agg #[.int .i64 i.op, .int .i64 i.a, .string i.cls, .string i.mem]] W fun e w'=>e= .returned (.bool (R4 E.L f.me i))∧W.grownBy w' none):=fun hal W hW=>by
  obtain⟨hk,hkl⟩:=(h.out.keep hW).lk;have hm:i∈f.me.code:=by rw[hi];unfold A6;simp[hal]
  exact b0y W E.lim E.cb E.L E.p E.cap E.m1 E.m2 E.m3 E.q hk hkl f.me x.pa x.ca x.ha x.pk x.ck x.hk i (F.two i hm)
 have HF:Hid (f.at_<f.me.code.length→R4 E.L f.me i=true→∀W,w.grownBy W none→Calls prog 230 #[.pointer (some ⟨E.cb,0,none⟩), .agg #[.string f.me.name, .slice x.pa f.me.params.length x.pk, .int .i64 f.me.ret.kind, .string f.me.ret.name, .int .i64 f.me.stack, .int .i64 f.me.locals, .slice x.ca f.me.code.length x.ck, .slice x.ha f.me.handlers.length x.hk], .agg #[.int .i64 i.op, .int .i64 i.a, .string i.cls, .string i.mem], .slice sa f.stack.length sk, .slice la f.locals.length lk, .func (.func 231) #[.pointer (some ⟨E.b,2,none⟩)] #[]] W fun e w'=>e= .returned (.bool (U1 E.L f.me i (f.stack.map (n8 s)) (f.locals.map (n8 s))))∧W.grownBy w' none):=fun hal hne W hW=>by
  obtain⟨hk,hkl⟩:=(h.out.keep hW).lk;have hm:i∈f.me.code:=by rw[hi];unfold A6;simp[hal]
  obtain⟨z1,z2,z3⟩:=F.fin i hm;refine b5V W E.lim E.cb E.L E.p E.cap E.m1 E.m2 E.m3 E.q hk hkl f.me x.pa x.ca x.ha x.pk x.ck x.hk i ⟨⟨z1,z2,fun h19=> ?_,Nat.le_trans (F.few i) (by decide),F.two i hm⟩,F.few i,z3⟩ (some ⟨E.b,2,none⟩) _ rfl (n8 s) f.stack f.locals sa la sk lk W.heap.size (Nat.le_refl _) ?_ ?_ hn F.ll (b9s hst) F.stk F.ms F.ml (fun y hy=>⟨(b1z F.ty y).1,(b1z F.ty y).2,fun W2 hW2=> ?_⟩) (fun h2=> ?_)
  ·unfold R4 at hne;rw[h19]at hne;simpa[Option.isSome_iff_exists]using hne
  ·exact a1B (fun _=>rfl) (hst.kept hW (by cases hv:(Value.slice sa f.stack.length sk).ownBlock<;>simp))
  ·exact a1B (fun _=>rfl) (hlo.kept hW (by cases hv:(Value.slice la f.locals.length lk).ownBlock<;>simp))
  ·obtain⟨yy,hyy,hM⟩:=(h.out.keep (A1 hW hW2))
   have:=b6w W2 E.lim E.base E.cb E.fast yy s st hM.mac hl y (F.ad y hy);rw[hM.bb]at this;exact this
  ·unfold R4 at hne;rw[h2]at hne;have h3:i.a<f.me.locals:=by simpa using hne
   have:=F.lo;have h0:=z3.2 (by omega);omega
 have HM:Hid (a2f E.L s f=(decide (f.at_<f.me.code.length)&&R4 E.L f.me i&&U1 E.L f.me i (f.stack.map (n8 s)) (f.locals.map (n8 s)))):=by
  unfold Hid a2f;rw[hi]
 obtain⟨r,hr⟩:∃r,r=a2f E.L s f:=⟨_,rfl⟩
 rw[←hr]at HM⊢;have hb1:=h.out.b1;have HC:Hid (∀W,w.grownBy W none→W.cell? ⟨E.b,1,none⟩=some (.pointer (some ⟨E.cb,0,none⟩))∧A3 W fp (a1Y x f) 212):=fun W hW=>⟨hW.cell hb1 A5,hbk.keep hW A5⟩
 have HX:Hid (x.sv= .slice sa f.stack.length sk∧x.lv= .slice la f.locals.length lk):=⟨hsv,hlv⟩
 have hcl:=F.cl;have c7:=hbk.c7;have c9:=hbk.c9;generalize U1 E.L f.me i (f.stack.map (n8 s)) (f.locals.map (n8 s))=ft at HM HF;generalize R4 E.L f.me i=nd at HM HF HI;clear hr hst hlo hsv hlv hl F hn hb1;by_cases hal:f.at_<f.me.code.length
 ·have HR:Hid (r=(nd&&ft)):=by unfold Hid;rw[HM.out,decide_eq_true hal,Bool.true_and]
  have HF2:=HF.out hal;obtain⟨pd,hpd,hpl,hcd⟩:=hco f.at_ hal;have hie:f.me.code[f.at_]=i:=by rw[hi];unfold A6;simp[hal]
  rw[hie]at hcd;have HF3:=A0 HF2;have y0:w.cell? (pd.add (f.at_*4))=some (.int .i64 i.op):=hcd 0 _ rfl;have y1:w.cell? ⟨(pd.add (f.at_*4)).block,(pd.add (f.at_*4)).off+1,none⟩=some (.int .i64 i.a):=by rw[C0 pd (f.at_*4) 0];exact hcd 1 _ rfl
  have y2:w.cell? ⟨(pd.add (f.at_*4)).block,(pd.add (f.at_*4)).off+2,none⟩=some (.string i.cls):=by rw[C0 pd (f.at_*4) 1];exact hcd 2 _ rfl
  have y3:w.cell? ⟨(pd.add (f.at_*4)).block,(pd.add (f.at_*4)).off+3,none⟩=some (.string i.mem):=by rw[C0 pd (f.at_*4) 2];exact hcd 3 _ rfl
  rw[hpd]at c7;clear hpd;have g1:decide ((f.me.code.length:Int)≤(f.at_:Int))=false:=decide_eq_false (by omega);have g2:decide (f.me.code.length≤f.at_)=false:=decide_eq_false (by omega);have b1:(0:Int)≤(f.at_:Int)∧(f.at_:Int)<(f.me.code.length:Int):=by omega
  have c7a:=fun o=>(A2 w o none).cell c7 A5
  have c9a:=fun o=>(A2 w o none).cell c9 A5
  have y0a:=fun o=>(A2 w o none).cell y0 A5
  have y1a:=fun o=>(A2 w o none).cell y1 A5
  have y2a:=fun o=>(A2 w o none).cell y2 A5
  have y3a:=fun o=>(A2 w o none).cell y3 A5
  clear hcd hie hpl HF HF2 HM hco hi hs hbk;go_enter func154,ntmps154;go_wp2_with fail
  go_region
  all_goals go_wp2_with fail
  all_goals go_region
  all_goals go_wp2_with fail
  obtain⟨W3,hW3⟩:∃W3,W3=(w.alloc (.cells #[.int .i64 (i.op:Int), .int .i64 i.a, .string i.cls, .string i.mem] 120)).drew.drew:=⟨_,rfl⟩
  have hg3:w.grownBy W3 none:=by rw[hW3];exact A1 (A1 (A2 _ _ none) (B6 _ _)) (B6 _ _)
  have hbi:A3 W3 w.heap.size #[.int .i64 (i.op:Int), .int .i64 i.a, .string i.cls, .string i.mem] 120:=by rw[hW3];exact((A3.new w _ _).keep (B6 _ none) A5).keep (B6 _ none) A5
  rw[←hW3];clear hW3 c7a c9a y0a y1a y2a y3a y0 y1 y2 y3 c7 c9
  have HS:∀w',W3.grownBy w' none→w.grownBy w' none∧w'.cell? ⟨E.b,1,none⟩=some (.pointer (some ⟨E.cb,0,none⟩))∧w'.cell? ⟨w.heap.size,0,none⟩=some (.int .i64 (i.op:Int))∧w'.cell? ⟨w.heap.size,1,none⟩=some (.int .i64 i.a)∧w'.cell? ⟨w.heap.size,2,none⟩=some (.string i.cls)∧w'.cell? ⟨w.heap.size,3,none⟩=some (.string i.mem):=fun w' hw=>by
   have hb:=hbi.keep hw A5;exact⟨A1 hg3 hw,(HC.out w' (A1 hg3 hw)).1,hb.cell 0 _ rfl,hb.cell 1 _ rfl,hb.cell 2 _ rfl,hb.cell 3 _ rfl⟩
  have HB:∀w',W3.grownBy w' none→w'.cell? ⟨fp,1,none⟩=some (.string f.me.name)∧w'.cell? ⟨fp,2,none⟩=some (.slice x.pa f.me.params.length x.pk)∧w'.cell? ⟨fp,3,none⟩=some (.int .i64 f.me.ret.kind)∧w'.cell? ⟨fp,4,none⟩=some (.string f.me.ret.name)∧w'.cell? ⟨fp,5,none⟩=some (.int .i64 f.me.stack)∧w'.cell? ⟨fp,6,none⟩=some (.int .i64 f.me.locals)∧w'.cell? ⟨fp,7,none⟩=some (.slice x.ca f.me.code.length x.ck)∧w'.cell? ⟨fp,8,none⟩=some (.slice x.ha f.me.handlers.length x.hk)∧w'.cell? ⟨fp,10,none⟩=some (.slice sa f.stack.length sk)∧w'.cell? ⟨fp,11,none⟩=some (.slice la f.locals.length lk):=fun w' hw=>by
   have hb:=(HC.out w' (A1 hg3 hw)).2;refine⟨hb.cell 1 _ rfl,hb.cell 2 _ rfl,hb.cell 3 _ rfl,hb.cell 4 _ rfl,hb.cell 5 _ rfl,hb.cell 6 _ rfl,hb.cell 7 _ rfl,hb.cell 8 _ rfl,?_,?_⟩
   ·rw[←HX.out.1];exact hb.cell 10 _ rfl
   ·rw[←HX.out.2];exact hb.cell 11 _ rfl
  have HG3:=A0 hg3;clear hg3 hbi HX HC;cases nd with
  |false=>
   clear HF3;refine wp_region_held_drew (S:=fun w'=>W3.grownBy w' none) (by kernel_rfl) (B6 _ _) (fun hHeld=> ?_);refine A4 0 ?_;refine A4 1 ?_;refine A4 2 ?_;refine A4 3 (v:= .pointer (some ⟨E.cb,0,none⟩)) ?_;refine A4 4 ?_;refine A4 5 ?_;refine A4 6 ?_;refine A4 7 (v:= .agg #[.string f.me.name, .slice x.pa f.me.params.length x.pk, .int .i64 f.me.ret.kind, .string f.me.ret.name, .int .i64 f.me.stack, .int .i64 f.me.locals, .slice x.ca f.me.code.length x.ck, .slice x.ha f.me.handlers.length x.hk]) ?_;refine A4 8 (v:= .agg #[.int .i64 i.op, .int .i64 i.a, .string i.cls, .string i.mem]) ?_;refine T6 9 fun K' hK=> ?_
   go_simp
   go_wp2_with (go_at_call 229;refine(HI.out hal _ (HS _ hHeld).1).mono ?_;rintro e w4 ⟨rfl,hg4⟩)
   refine hK.out _ _ (A1 hHeld hg4) (fun hHeld=> ?_);clear hK;refine A4 10 (v:= .bool false) ?_;refine V6 11 ?_;refine V6 12 ?_;refine V6 13 ?_;refine V6 14 ?_;refine V6 15 ?_;refine V6 16 ?_;refine V6 17 ?_;refine V6 18 ?_;refine V6 19 ?_;refine V6 20 ?_;refine V6 21 ?_;refine V6 22 ?_;refine V6 23 ?_;refine V6 24 ?_;refine V6 25 ?_;refine V6 26 ?_;refine V6 27 ?_;refine V6 28 ?_;refine V6 29 ?_;refine V6 30 ?_;refine V6 31 ?_;refine V6 32 ?_;refine A4 33 (v:= .bool false) ?_;refine A4 34 (v:= .bool false) ?_;refine wpAnyH_done (by kernel_rfl) ?_ _;have hgE:=A1 HG3.out hHeld;go_wp2_with fail
   all_goals exact bodyPost_ret (v:= .bool false) (by simp[results,results154,go_sem]) rfl ⟨by rw[HR.out];rfl,hgE⟩
  |true=>
   have HF4:=HF3.out rfl;have HF4:Hid _:=HF4;clear HF3;refine wp_region_held_drew (S:=fun w'=>W3.grownBy w' none) (by kernel_rfl) (B6 _ _) (fun hHeld=> ?_);refine A4 0 ?_;refine A4 1 ?_;refine A4 2 ?_;refine A4 3 (v:= .pointer (some ⟨E.cb,0,none⟩)) ?_;refine A4 4 ?_;refine A4 5 ?_;refine A4 6 ?_;refine A4 7 (v:= .agg #[.string f.me.name, .slice x.pa f.me.params.length x.pk, .int .i64 f.me.ret.kind, .string f.me.ret.name, .int .i64 f.me.stack, .int .i64 f.me.locals, .slice x.ca f.me.code.length x.ck, .slice x.ha f.me.handlers.length x.hk]) ?_;refine A4 8 (v:= .agg #[.int .i64 i.op, .int .i64 i.a, .string i.cls, .string i.mem]) ?_;refine T6 9 fun K' hK=> ?_
   go_simp
   go_wp2_with (go_at_call 229;refine(HI.out hal _ (HS _ hHeld).1).mono ?_;rintro e w4 ⟨rfl,hg4⟩)
   refine hK.out _ _ (A1 hHeld hg4) (fun hHeld=> ?_);clear hK;refine A4 10 (v:= .bool true) ?_;refine A4 11 ?_;refine A4 12 ?_;refine A4 13 ?_;refine A4 14 (v:= .pointer (some ⟨E.cb,0,none⟩)) ?_;refine A4 15 ?_;refine A4 16 ?_;refine A4 17 ?_;refine A4 18 (v:= .agg #[.string f.me.name, .slice x.pa f.me.params.length x.pk, .int .i64 f.me.ret.kind, .string f.me.ret.name, .int .i64 f.me.stack, .int .i64 f.me.locals, .slice x.ca f.me.code.length x.ck, .slice x.ha f.me.handlers.length x.hk]) ?_;refine A4 19 (v:= .agg #[.int .i64 i.op, .int .i64 i.a, .string i.cls, .string i.mem]) ?_;refine A4 20 ?_;refine A4 21 ?_;refine A4 22 ?_;refine A4 23 (v:= .slice sa f.stack.length sk) ?_;refine A4 24 ?_;refine A4 25 ?_;refine A4 26 ?_;refine A4 27 (v:= .slice la f.locals.length lk) ?_;refine A4 28 ?_;refine A4 29 ?_;refine A4 30 ?_;refine A4 31 (v:= .func (.func 231) #[.pointer (some ⟨E.b,2,none⟩)] #[]) ?_;refine T6 32 fun K' hK=> ?_
   go_simp
   go_wp2_with (go_at_call 230;go_loud (refine(HF4.out _ (HS _ hHeld).1).mono ?_;rintro e w5 ⟨rfl,hg5⟩))
   refine hK.out _ _ (A1 hHeld hg5) (fun hHeld=> ?_);clear hK;refine A4 33 (v:= .bool ft) ?_;refine A4 34 (v:= .bool ft) ?_;refine wpAnyH_done (by kernel_rfl) ?_ _;have hgE:=A1 HG3.out hHeld;go_wp2_with fail
   all_goals exact bodyPost_ret (v:= .bool ft) (by simp[results,results154,go_sem]) rfl ⟨by rw[HR.out];rfl,hgE⟩
 ·have HR:Hid (r=false):=by unfold Hid;rw[HM.out,decide_eq_false hal,Bool.false_and,Bool.false_and]
  have g1:decide ((f.me.code.length:Int)≤(f.at_:Int))=true:=decide_eq_true (by omega);have g2:decide (f.me.code.length≤f.at_)=true:=decide_eq_true (by omega);clear HF HI HM hco hi hs hbk HC HX;go_enter func154,ntmps154;go_wp2_with fail
  go_region
  all_goals go_wp2_with fail
  all_goals exact bodyPost_ret (v:= .bool false) (by simp[results,results154,go_sem]) rfl ⟨by rw[HR.out],B6 _ _⟩
end
section
variable{E:En}{W0:World}{S0:List Nat}{loc:List Lo}{fp:Nat}{fps:List Nat}{s:Ms}{st:Nat}{f:Fm}{fs:List Fm}
structure a9N(E:En)(s:Ms)(f:Fm)(fs:List Fm):Prop where
 doc:∀(W0:World) (S0:List Nat) (W:World) (fp:Nat) (fps:List Nat) (st:Nat) (loc:List Lo),Mc E W0 S0 W (fp::fps) s st loc→Calls prog 155 #[.pointer (some ⟨E.b,0,none⟩), .pointer (some ⟨fp,0,none⟩), .agg #[.int .i64 ((A6 f.me f.at_).op:Int), .int .i64 (A6 f.me f.at_).a, .string (A6 f.me f.at_).cls, .string (A6 f.me f.at_).mem]] W fun e w'=>e= .returned (.int .i64 ((M8 E.fast E.L s f fs (A6 f.me f.at_)).2:Int))∧∃fps',Mc E W0 S0 w' fps' (M8 E.fast E.L s f fs (A6 f.me f.at_)).1 st loc
 thr:(M8 E.fast E.L s f fs (A6 f.me f.at_)).2≠0→∀(W0:World) (S0:List Nat) (W:World) (fps:List Nat) (st:Nat) (loc:List Lo),Mc E W0 S0 W fps (M8 E.fast E.L s f fs (A6 f.me f.at_)).1 st loc→Calls prog 156 #[.pointer (some ⟨E.b,0,none⟩), .int .i64 ((M8 E.fast E.L s f fs (A6 f.me f.at_)).2:Int)] W fun e w'=>e= .returned (.tuple #[])∧∃fps'',Mc E W0 S0 w' fps'' (a0Q E.fast E.L (M8 E.fast E.L s f fs (A6 f.me f.at_)).1 (M8 E.fast E.L s f fs (A6 f.me f.at_)).2) st loc
 lt:f.at_<f.me.code.length
 cl:f.me.code.length≤65536
theorem b6y(w:World)(h:Hid (Mc E W0 S0 w (fp::fps) s st loc))(hs:s.fr=f::fs)(hl:s.tg.length≤100000)(hfl:fps.length≤1000)(hfa:E.fast=false)(F:a6r E.L s f)(hft:a2f E.L s f=false):
 Calls prog 98 #[.pointer (some ⟨E.b,0,none⟩)] w fun e w'=>e= .returned (.bool false)∧Mc E W0 S0 w' (fp::fps) {s with oc:={s.oc with kind:=3} } st loc:=by
 have HLs:=A0 (a6g w h hfl);have HFt:Hid (∀W,Mc E W0 S0 W (fp::fps) s st loc→Calls prog 154 #[.pointer (some ⟨E.b,0,none⟩), .pointer (some ⟨fp,0,none⟩)] W fun e w'=>e= .returned (.bool false)∧W.grownBy w' none):=fun W hW=>by rw[←hft];exact b1Q W hW hs hl F
 have HFA:=A0 hfa;clear hl hfl F hft hs;go_enter func98,ntmps98
 go_upto_region 3 with(first
  |(go_at_call 154;refine(HFt.out _ hM1).mono ?_;rintro e w2 ⟨rfl,hg2⟩)
  |(go_at_call 153;refine HLs.out.mono ?_;rintro e w1 ⟨rfl,hg1⟩;have hM1:=h.out.keep hg1;obtain⟨hv,fv,ov,hbk⟩:=hM1.bc;have c0:=hbk.c0;rw[HFA.out]at c0))
 have hM2:=hM1.keep hg2;have HM3:=A0 (hM2.cell 5 (.int .i64 3) (s':={s with oc:={s.oc with kind:=3} }) (st':=st) (fun _=>rfl) rfl rfl rfl);obtain⟨hv2,fv2,ov2,hbk2⟩:=hM2.bc;have c5:=hbk2.c5;have e5:=hbk2.frozen 5;go_wp2_with fail
 all_goals
  refine bodyPost_ret (v:= .bool false) (by simp[results,results98,go_sem]) rfl ?_;exact⟨rfl,HM3.out⟩
theorem b4P(w:World)(h:Hid (Mc E W0 S0 w (fp::fps) s st loc))(hs:s.fr=f::fs)(hl:s.tg.length≤100000)(hfl:fps.length≤1000)(hfa:E.fast=false)(F:a6r E.L s f)(hft:a2f E.L s f=true)(G:a9N E s f fs):
 Calls prog 98 #[.pointer (some ⟨E.b,0,none⟩)] w fun e w'=>e= .returned (.bool true)∧∃fps',Mc E W0 S0 w' fps' (if(M8 E.fast E.L s f fs (A6 f.me f.at_)).2=0 then(M8 E.fast E.L s f fs (A6 f.me f.at_)).1 else a0Q E.fast E.L (M8 E.fast E.L s f fs (A6 f.me f.at_)).1 (M8 E.fast E.L s f fs (A6 f.me f.at_)).2) st loc:=by
 obtain⟨i,hi⟩:∃i,i=A6 f.me f.at_:=⟨_,rfl⟩
 obtain⟨hdo,hthr,hal,hcl⟩:=G;rw[←hi]at hdo hthr⊢;obtain⟨r,hr⟩:∃r,r=M8 E.fast E.L s f fs i:=⟨_,rfl⟩
 have HD:Hid (∀W,Mc E W0 S0 W (fp::fps) s st loc→Calls prog 155 #[.pointer (some ⟨E.b,0,none⟩), .pointer (some ⟨fp,0,none⟩), .agg #[.int .i64 (i.op:Int), .int .i64 i.a, .string i.cls, .string i.mem]] W fun e w'=>e= .returned (.int .i64 (r.2:Int))∧∃fps',Mc E W0 S0 w' fps' r.1 st loc):=fun W hW=>by rw[hr];exact hdo _ _ W _ _ _ _ hW
 rw[←hr]at hthr⊢
 have HT:Hid (r.2≠0→∀W fps',Mc E W0 S0 W fps' r.1 st loc→Calls prog 156 #[.pointer (some ⟨E.b,0,none⟩), .int .i64 (r.2:Int)] W fun e w'=>e= .returned (.tuple #[])∧∃fps'',Mc E W0 S0 w' fps'' (a0Q E.fast E.L r.1 r.2) st loc):=fun h0 W fps' hW=>by
  exact hthr h0 _ _ W _ _ _ hW
 obtain⟨z,hz⟩:∃z,z=(if r.2=0 then r.1 else a0Q E.fast E.L r.1 r.2):=⟨_,rfl⟩
 have HZ:=A0 hz;rw[←hz];have HLs:=A0 (a6g w h hfl);have HFt:Hid (∀W,Mc E W0 S0 W (fp::fps) s st loc→Calls prog 154 #[.pointer (some ⟨E.b,0,none⟩), .pointer (some ⟨fp,0,none⟩)] W fun e w'=>e= .returned (.bool true)∧W.grownBy w' none):=fun W hW=>by rw[←hft];exact b1Q W hW hs hl F
 have HFA:=A0 hfa;have HI:Hid (s.fr=f::fs∧i=A6 f.me f.at_∧f.at_<f.me.code.length∧f.me.code.length≤65536):=⟨hs,hi,hal,hcl⟩
 clear hl hfl F hft hs hi hdo hal hcl hthr hr hz hfa;go_enter func98,ntmps98
 go_upto_region 5 with(first
  |(go_at_call 154;refine(HFt.out _ hM1).mono ?_;rintro e w2 ⟨rfl,hg2⟩)
  |(go_at_call 153;refine HLs.out.mono ?_;rintro e w1 ⟨rfl,hg1⟩;have hM1:=h.out.keep hg1;obtain⟨hv,fv,ov,hbk⟩:=hM1.bc;have c0:=hbk.c0;rw[HFA.out]at c0))
 have HM2:=A0 (hM1.keep hg2);obtain⟨x,hx,hbf,hco,-,hat,-⟩:=HM2.out.fb HI.out.1;have hlt:=HI.out.2.2.1;obtain⟨pd,hpd,hpl,hcd⟩:=hco f.at_ hlt;have hie:=(show f.me.code[f.at_]=A6 f.me f.at_ by unfold A6;simp[hlt]).trans HI.out.2.1.symm;rw[hie]at hcd;have c7:=hbf.c7;have c9:=hbf.c9;rw[hpd]at c7;have y0:w2.cell? (pd.add (f.at_*4))=some (.int .i64 i.op):=hcd 0 _ rfl;have y1:w2.cell? ⟨(pd.add (f.at_*4)).block,(pd.add (f.at_*4)).off+1,none⟩=some (.int .i64 i.a):=by rw[C0 pd (f.at_*4) 0];exact hcd 1 _ rfl
 have y2:w2.cell? ⟨(pd.add (f.at_*4)).block,(pd.add (f.at_*4)).off+2,none⟩=some (.string i.cls):=by rw[C0 pd (f.at_*4) 1];exact hcd 2 _ rfl
 have y3:w2.cell? ⟨(pd.add (f.at_*4)).block,(pd.add (f.at_*4)).off+3,none⟩=some (.string i.mem):=by rw[C0 pd (f.at_*4) 2];exact hcd 3 _ rfl
 have b1:(0:Int)≤(f.at_:Int)∧(f.at_:Int)<(f.me.code.length:Int):=by have:=HI.out.2.2.1;omega
 clear hbf hpd hpl hcd hie hco hx hlt;refine wp_region_held_drew (S:=fun _=>True) (by kernel_rfl) trivial (fun _=> ?_);refine A4 0 ?_;refine A4 1 ?_;refine A4 2 ?_;refine A4 3 ?_;refine A4 4 ?_;refine A4 5 ?_;refine A4 7 ?_;refine A4 8 ?_;refine A4 9 ?_;refine wpAnyH_ready (rs:=[6,10]) (by kernel_rfl) (by simp) ?_;refine AllReadyH.cons rfl (fun K' hK=> ?_) (AllReadyH.cons rfl (fun K' hK=> ?_) AllReadyH.nil)
 ·exact c7o
 ·exact c7p
theorem b7E(w:World)(h:Hid (Mc E W0 S0 w (fp::fps) s st loc))(hs:s.fr=f::fs)(hl:s.tg.length≤100000)(hfl:fps.length≤1000)(hfa:E.fast=true)(G:a9N E s f fs):
 Calls prog 98 #[.pointer (some ⟨E.b,0,none⟩)] w fun e w'=>e= .returned (.bool true)∧∃fps',Mc E W0 S0 w' fps' (if(M8 E.fast E.L s f fs (A6 f.me f.at_)).2=0 then(M8 E.fast E.L s f fs (A6 f.me f.at_)).1 else a0Q E.fast E.L (M8 E.fast E.L s f fs (A6 f.me f.at_)).1 (M8 E.fast E.L s f fs (A6 f.me f.at_)).2) st loc:=by
 obtain⟨i,hi⟩:∃i,i=A6 f.me f.at_:=⟨_,rfl⟩
 obtain⟨hdo,hthr,hal,hcl⟩:=G;rw[←hi]at hdo hthr⊢;obtain⟨r,hr⟩:∃r,r=M8 E.fast E.L s f fs i:=⟨_,rfl⟩
 have HD:Hid (∀W,Mc E W0 S0 W (fp::fps) s st loc→Calls prog 155 #[.pointer (some ⟨E.b,0,none⟩), .pointer (some ⟨fp,0,none⟩), .agg #[.int .i64 (i.op:Int), .int .i64 i.a, .string i.cls, .string i.mem]] W fun e w'=>e= .returned (.int .i64 (r.2:Int))∧∃fps',Mc E W0 S0 w' fps' r.1 st loc):=fun W hW=>by rw[hr];exact hdo _ _ W _ _ _ _ hW
 rw[←hr]at hthr⊢
 have HT:Hid (r.2≠0→∀W fps',Mc E W0 S0 W fps' r.1 st loc→Calls prog 156 #[.pointer (some ⟨E.b,0,none⟩), .int .i64 (r.2:Int)] W fun e w'=>e= .returned (.tuple #[])∧∃fps'',Mc E W0 S0 w' fps'' (a0Q E.fast E.L r.1 r.2) st loc):=fun h0 W fps' hW=>by
  exact hthr h0 _ _ W _ _ _ hW
 obtain⟨z,hz⟩:∃z,z=(if r.2=0 then r.1 else a0Q E.fast E.L r.1 r.2):=⟨_,rfl⟩
 have HZ:=A0 hz;rw[←hz];have HLs:=A0 (a6g w h hfl);have HFA:=A0 hfa;have HI:Hid (s.fr=f::fs∧i=A6 f.me f.at_∧f.at_<f.me.code.length∧f.me.code.length≤65536):=⟨hs,hi,hal,hcl⟩
 clear hl hfl hs hi hdo hal hcl hthr hr hz hfa;go_enter func98,ntmps98;go_upto_region 5 with(go_at_call 153;refine HLs.out.mono ?_;rintro e w1 ⟨rfl,hg1⟩;have hM1:=h.out.keep hg1;obtain⟨hv,fv,ov,hbk⟩:=hM1.bc;have c0:=hbk.c0;rw[HFA.out]at c0)
 have HM2:=A0 hM1;obtain⟨x,hx,hbf,hco,-,hat,-⟩:=HM2.out.fb HI.out.1;have hlt:=HI.out.2.2.1;obtain⟨pd,hpd,hpl,hcd⟩:=hco f.at_ hlt;have hie:=(show f.me.code[f.at_]=A6 f.me f.at_ by unfold A6;simp[hlt]).trans HI.out.2.1.symm;rw[hie]at hcd;have c7:=hbf.c7;have c9:=hbf.c9;rw[hpd]at c7;have y0:w1.cell? (pd.add (f.at_*4))=some (.int .i64 i.op):=hcd 0 _ rfl;have y1:w1.cell? ⟨(pd.add (f.at_*4)).block,(pd.add (f.at_*4)).off+1,none⟩=some (.int .i64 i.a):=by rw[C0 pd (f.at_*4) 0];exact hcd 1 _ rfl
 have y2:w1.cell? ⟨(pd.add (f.at_*4)).block,(pd.add (f.at_*4)).off+2,none⟩=some (.string i.cls):=by rw[C0 pd (f.at_*4) 1];exact hcd 2 _ rfl
 have y3:w1.cell? ⟨(pd.add (f.at_*4)).block,(pd.add (f.at_*4)).off+3,none⟩=some (.string i.mem):=by rw[C0 pd (f.at_*4) 2];exact hcd 3 _ rfl
 have b1:(0:Int)≤(f.at_:Int)∧(f.at_:Int)<(f.me.code.length:Int):=by have:=HI.out.2.2.1;omega
 clear hbf hpd hpl hcd hie hco hx hlt;refine wp_region_held_drew (S:=fun _=>True) (by kernel_rfl) trivial (fun _=> ?_);refine A4 0 ?_;refine A4 1 ?_;refine A4 2 ?_;refine A4 3 ?_;refine A4 4 ?_;refine A4 5 ?_;refine A4 7 ?_;refine A4 8 ?_;refine A4 9 ?_;refine wpAnyH_ready (rs:=[6,10]) (by kernel_rfl) (by simp) ?_;refine AllReadyH.cons rfl (fun K' hK=> ?_) (AllReadyH.cons rfl (fun K' hK=> ?_) AllReadyH.nil)
 ·exact c7o
 ·exact c7p
end
section
variable{E:En}{W0:World}{S0:List Nat}{loc:List Lo}{fp:Nat}{fps:List Nat}{s:Ms}{st:Nat}{f:Fm}{fs:List Fm}
def Ok1(E:En)(s:Ms):Prop:=∃f fs,s.fr=f::fs∧s.tg.length≤100000∧fs.length≤1000∧(E.fast=false→a6r E.L s f)∧(E.fast=true∨a2f E.L s f=true→a9N E s f fs)
theorem b9e(w:World)(h:Hid (Mc E W0 S0 w fps s st loc))(O:Ok1 E s):
 Calls prog 98 #[.pointer (some ⟨E.b,0,none⟩)] w fun e w'=>e= .returned (.bool (a0E E.fast E.L s).isSome)∧∃fps',Mc E W0 S0 w' fps' ((a0E E.fast E.L s).getD {s with oc:={s.oc with kind:=3} }) st loc:=by
 obtain⟨f,fs,hs,hl,hfl,F,G⟩:=O;obtain⟨hlen,-⟩:=h.out.len
 obtain⟨fp,fps2,rfl⟩:∃a b,fps=a::b:=by
  cases fps with
  |nil=>rw[hs]at hlen;simp at hlen
  |cons a b=>exact⟨a,b,rfl⟩
 have hfl2:fps2.length≤1000:=by rw[hs]at hlen;simp at hlen;omega
 have hP:a0E E.fast E.L s=if E.fast=false∧a2f E.L s f=false then none else some (if(M8 E.fast E.L s f fs (A6 f.me f.at_)).2=0 then(M8 E.fast E.L s f fs (A6 f.me f.at_)).1 else a0Q E.fast E.L (M8 E.fast E.L s f fs (A6 f.me f.at_)).1 (M8 E.fast E.L s f fs (A6 f.me f.at_)).2):=by
  unfold a0E;rw[hs]
 rw[hP];cases hfa:E.fast with
 |false=>
  cases hft:a2f E.L s f with
  |false=>
   rw[if_pos ⟨rfl,rfl⟩];exact(b6y w h hs hl hfl2 hfa (F hfa) hft).mono (fun e w' h'=>⟨h'.1,_,h'.2⟩)
  |true=>
   rw[if_neg (by simp)];have:=b4P w h hs hl hfl2 hfa (F hfa) hft (G (.inr hft));rw[hfa]at this;exact this
 |true=>
  rw[if_neg (by simp)];have:=b7E w h hs hl hfl2 hfa (G (.inl hfa));rw[hfa]at this;exact this
variable {fast:Bool}
variable {l:List Cl}
variable {n:Nat}
variable {s:Ms}
theorem b7J(h:s.oc.kind≠0):T5 fast l n s=(s,0):=by
 cases n with
 |zero=>rfl
 |succ n=>unfold T5;rw[if_pos h]
theorem c0R{s':Ms}(h:s.oc.kind=0)(hs:a0E fast l s=some s'):T5 fast l (n+1) s=((T5 fast l n s').1,(T5 fast l n s').2+1):=by
 conv=>lhs;unfold T5
 rw[if_neg (by simp[h]),hs]
theorem b6z(h:s.oc.kind=0)(hs:a0E fast l s=none):T5 fast l (n+1) s=({s with oc:={s.oc with kind:=3} },0):=by
 conv=>lhs;unfold T5
 rw[if_neg (by simp[h]),hs]
theorem b7D(w:World)(h:Hid (Mc E W0 S0 w fps s st loc))(J:Nat→Ms→Prop)(hJ:J 0 s)(hO:∀k s,k≤5000→J k s→s.oc.kind=0→Ok1 E s)(hS:∀k s s',J k s→s.oc.kind=0→a0E E.fast E.L s=some s'→J (k+1) s')(n:Nat)(hn:n≤1000000)(hst:st≤1000000000000):
 Calls prog 57 #[.pointer (some ⟨E.b,0,none⟩), .int .i64 (n:Int)] w fun e w'=>e= .returned (.int .i64 ((T5 E.fast E.L (min n 5000) s).2:Int))∧∃fps',Mc E W0 S0 w' fps' (T5 E.fast E.L (min n 5000) s).1 (st+(T5 E.fast E.L (min n 5000) s).2) loc:=by
 obtain⟨k,hk⟩:∃k,k=min n 5000:=⟨_,rfl⟩
 rw[←hk];obtain⟨r,hr⟩:∃r,r=T5 E.fast E.L k s:=⟨_,rfl⟩
 have HR:=A0 hr;rw[←hr];have HJ:=A0 hJ;have HStep:Hid (∀W fps' (j:Nat) s',j≤5000→J j s'→s'.oc.kind=0→Mc E W0 S0 W fps' s' st loc→Calls prog 98 #[.pointer (some ⟨E.b,0,none⟩)] W fun e w'=>e= .returned (.bool (a0E E.fast E.L s').isSome)∧∃fps'',Mc E W0 S0 w' fps'' ((a0E E.fast E.L s').getD {s' with oc:={s'.oc with kind:=3} }) st loc):=fun W fps' j s' hj jj k0 hW=>b9e W hW (hO j s' hj jj k0)
 have HN:=A0 hS;have H0:Hid (Mc E W0 S0 w fps s st loc):=h;have HK:Hid (k=min n 5000∧st≤1000000000000∧k≤5000):=⟨hk,hst,by omega⟩
 clear hJ hO hS hr h;have m1:min (n:Int) 5000=k:=by have:=HK.out.1;omega
 clear hk hst;go_enter func57,ntmps57;go_upto_region 2 with fail
 go_loopg [5] k (fun gk v5 W=>∃(j:Nat) (s':Ms) (fps':List Nat),v5= .int .i64 (j:Int)∧gk+j=k∧Hid (J j s')∧Hid (r=((T5 E.fast E.L gk s').1,(T5 E.fast E.L gk s').2+j))∧Mc E W0 S0 W fps' s' st loc)
 case atStart=>exact⟨0,s,fps,rfl,by omega,HJ,by rw[Nat.add_zero];exact HR,H0.out⟩
 case round=>
  obtain⟨j,s',fps',rfl,hj,hJs,hRs,hM⟩:=hrel;have HM:=A0 hM;obtain⟨hv,fv,ov,hbk⟩:=hM.bc;have HBK:Hid (∃hv fv ov,A3 wr E.b #[.bool E.fast, .pointer (some ⟨E.cb,0,none⟩),hv, .int .i64 (s'.room:Int),fv, .int .i64 (s'.oc.kind:Int), .int .i64 s'.oc.value, .string s'.oc.cls,ov, .int .i64 (st:Int)] 209):=⟨hv,fv,ov,hbk⟩
  have c5:=hbk.c5;have c9:=hbk.c9;have e9:=hbk.frozen 9;have HJG:=A0 hj;have jk:j≤5000:=by have:=HK.out.2.2;omega
  have ws:IntKind.i64.wrap ((st:Int)+(j:Int))=(st:Int)+(j:Int):=by have:=HK.out.2.1;exact IntWalk.i64_in _ (by omega)
  by_cases hg:gk=0
  ·subst hg;have jeq:j=k:=by omega
   have d1:decide ((j:Int)<(k:Int))=false:=decide_eq_false (by omega);have d2:decide (j<k)=false:=decide_eq_false (by omega);have HRr:Hid (r=(s',j)):=by unfold Hid;rw[hRs.out];show(s',0+j)=_;rw[Nat.zero_add]
   have HMf:=A0 (hM.cell 9 (.int .i64 ((st:Int)+(j:Int))) (s':=s') (st':=st+j) (fun _=>rfl) rfl rfl rfl);clear hj hJs hRs hM hbk jeq;go_wp2_with fail
   all_goals
    refine bodyPost_ret (v:= .int .i64 (j:Int)) (by simp[results,results57,go_sem]) rfl ?_;rw[HRr.out];exact⟨rfl,_,HMf.out⟩
  ·have d1:decide ((j:Int)<(k:Int))=true:=decide_eq_true (by omega);have d2:decide (j<k)=true:=decide_eq_true (by omega);by_cases hk0:s'.oc.kind=0
   ·have k1:((s'.oc.kind:Int)==0)=true:=by simp[hk0]
    cases hst:a0E E.fast E.L s' with
    |none=>
     obtain⟨gm,rfl⟩:∃gm,gk=gm+1:=⟨gk-1,by omega⟩
     have HRr:Hid (r=({s' with oc:={s'.oc with kind:=3} },j)):=by unfold Hid;rw[hRs.out,b6z hk0 hst];show(_,0+j)=_;rw[Nat.zero_add]
     have HSt:Hid (Calls prog 98 #[.pointer (some ⟨E.b,0,none⟩)] wr fun e w'=>e= .returned ( .bool false)∧∃fps'',Mc E W0 S0 w' fps'' {s' with oc:={s'.oc with kind:=3} } st loc):=by
      have:=HStep.out wr fps' j s' jk hJs hk0 HM;rw[hst]at this;exact this
     clear hj hJs hRs hM hbk hst;go_upto_region 4 with(go_at_call 98;refine HSt.out.mono ?_;rintro e w2 ⟨rfl,fps2,hM2⟩)
     obtain⟨hv2,fv2,ov2,hbk2⟩:=hM2.bc;have a9:=hbk2.c9;have b9:=hbk2.frozen 9;have HMf:=A0 (hM2.cell 9 (.int .i64 ((st:Int)+(j:Int))) (s':={s' with oc:={s'.oc with kind:=3} }) (st':=st+j) (fun _=>rfl) rfl rfl rfl);clear hM2 hbk2;go_wp2_with fail
     all_goals
      refine bodyPost_ret (v:= .int .i64 (j:Int)) (by simp[results,results57,go_sem]) rfl ?_;rw[HRr.out];exact⟨rfl,_,HMf.out⟩
    |some s2=>
     obtain⟨gm,rfl⟩:∃gm,gk=gm+1:=⟨gk-1,by omega⟩
     have HRr:Hid (r=((T5 E.fast E.L gm s2).1,(T5 E.fast E.L gm s2).2+(j+1))):=by unfold Hid;rw[hRs.out,c0R hk0 hst];show(_,_+1+j)=_;rw[Nat.add_assoc,Nat.add_comm 1 j]
     have HJ2:=A0 (HN.out j s' s2 hJs.out hk0 hst)
     have HSt:Hid (Calls prog 98 #[.pointer (some ⟨E.b,0,none⟩)] wr fun e w'=>e= .returned ( .bool true)∧∃fps'',Mc E W0 S0 w' fps'' s2 st loc):=by
      have:=HStep.out wr fps' j s' jk hJs hk0 HM;rw[hst]at this;exact this
     have e6:IntKind.i64.wrap ((j:Int)+1)=((j+1:Nat):Int):=IntWalk.i64_in _ (by omega);clear hj hJs hRs hM hbk hst;go_wp2_with (go_at_call 98;refine HSt.out.mono ?_;rintro e w2 ⟨rfl,fps2,hM2⟩)
     go_roundg gm
     case rel=>exact⟨j+1,s2,fps2,rfl,by have:=HJG.out;omega,HJ2,HRr,hM2⟩
     case measure=>exact Nat.lt_succ_self _
   ·have k1:((s'.oc.kind:Int)==0)=false:=by simp;omega
    have HRr:Hid (r=(s',j)):=by unfold Hid;rw[hRs.out,b7J hk0];show(s',0+j)=_;rw[Nat.zero_add]
    have HMf:=A0 (hM.cell 9 (.int .i64 ((st:Int)+(j:Int))) (s':=s') (st':=st+j) (fun _=>rfl) rfl rfl rfl);clear hj hJs hRs hM hbk;go_wp2_with fail
    all_goals
     refine bodyPost_ret (v:= .int .i64 (j:Int)) (by simp[results,results57,go_sem]) rfl ?_;rw[HRr.out];exact⟨rfl,_,HMf.out⟩
end
section
variable{E:En}{W0:World}{S0:List Nat}{loc:List Lo}{fp:Nat}{fps:List Nat}{s:Ms}{st:Nat}{f:Fm}{fs:List Fm}
theorem b6b(w:World)(a:Option Addr)(n k:Nat)(l:List Int)(hl:l.length=n)(hn:n≤1000000000000)(hsrc:Hid (∀j u,(l.flatMap j5)[j]? =some u→∃ad,a=some ad∧w.cell? (ad.add j)=some u))(h0:a=none→n=0∧k=0):
 Calls prog 97 #[.slice a n k] w fun e w'=>∃v,e= .returned v∧w'.ownsRow w.heap.size 3 1 v n (l.flatMap j5)∧w.grownBy w' none:=by
 have hll:(l.flatMap j5).length=n:=by
  rw[←hl];clear hl hsrc;induction l with
  |nil=>rfl
  |cons x l ih=>rw[List.flatMap_cons,List.length_append,ih,List.length_cons];simp only[j5,List.length_cons,List.length_nil];omega
 cases a with
 |none=>
  obtain⟨rfl,rfl⟩:=h0 rfl;obtain rfl:=List.length_eq_zero_iff.1 hl;have hq:∀w,(binOp .eql 53 (.slice none 0 0) (.slice none 0 0)).run prog w= .ok (.bool true) w:=by intro w;kernel_rfl
  go_enter func97,ntmps97;go_wp2_with fail
  all_goals exact bodyPost_ret (v:= .slice none 0 0) (by simp[results,results97,go_sem]) rfl ⟨_,rfl,⟨by simp, .inl ⟨rfl,rfl⟩⟩,I8 _ _⟩
 |some p=>
  have hq:∀n k w,(binOp .eql 53 (.slice (some p) n k) (.slice none 0 0)).run prog w= .ok (.bool false) w:=by intro n k w;kernel_rfl
  obtain⟨inf,hi0,hz0,hz1,hz2⟩:=info_parts b3k;go_enter func97,ntmps97;have HOW:Hid ((w.alloc (.cells #[] 3)).ownsRow w.heap.size 3 1 (.slice (some ⟨w.heap.size,0,none⟩) 0 0) 0 []):=⟨rfl, .inr ⟨w.heap.size,0, #[],rfl,Nat.le_refl _,heap_alloc_new w _,Nat.le_refl _,Nat.zero_le _,rfl,rfl⟩⟩
  have hgw:=A2 w (.cells #[] 3) none;go_upto_region 3 with fail
  go_wp2_with (at_builtin;go_loud (refine a4s rfl _ _ 53 rfl w.heap.size 3 inf _ 1 8 underlying53 hi0 hz0 hz1 hz2 rfl (by decide) (some ⟨w.heap.size,0,none⟩) 0 0 [] rfl HOW.out (some p) n k (l.flatMap j5) rfl (by rw[hll,Nat.mul_one]) (fun j u hu=>by
   obtain⟨ad,e1,e2⟩:=hsrc.out j u hu;exact⟨ad,e1,hgw.cell e2 A5⟩) (fun u hu=>by
   obtain⟨x,-,hx⟩:=List.mem_flatMap.1 hu;simp only[j5,List.mem_cons,List.not_mem_nil,or_false]at hx;subst hx;simp[Value.oneCell']) (by unfold maxLen;omega) (by omega) (by simp) ?_;intro a7 k7 w7 hown7 hg7 hat7))
  all_goals
   refine bodyPost_ret (v:= .slice a7 (0+n) k7) (by simp[results,results97,go_sem]) rfl ⟨_,rfl,?_,?_⟩
   ·simpa using hown7
   ·exact D5 hgw hg7 (fun k e=>by cases e;exact .inl (Nat.le_refl _))
theorem b3l(w:World)(g:Nat)(v0 v1 v2 v3 v4:Value):
 w.grownBy (((((w.setCell ⟨g,0,none⟩ v0).setCell ⟨g,1,none⟩ v1).setCell ⟨g,2,none⟩ v2).setCell ⟨g,3,none⟩ v3).setCell ⟨g,4,none⟩ v4) (some g):=
 A1 (c3t w g v0 v1 v2 v3) (A9 _ ⟨g,4,none⟩ v4)
theorem b5E(w:World)(h:Hid (Mc E W0 S0 w fps s st loc))(hn:s.oc.out.length≤1000000000000):
 Calls prog 56 #[.pointer (some ⟨E.b,0,none⟩)] w fun e w'=>∃v,e= .returned (.agg #[.int .i64 (s.oc.kind:Int), .int .i64 s.oc.value, .string s.oc.cls,v, .int .i64 (st:Int)])∧w'.ownsRow w.heap.size 3 1 v s.oc.out.length (s.oc.out.flatMap j5)∧w.grownBy w' none:=by
 obtain⟨y,hy,hM⟩:=h.out;have hblk:=hM.mac.blk;rw[hM.bb]at hblk;have hown:=hM.mac.out;obtain⟨a,k,hov⟩:=F0 hown;rw[hov]at hown;have c5:=hblk.c5;have c6:=hblk.c6;have c7:=hblk.c7;have c8:w.cell? ⟨E.b,8,none⟩=some (.slice a s.oc.out.length k):=by rw[←hov];exact hblk.cell 8 _ rfl
 have c9:=hblk.c9;have HOw:=A0 hown
 have HCl:Hid (∀W,w.grownBy W none→Calls prog 97 #[.slice a s.oc.out.length k] W fun e w'=>∃v,e= .returned v∧w'.ownsRow W.heap.size 3 1 v s.oc.out.length (s.oc.out.flatMap j5)∧W.grownBy w' none):=fun W hW=>by
  have hr:=a1B (enc:=j5) (fun _=>rfl) (hown.kept hW (by cases hv:(Value.slice a s.oc.out.length k).ownBlock<;>simp));refine b6b W a s.oc.out.length k s.oc.out rfl hn (fun j u hu=> ?_) (fun ha=> ?_)
  ·have hj:j<s.oc.out.length:=by
    have:=(List.getElem?_eq_some_iff.1 hu).1;rw[hown.1,Nat.mul_one]at this;exact this
   obtain⟨p,hp,-,hc⟩:=hr j hj;refine⟨p,hp,?_⟩;have:=hc 0 u (by have h5:=a0T j5 1 (fun _=>rfl) s.oc.out j hj 0 (by omega);rw[Nat.mul_one,Nat.add_zero]at h5;rw[←h5];exact hu);simpa using this
  ·subst ha;rcases hown.2 with⟨h1,-⟩|⟨g,cap,cur,hv,-⟩
   ·injection h1 with _ h2 h3;exact⟨h2,h3⟩
   ·cases hv
 have hlt:=hblk.lt;clear hblk hown hov hM hy hn;go_enter func56,ntmps56;go_wp2_with (go_at_call 97;refine(HCl.out _ (A1 (A2 _ _ _) (A2 _ _ _))).mono ?_;rintro e w1 ⟨v,rfl,hown1,hg1⟩;obtain⟨va,vk,rfl⟩:=F0 hown1;have hB:=(A3.new (w.alloc (.cells #[.int .i64 0, .int .i64 0, .string ⟨#[]⟩, .slice none 0 0, .int .i64 0] 67)) #[.int .i64 (s.oc.kind:Int), .int .i64 s.oc.value, .string s.oc.cls, .slice a s.oc.out.length k, .int .i64 (st:Int)] 67).keep hg1 A5;have hA:=((A3.new w #[.int .i64 0, .int .i64 0, .string ⟨#[]⟩, .slice none 0 0, .int .i64 0] 67).keep (A2 _ (.cells #[.int .i64 (s.oc.kind:Int), .int .i64 s.oc.value, .string s.oc.cls, .slice a s.oc.out.length k, .int .i64 (st:Int)] 67) none) A5).keep hg1 A5;rw[World.size_alloc]at hB hown1;obtain⟨p0,p1,p2,p3,p4⟩:=hB.q5;obtain⟨q0,q1,q2,q3,q4⟩:=hA.q5;have z3:=hB.frozen 3;obtain⟨x0,x1,x2,x3,x4⟩:=hA.z5)
 all_goals
  have g1:=A9 w1 ⟨w.heap.size+1,3,none⟩ (.slice va s.oc.out.length vk);have g5:=b3l (w1.setCell ⟨w.heap.size+1,3,none⟩ (.slice va s.oc.out.length vk)) w.heap.size (.int .i64 (s.oc.kind:Int)) (.int .i64 s.oc.value) (.string s.oc.cls) (.slice va s.oc.out.length vk) (.int .i64 (st:Int));have hb5:=(((((hA.keep g1 (by simp)).set 0 (.int .i64 (s.oc.kind:Int))).set 1 (.int .i64 s.oc.value)).set 2 (.string s.oc.cls)).set 3 (.slice va s.oc.out.length vk)).set 4 (.int .i64 (st:Int));obtain⟨r0,r1,r2,r3,r4⟩:=hb5.q5
  have hne:∀k,k≤w.heap.size+1→(Value.slice va s.oc.out.length vk).ownBlock=none∨(Value.slice va s.oc.out.length vk).ownBlock≠some k:=fun k hk=>by
   refine .inr (fun e=> ?_);have:=(hown1.lt k e).1;simp only[World.size_alloc]at this;omega
  have ho:=P3 ((hown1.kept g1 (hne _ (Nat.le_refl _))).kept g5 (hne _ (Nat.le_succ _))) (base':=w.heap.size) (by simp only[World.size_alloc];omega);have hgw:=D5 (D5 (A1 (A1 (A2 w _ none) (A2 _ _ none)) hg1) g1 (fun k e=>by cases e;exact .inl (Nat.le_succ _))) g5 (fun k e=>by cases e;exact .inl (Nat.le_refl _));exact bodyPost_ret (v:= .agg #[.int .i64 (s.oc.kind:Int), .int .i64 s.oc.value, .string s.oc.cls, .slice va s.oc.out.length vk, .int .i64 (st:Int)]) (by simp[results,results56,go_sem,r0,r1,r2,r3,r4]) rfl ⟨_,rfl,ho,hgw⟩
end
section
variable{E:En}{W0:World}{S0:List Nat}{loc:List Lo}{fp:Nat}{fps:List Nat}{s:Ms}{st:Nat}{f:Fm}{fs:List Fm}
theorem c4l(w:World)(t:Tg)(u:Value)(h:Hid (Mc E W0 S0 w fps s st (F8 E.base u t.words::loc)))(hs:s.tg.length<100000):
 Calls prog 104 #[.pointer (some ⟨E.b,2,none⟩), .agg #[.int .i64 (t.kind:Int), .string t.cls,u]] w fun e w'=>e= .returned (.int .i64 ((s.tg.length+1:Nat):Int))∧Mc E W0 S0 w' fps {s with tg:=s.tg++ [t]} st loc:=by
 obtain⟨y,hy,hM⟩:=h.out;obtain⟨hR,hRk⟩:=hM.lc (F8 E.base u t.words) (by simp);have hge:=hM.mac.ge;have hun:=fun k hk=>(hRk k (E2.2 hk)).2.2.1
 rw[←hM.bb];refine(b1X w E.lim E.base E.cb E.fast y s st hM.mac hM.lb hM.bw hs t u hR hun).mono (fun e w' ⟨h1,v,h2,h3⟩=>⟨h1,{y with hv:=v,wv:=y.wv++ [u]},hy,?_⟩);have hge2:∀k∈y.ids++C2 u,E.base≤k:=fun k hk=>(List.mem_append.1 hk).elim (hge k) (fun h=>(hRk k h).1)
 have hbl:Below E.base w w':=⟨h3.os,h3.tape,h3.output,h3.size,fun k hk=>h3.low k (Nat.lt_of_lt_of_le hk hM.bw) (fun hm=>absurd hk (Nat.not_lt.2 (hge2 k hm)))⟩
 have hln:=hM.ln;rw[List.flatMap_cons,List.nodup_append]at hln;have hlk:∀e∈loc,∀k∈e.ids,k∉y.ids++C2 u:=fun e he k hk hm=>(List.mem_append.1 hm).elim ((hM.lc e (List.mem_cons.2 (.inr he))).2 k hk).2.2.1 (fun h=>hln.2.2 k h k (List.mem_flatMap.2 ⟨e,he,hk⟩) rfl)
 refine⟨hM.lk.below hbl hM.lb,hM.lb,Nat.le_trans hM.bw h3.size,hM.bb,h2,⟨h3.os.trans hM.only.os,h3.tape.trans hM.only.tape,h3.output.trans hM.only.output,Nat.le_trans hM.only.size h3.size,fun k hk hn2=> ?_,fun k hk=> ?_⟩,fun e he=> ?_,hln.2.1⟩
 ·exact a5r
 ·exact c5u
 ·obtain⟨h4,h5⟩:=hM.lc e (List.mem_cons.2 (.inr he));exact a2p
def thN(a:Nat):ByteArray:=[C5,a2O,a2C,a2I,a2J,a2H,a2z,a2D].getD a C5
def ThI(w:World):Prop:=0<w.heap.size∧∀a,a<8→w.cell? ⟨0,a,none⟩=some (.string (thN a))
theorem ThI.mc{w W:World}{fps:List Nat}(h:ThI w)(hM:Mc E w [] W fps s st loc):ThI W:=by
 obtain⟨y,-,hM⟩:=hM;refine⟨Nat.lt_of_lt_of_le h.1 hM.only.size,fun a ha=> ?_⟩;rw[World.cell?_of_block (hM.only.low 0 h.1 (by simp))];exact h.2 a ha
def ms0(room:Nat):Ms:=⟨[],[],room,⟨0,0,C5,[]⟩⟩
def M0C(E:En)(room:Nat):Array Value:= #[.bool E.fast, .pointer (some ⟨E.cb,0,none⟩), .slice none 0 0, .int .i64 (room:Int), .slice none 0 0, .int .i64 0, .int .i64 0, .string ⟨#[]⟩, .slice none 0 0, .int .i64 0]
theorem Mc.new(w:World)(room:Nat)(hb:E.base=w.heap.size)(hb2:E.b=w.heap.size)(h:Lk w E.lim E.cb E.L E.p E.cap E.m1 E.m2 E.m3 E.q)(hl:E.lim≤w.heap.size):Mc E w [] (w.alloc (.cells (M0C E room) 209)) [] (ms0 room) 0 []:=by
 have hg:=A2 w (.cells (M0C E room) 209) none;have hbl:=A3.new w (M0C E room) 209;refine⟨⟨w.heap.size, .slice none 0 0, .slice none 0 0, .slice none 0 0,[],[]⟩,rfl,⟨h.keep hg hl,by rw[hb];exact hl,by rw[hb];exact hg.size,hb2.symm,⟨?_,?_,rfl,rfl,?_,?_,?_,?_,?_,?_⟩,?_,?_,?_⟩⟩
 ·exact hbl
 ·rw[hb];exact Nat.le_refl _
 ·exact⟨rfl, .inl ⟨rfl,rfl⟩⟩
 ·intro j t v h1;cases h1
 ·exact⟨rfl, .inl ⟨rfl,rfl⟩⟩
 ·intro j x f h1;cases h1
 ·exact⟨rfl, .inl ⟨rfl,rfl⟩⟩
 ·simp[D8.ids,C2,Value.ownBlock]
 ·refine⟨hg.os,hg.tape,hg.output,hg.size,fun k hk _=>hg.block k hk A5,fun k hk=> ?_⟩;simp only[D8.ids,C2,Value.ownBlock,Option.toList_none,List.flatMap_nil,List.append_nil,List.mem_singleton]at hk;exact .inr (by omega)
 ·intro e he;cases he
 ·exact List.nodup_nil
theorem b6M(w:World)(hb:E.base=w.heap.size)(hb2:E.b=w.heap.size)(h:Hid (Lk w E.lim E.cb E.L E.p E.cap E.m1 E.m2 E.m3 E.q))(hl:E.lim≤w.heap.size)(hT:Hid (ThI w))(hFw:a4o E.L)(hup:∀c∈ [a2O,a2C,a2I,a2J,a2H,a2z,a2D],0<(up E.L c).length)(cls mem:ByteArray)(hc0:cls.size≤2048)(hm:mem.size≤maxLen)(hcu:0<(up E.L cls).length)(p:Nat×Nat)(hp:L3 E.L cls mem=some p)(hml:(E1 E.L p).locals≤1000)(args:List Int)(aa:Option Addr)(ak:Nat)(har:Hid (B8 w w.heap.size 1 j5 aa args))(han:args.length≤900)(room:Nat)
 (HSC:Hid (∀(s:ByteArray) (W:World),s.size≤2048→Calls prog 107 #[.string s] W fun e w'=>e= .returned (.string s)∧W.grownBy w' none)):
 Calls prog 64 #[.bool E.fast, .pointer (some ⟨E.cb,0,none⟩), .string cls, .string mem, .slice aa args.length ak, .int .i64 (room:Int)] w fun e w'=>e= .returned (.pointer (some ⟨E.b,0,none⟩))∧∃fp,Mc E w [] w' [fp] (a0R E.fast E.L cls mem args room) 0 []:=by
 have hc:cls.size≤maxLen:=by unfold maxLen;omega
 have HM0:=A0 (Mc.new w room hb hb2 h.out hl);have HB:=A0 hb2.symm;unfold M0C at HM0;clear hb hb2 hl h;go_enter func64,ntmps64;go_upto_region 3 with fail
 rw[HB.out];obtain⟨N7,hN7⟩:∃N7,N7=[a2O,a2C,a2I,a2J,a2H,a2z,a2D]:=⟨_,rfl⟩
 have HN7:Hid (N7.length=7∧(∀j (hj:j<N7.length),thN (j+1)=N7[j]∧N7[j].size≤maxLen)∧∀c∈N7,0<(up E.L c).length):=by
  rw[hN7];refine⟨rfl,fun j hj=> ?_,hup⟩;rcases(by simp at hj;omega:j=0∨j=1∨j=2∨j=3∨j=4∨j=5∨j=6)with rfl|rfl|rfl|rfl|rfl|rfl|rfl<;>first|exact⟨rfl,(show a2O.size≤maxLen by decide)⟩|exact⟨rfl,(show a2C.size≤maxLen by decide)⟩|exact⟨rfl,(show a2I.size≤maxLen by decide)⟩|exact⟨rfl,(show a2J.size≤maxLen by decide)⟩|exact⟨rfl,(show a2H.size≤maxLen by decide)⟩|exact⟨rfl,(show a2z.size≤maxLen by decide)⟩|exact⟨rfl,(show a2D.size≤maxLen by decide)⟩
 have HBl:=A0 (fun W fps s loc c (h1:c.size≤maxLen) (h2:0<(up E.L c).length) (hW:Mc E w [] W fps s 0 loc)=>b5g W hW hFw c h1 h2);have HAd:Hid (∀W fps s loc c u,s.tg.length<100000→Mc E w [] W fps s 0 (F8 E.base u (V4 E.fast E.L c).words::loc)→Calls prog 104 #[.pointer (some ⟨E.b,2,none⟩), .agg #[.int .i64 2, .string c,u]] W fun e w'=>e= .returned (.int .i64 ((s.tg.length+1:Nat):Int))∧Mc E w [] w' fps {s with tg:=s.tg++ [V4 E.fast E.L c]} 0 loc):=fun W fps s loc c u h1 hW=>c4l W (V4 E.fast E.L c) u hW h1
 have HLy:Hid (∀W fps s loc c u,s.tg.length<100000→Mc E w [] W fps s 0 (F8 E.base u (V4 E.fast E.L c).words::loc)→Calls prog 106 #[.pointer (some ⟨E.b,0,none⟩), .agg #[.int .i64 2, .string c,u]] W fun e w'=>e= .returned (.agg #[.int .i64 ((wd E.fast 3 (s.tg.length+1)).tag:Int), .int .i64 (wd E.fast 3 (s.tg.length+1)).v])∧Mc E w [] w' fps {s with tg:=s.tg++ [V4 E.fast E.L c]} 0 loc):=fun W fps s loc c u h1 hW=>c4j W (V4 E.fast E.L c) u hW h1
 have HEn:Hid (∀W ga gk given s,s.fr=[]→1≤given.length→given.length≤1000→Mc E w [] W [] s 0 [F8 E.base (.slice ga given.length gk) given]→Calls prog 109 #[.pointer (some ⟨E.b,0,none⟩), .string cls, .string mem, .slice ga given.length gk] W fun e w'=>e= .returned (.tuple #[])∧∃fp,Mc E w [] w' [fp] {s with fr:=a4d E.L cls mem given::s.fr} 0 [F8 E.base (.slice ga given.length gk) given]):=fun W ga gk given s h1 h2 h3 hW=>b6O W ga gk given hW cls mem hc hm p hp h2 h3 hml (by rw[h1];simp)
 have HCU:Hid (cls.size≤maxLen∧0<(up E.L cls).length):=⟨hc,hcu⟩
 have HM1:Hid (Mc E w [] (w.alloc (.cells #[.bool E.fast, .pointer (some ⟨E.cb,0,none⟩), .slice none 0 0, .int .i64 (room:Int), .slice none 0 0, .int .i64 0, .int .i64 0, .string ⟨#[]⟩, .slice none 0 0, .int .i64 0] 209)) [] (ms0 room) 0 []):=HM0;generalize w.alloc (.cells #[.bool E.fast, .pointer (some ⟨E.cb,0,none⟩), .slice none 0 0, .int .i64 (room:Int), .slice none 0 0, .int .i64 0, .int .i64 0, .string ⟨#[]⟩, .slice none 0 0, .int .i64 0] 209)=W1 at HM1⊢;clear HM0 hup hFw hc hm hcu hp hml;go_loopg [14] 7 (fun gk v14 W=>∃j:Nat,v14= .int .i64 ((j+1:Nat):Int)∧gk+j=7∧Mc E w [] W [] {ms0 room with tg:=(N7.take j).map (V4 E.fast E.L)} 0 [])
 case atStart=>exact⟨0,rfl,rfl,HM1.out⟩
 case round=>
  obtain⟨j,rfl,hj,hM⟩:=hrel;have hTw:=hT.out.mc hM;by_cases hlt:j<7
  ·have d1:decide (((j+1:Nat):Int)<8)=true:=decide_eq_true (by omega);have d1':decide ((j:Int)+1<8)=true:=decide_eq_true (by omega);have b1:(0:Int)≤((j+1:Nat):Int)∧((j+1:Nat):Int)<8:=by omega
   have b1':(0:Int)≤(j:Int)+1∧(j:Int)+1<8:=by omega
   have hjl:j<N7.length:=by rw[HN7.out.1];exact hlt
   obtain⟨hn1,hn2⟩:=HN7.out.2.1 j hjl;have hn3:=HN7.out.2.2 _ (List.getElem_mem hjl);have hcell:=hTw.2 (j+1) (by omega);rw[hn1]at hcell
   have HTK:Hid ((N7.take (j+1)).map (V4 E.fast E.L)=(N7.take j).map (V4 E.fast E.L)++ [V4 E.fast E.L N7[j]]∧((N7.take j).map (V4 E.fast E.L)).length<100000∧gk+j=7):=by
    refine⟨?_,by rw[List.length_map,List.length_take];omega,hj⟩;rw[List.take_succ_eq_append_getElem hjl,List.map_append];rfl
   obtain⟨c,hcc⟩:∃c,c=N7[j]:=⟨_,rfl⟩
   rw[←hcc]at hn2 hn3 hcell HTK;have HC:Hid (c.size≤maxLen∧0<(up E.L c).length):=⟨hn2,hn3⟩
   have HM:=A0 hM;have e6:IntKind.i64.wrap (((j+1:Nat):Int)+1)=((j+1+1:Nat):Int):=IntWalk.i64_in _ (by omega);have e6':IntKind.i64.wrap ((j:Int)+1+1)=((j+1+1:Nat):Int):=IntWalk.i64_in _ (by omega);clear hj hM hTw hlt hn1 hn2 hn3 hcc hjl;go_upto_region 5 with fail
   refine wp_region_held_drew (S:=fun _=>True) (by kernel_rfl) trivial (fun _=> ?_);refine A4 0 ?_;refine A4 1 ?_;refine A4 2 ?_;refine A4 3 ?_;refine A4 4 ?_;refine A4 5 ?_;refine T6 6 fun K' hK=> ?_
   go_simp
   refine hK.out _ _ trivial (fun _=> ?_);clear hK;try simp only[Act.put,lz]
   refine T6 7 fun K' hK=> ?_
   go_simp
   go_wp2_with (go_at_call 105;refine(HBl.out _ _ _ _ _ HC.out.1 HC.out.2 (HM.out.keep (B6 _ _))).mono ?_;rintro e w5 ⟨u5,rfl,hM5⟩)
   refine hK.out _ _ trivial (fun _=> ?_);clear hK;try simp only[Act.put,lz]
   refine T6 8 fun K' hK=> ?_
   go_simp
   go_wp2_with (go_at_call 104;refine(HAd.out _ _ _ _ _ _ HTK.out.2.1 hM5).mono ?_;rintro e w6 ⟨rfl,hM6⟩)
   refine hK.out _ _ trivial (fun _=> ?_);clear hK;try simp only[Act.put,lz]
   refine wpAnyH_done (by kernel_rfl) ?_ _;have HM6:Hid (Mc E w [] w6 [] {ms0 room with tg:=(N7.take (j+1)).map (V4 E.fast E.L)} 0 []):=by rw[HTK.out.1];exact hM6
   clear hM5 hM6 hcell;go_wp2_with fail
   go_roundg (gk-1)
   case rel=>exact⟨j+1,rfl,by have:=HTK.out.2.2;omega,HM6.out⟩
   case measure=>have:=HTK.out.2.2;omega
  ·have hj7:j=7:=by omega
   subst hj7;have ht7:=List.take_of_length_le (by rw[HN7.out.1];exact Nat.le_refl _);rw[ht7]at hM;have d1:decide (((7+1:Nat):Int)<8)=false:=by decide
   have hl7:({ms0 room with tg:=N7.map (V4 E.fast E.L)}:Ms).tg.length<100000:=by show(N7.map _).length<_;rw[List.length_map,HN7.out.1];decide
   have HL7:Hid (({ms0 room with tg:=N7.map (V4 E.fast E.L)}:Ms).tg.length<100000∧({ms0 room with tg:=N7.map (V4 E.fast E.L)}:Ms).tg.length+1=8):=⟨hl7,by show(N7.map _).length+1=_;rw[List.length_map,HN7.out.1]⟩
   have HM:=A0 hM;clear hj hM hTw hlt ht7 hl7
   go_upto_region 7 with(first
    |(go_at_call 106;refine(HLy.out _ _ _ _ _ _ HL7.out.1 hM4).mono ?_;rintro e w5 ⟨rfl,hM5⟩)
    |(go_at_call 105;refine(HBl.out _ _ _ _ _ HCU.out.1 HCU.out.2 (HM.out.keep hg3)).mono ?_;rintro e w4 ⟨u4,rfl,hM4⟩)
    |(go_at_call 107;refine(HSC.out _ _ hc0).mono ?_;rintro e w3 ⟨rfl,hg3⟩))
   rw[HL7.out.2]at*
   obtain⟨z8,hz8⟩:∃z8,z8=wd E.fast 3 8:=⟨_,rfl⟩
   rw[←hz8];obtain⟨sT,hsT⟩:∃sT:Ms,sT={ms0 room with tg:=N7.map (V4 E.fast E.L)++ [V4 E.fast E.L cls]}:=⟨_,rfl⟩
   have HST:Hid (sT.fr=[]∧{sT with fr:=a4d E.L cls mem (z8::args.map (wd E.fast 1))::sT.fr}=a0R E.fast E.L cls mem args room):=by
    rw[hsT,hz8,hN7];exact⟨rfl,rfl⟩
   have HM5:Hid (Mc E w [] w5 [] sT 0 []):=by rw[hsT];exact hM5
   have HM8:Hid (Mc E w [] (w5.alloc (.cells #[.int .i64 (z8.tag:Int), .int .i64 z8.v] 145)) [] sT 0 [F8 E.base (.slice (some ⟨w5.heap.size,0,none⟩) 1 1) (z8::(args.take 0).map (wd E.fast 1))]):=
    HM5.out.row (A2 _ _ _) (F8 E.base (.slice (some ⟨w5.heap.size,0,none⟩) 1 1) [z8]) ⟨rfl, .inr ⟨w5.heap.size,1,_,rfl,HM5.out.lw.1,heap_alloc_new w5 _,Nat.le_refl _,by unfold maxLen;decide,rfl,rfl⟩⟩ (fun k hk=>by simp[F8,C2,Value.ownBlock]at hk;subst hk;simp) (by simp[F8,C2,Value.ownBlock])
   generalize w5.alloc (.cells #[.int .i64 (z8.tag:Int), .int .i64 z8.v] 145)=W8 at HM8⊢;obtain⟨inf,hi0,hz0,hz1,hz2⟩:=info_parts a7r;have HW1:=A0 (fun W n=>b1e W E.fast n)
   have HNA:Hid (∀W,Mc E w [] W [] sT 0 []→∀j (hj:j<args.length),∃pq,aa=some pq∧W.cell? (pq.add j)=some (.int .i64 args[j])):=fun W hW j hj=>by
    obtain⟨pq,h1,h2,h3⟩:=har.out j hj;obtain⟨y,-,hM⟩:=hW;refine⟨pq,h1,?_⟩;have h4:=h3 0 _ rfl;rw[Nat.mul_one,Nat.add_zero]at h4;rw[World.cell?_of_block (hM.only.low _ (by rw[U9];exact h2) (by simp))];exact h4
   obtain⟨n,hn⟩:∃n,n=args.length:=⟨_,rfl⟩
   have HN:=A0 hn;rw[←hn]at han⊢;clear hM4 hM5 hg3 HM5 hsT hz8 hN7 HM HBl HAd HLy HSC HN7 d1 HL7 har HCU HM1 hn;go_upto_region 8 with fail
   go_loopg [15,47] n (fun gk v15 v47 W=>∃(j:Nat),v47= .int .i64 (j:Int)∧gk+j=n∧∃ga gk',v15= .slice ga (j+1) gk'∧Mc E w [] W [] sT 0 [F8 E.base (.slice ga (j+1) gk') (z8::(args.take j).map (wd E.fast 1))])
   case atStart=>exact⟨0,rfl,by omega,_,_,rfl,HM8.out⟩
   case round=>
    obtain⟨j,rfl,hj,ga,ck,rfl,hM⟩:=hrel;have HJG:=A0 hj;have HM:=A0 hM;by_cases hlt:j<n
    ·have d1:decide ((j:Int)<(n:Int))=true:=decide_eq_true (by omega);have d2:=decide_eq_true hlt;have b1:(0:Int)≤(j:Int)∧(j:Int)<n:=by omega
     have hjl:j<args.length:=by rw[←HN.out];exact hlt
     obtain⟨pq,hpq,hcell⟩:=HNA.out wr hM.drop1 j hjl;subst hpq;have m0:=hM.b0;have e6:IntKind.i64.wrap ((j:Int)+1)=((j+1:Nat):Int):=IntWalk.i64_in _ (by omega);obtain⟨x,hx⟩:∃x,x=args[j]:=⟨_,rfl⟩
     rw[←hx]at hcell
     have HTK:Hid (z8::(args.take (j+1)).map (wd E.fast 1)=(z8::(args.take j).map (wd E.fast 1))++ [wd E.fast 1 x]):=by
      unfold Hid;rw[List.take_succ_eq_append_getElem hjl,List.map_append,hx];rfl
     obtain⟨zx,hzx⟩:∃zx,zx=wd E.fast 1 x:=⟨_,rfl⟩
     have HWx:Hid (∀W,Calls prog 108 #[.agg #[.bool E.fast], .int .i64 x] W fun e w'=>e= .returned (.agg #[.int .i64 (zx.tag:Int), .int .i64 zx.v])∧W.grownBy w' none):=fun W=>by rw[hzx];exact HW1.out W x
     rw[←hzx]at HTK;obtain⟨ws,hws⟩:∃ws,ws=z8::(args.take j).map (wd E.fast 1):=⟨_,rfl⟩
     rw[←hws]at HM HTK;have hwl:ws.length=j+1:=by rw[hws];simp[List.length_take];omega
     have HJ:=A0 hwl;have hj9:j≤900:=by omega
     have hr0:=lrp HM.out.l0;rw[hwl]at hr0;have HBw:=A0 HM.out.lw.1;obtain⟨g0,c0,hv0,-,-⟩:=hr0.form (by omega);injection hv0 with e0 _ e00
     subst e0;subst e00;have HR0:=A0 hr0;clear hj hM hlt hjl hx hzx hws hwl hr0
     go_wp2_with (first
      |(at_builtin;go_loud (refine a4s rfl _ _ 134 rfl E.base 145 inf _ 2 16 underlying134 hi0 hz0 hz1 hz2 rfl (by decide) (some ⟨g0,0,none⟩) (j+1) ck (ws.flatMap H9) rfl HO4.out (some ⟨w4.heap.size,0,none⟩) 1 1 [.int .i64 (zx.tag:Int), .int .i64 zx.v] rfl rfl (fun jj u hu=>⟨_,rfl,S6 w4 _ _ jj u hu⟩) (by simp[Value.oneCell']) (by unfold maxLen;omega) (by omega) hb4.out ?_;intro a7 k7 w7 hown7 hg7 hat7))
      |(go_at_call 108;refine(HWx.out _).mono ?_;rintro e w4 ⟨rfl,hg4⟩;have hgA:=A1 hg4 (A2 w4 (.cells #[.int .i64 (zx.tag:Int), .int .i64 zx.v] 145) none);have HO4:Hid (_):=HR0.out.kept hgA (by simp[Value.ownBlock]);have hb4:=A0 (Nat.le_trans HBw.out hgA.size)))
     have HMA:=HM.out.keep hgA;obtain⟨g7,c7,hv7,-,-⟩:=hown7.form (by omega);injection hv7 with e7 _ e77
     subst e7;subst e77
     have hO:E8 (w4.alloc (.cells #[.int .i64 (zx.tag:Int), .int .i64 zx.v] 145)) w7 (C2 (.slice (some ⟨g0,0,none⟩) (j+1) ck)) (C2 (.slice (some ⟨g7,0,none⟩) (j+1+1) k7)):=E8.row hg7 (fun g e=>E2.2 e) (fun k hk=>by
      have e1:g7=k:=Option.some.inj (E2.1 hk);subst e1;rcases hat7 _ rfl with⟨q,h1,h2⟩|h2
      ·have h1:=Option.some.inj h1;subst h1;exact .inl (E2.2 (congrArg some h2))
      ·exact .inr h2)
     have hlg7:=(hown7.lt g7 rfl).2
     have HM7:Hid (Mc E w [] w7 [] sT 0 [F8 E.base (.slice (some ⟨g7,0,none⟩) (j+1+1) k7) (z8::(args.take (j+1)).map (wd E.fast 1))]):=by
      rw[HTK.out];refine Mc.turn (l1:=[_]) (l2:=[_]) (loc:=[]) HMA (W':=w7) (by simpa[F8]using hO) (fun e he=> ?_) (fun k hk=> ?_) ?_
      ·rw[List.mem_singleton.1 he];show w7.ownsRow _ _ _ _ _ _;rw[List.length_append,HJ.out,List.flatMap_append];exact hown7
      ·simp[F8,C2,Value.ownBlock]at hk;rw[hk];exact hlg7
      ·simp[F8,C2,Value.ownBlock]
     clear hO hown7 hg7 hat7 HMA hgA hg4 HO4;go_roundg (gk-1)
     case rel=>exact⟨j+1,rfl,by have:=HJG.out;omega,_,_,rfl,HM7.out⟩
     case measure=>have:=HJG.out;omega
    ·have hjn:j=n:=by omega
     subst hjn;have d1:decide ((j:Int)<(j:Int))=false:=decide_eq_false (by omega);have htn:=List.take_of_length_le (by rw[←HN.out];exact Nat.le_refl _);rw[htn]at HM
     have HG:Hid (∀given,given=z8::args.map (wd E.fast 1)→given.length=j+1→Calls prog 109 #[.pointer (some ⟨E.b,0,none⟩), .string cls, .string mem, .slice ga (j+1) ck] wr fun e w'=>e= .returned (.tuple #[])∧∃fp,Mc E w [] w' [fp] (a0R E.fast E.L cls mem args room) 0 []):=fun given h1 h2=>by
      have:=HEn.out wr ga ck given sT HST.out.1 (by omega) (by omega) (by rw[h2,h1];exact HM.out);rw[h2]at this;rw[←HST.out.2,←h1];exact this.mono (fun e w' ⟨h3,fp,h4⟩=>⟨h3,fp,h4.drop1⟩)
     have HG3:=A0 (HG.out _ rfl (by rw[List.length_cons,List.length_map,←HN.out]));clear HG htn hj hM;go_wp2_with (go_at_call 109;refine HG3.out.mono ?_;rintro e w8 ⟨rfl,hfin⟩)
     all_goals exact bodyPost_ret (v:= .pointer (some ⟨E.b,0,none⟩)) (by simp[results,results64,go_sem]) rfl ⟨rfl,hfin⟩
end
section
variable{E:En}{W0:World}{S0:List Nat}{loc:List Lo}{fp:Nat}{fps:List Nat}{s:Ms}{st:Nat}{f:Fm}{fs:List Fm}
def okA(t:Ty)(a:Int):Bool:=decide (t.kind=1)&&decide (-2147483648≤a)&&decide (a≤2147483647)
def m9(params:List Ty)(args:List Int):Bool:=decide (params.length=args.length)&&(List.range args.length).all fun i=>okA (params.getD i B1) (args.getD i 0)
variable {ps:List Ty}
variable {az:List Int}
theorem c0B(h:ps.length=az.length)(ha:∀i,i<az.length→okA (ps.getD i B1) (az.getD i 0)=true):m9 ps az=true:=by
 unfold m9;rw[decide_eq_true h,Bool.true_and,List.all_eq_true];exact fun i hi=>ha i (List.mem_range.1 hi)
theorem a9i{i:Nat}(hi:i<az.length)(ha:okA (ps.getD i B1) (az.getD i 0)=false):m9 ps az=false:=by
 unfold m9;rw[Bool.and_eq_false_iff];refine .inr ?_;rw[List.all_eq_false];exact⟨i,List.mem_range.2 hi,by rw[ha];simp⟩
theorem b7o(w:World)(l1 l2:Nat)(ps:List Ty)(az:List Int)(pa aa:Option Addr)(pk ak:Nat)(hp:Hid (B8 w l1 2 C9 pa ps))(ha:Hid (B8 w l2 1 j5 aa az))(hn:az.length≤1000000000000):
 Calls prog 63 #[.slice pa ps.length pk, .slice aa az.length ak] w fun e w'=>e= .returned (.bool (m9 ps az))∧w.grownBy w' none:=by
 obtain⟨r,hr⟩:∃r,r=m9 ps az:=⟨_,rfl⟩
 have HRR:=A0 hr;rw[←hr];obtain⟨m,hm⟩:∃m,m=ps.length:=⟨_,rfl⟩
 obtain⟨n,hnn⟩:∃n,n=az.length:=⟨_,rfl⟩
 have HL:Hid (m=ps.length∧n=az.length):=⟨hm,hnn⟩
 rw[←hnn]at hn;rw[←hm,←hnn];clear hr hm hnn;by_cases hmn:m=n
 ·subst hmn;have HLE:Hid (ps.length=az.length):=by unfold Hid;rw[←HL.out.1,←HL.out.2]
  go_enter func63,ntmps63;go_upto_region 4 with fail
  go_loopg [14] m (fun gk v14 W=>∃j:Nat,v14= .int .i64 (j:Int)∧gk+j=m∧Hid (∀i,i<j→okA (ps.getD i B1) (az.getD i 0)=true)∧W=w)
  case atStart=>exact⟨0,rfl,by omega,fun i hi=>absurd hi (Nat.not_lt_zero _),rfl⟩
  case round=>
   obtain⟨j,rfl,hj,HOK,hw⟩:=hrel;subst hw;have HJ:=A0 hj;by_cases hlt:j<m
   ·have d1:decide ((j:Int)<(m:Int))=true:=decide_eq_true (by omega);have d2:=decide_eq_true hlt;have b1:(0:Int)≤(j:Int)∧(j:Int)<m:=by omega
    have hjp:j<ps.length:=by rw[←HL.out.1];exact hlt
    have hja:j<az.length:=by rw[←HL.out.2];exact hlt
    obtain⟨pp,hpp,-,hpc⟩:=hp.out j hjp;obtain⟨qq,hqq,-,hqc⟩:=ha.out j hja;subst hpp;subst hqq;obtain⟨t,ht⟩:∃t,t=ps[j]:=⟨_,rfl⟩
    obtain⟨a,hav⟩:∃a,a=az[j]:=⟨_,rfl⟩
    have hpt:ps.getD j B1=t:=by rw[ht];simp[hjp]
    have hat:az.getD j 0=a:=by rw[hav];simp[hja]
    have y0:wr.cell? (pp.add (j*2))=some (.int .i64 (t.kind:Int)):=by have:=hpc 0 _ rfl;rw[Nat.add_zero]at this;rw[ht];exact this
    have y1:wr.cell? (qq.add j)=some (.int .i64 a):=by have:=hqc 0 _ rfl;rw[Nat.add_zero,Nat.mul_one]at this;rw[hav];exact this
    have HG:Hid (ps.getD j B1=t∧az.getD j 0=a∧j<az.length):=⟨hpt,hat,hja⟩
    have e6:IntKind.i64.wrap ((j:Int)+1)=((j+1:Nat):Int):=IntWalk.i64_in _ (by omega);clear hpc hqc ht hav hpt hat hjp hja hj hlt;by_cases h1:t.kind=1
    ·have k1:((t.kind:Int)==1)=true:=by simp[h1]
     have k1':decide ((t.kind:Int)≠1)=false:=by simp[h1]
     by_cases h2:a< -2147483648
     ·have k2:=decide_eq_true h2
      have HR:Hid (r=false):=by
       unfold Hid;rw[HRR.out];refine a9i HG.out.2.2 ?_;rw[HG.out.1,HG.out.2.1];unfold okA;have:¬(-2147483648:Int)≤a:=by omega
       simp[this]
      exact c6h
     ·have k2:=decide_eq_false h2;by_cases h3:a≤2147483647
      ·have k3:decide (2147483647<a)=false:=decide_eq_false (by omega)
       have HOK2:Hid (∀i,i<j+1→okA (ps.getD i B1) (az.getD i 0)=true):=fun i hi=>by
        rcases Nat.lt_succ_iff_lt_or_eq.1 hi with h|h
        ·exact HOK.out i h
        ·rw[h,HG.out.1,HG.out.2.1];unfold okA;have:(-2147483648:Int)≤a:=by omega
         simp[this,h1,h3]
       go_wp2_with fail
       go_roundg (gk-1)
       case rel=>exact⟨j+1,rfl,by have:=HJ.out;omega,HOK2,rfl⟩
       case measure=>have:=HJ.out;omega
      ·have k3:decide (2147483647<a)=true:=decide_eq_true (by omega)
       have HR:Hid (r=false):=by
        unfold Hid;rw[HRR.out];refine a9i HG.out.2.2 ?_;rw[HG.out.1,HG.out.2.1];unfold okA;simp[h3]
       exact c6h
    ·have k1:((t.kind:Int)==1)=false:=by simp;omega
     have HR:Hid (r=false):=by
      unfold Hid;rw[HRR.out];refine a9i HG.out.2.2 ?_;rw[HG.out.1,HG.out.2.1];unfold okA;simp[h1]
     go_wp2_with fail
     all_goals exact bodyPost_ret (v:= .bool false) (by simp[results,results63,go_sem]) rfl ⟨by rw[HR.out],I8 _ _⟩
   ·have hjn:j=m:=by omega
    subst hjn;have d1:decide ((j:Int)<(j:Int))=false:=decide_eq_false (by omega)
    have HR:Hid (r=true):=by
     unfold Hid;rw[HRR.out];exact c0B HLE.out (fun i hi=>HOK.out i (by rw[HL.out.2];exact hi))
    go_wp2_with fail
    all_goals exact bodyPost_ret (v:= .bool true) (by simp[results,results63,go_sem]) rfl ⟨by rw[HR.out],I8 _ _⟩
 ·have k0:((m:Int)==(n:Int))=false:=by simp;omega
  have HR:Hid (r=false):=by
   unfold Hid;rw[HRR.out];unfold m9;rw[←HL.out.1,←HL.out.2,decide_eq_false hmn,Bool.false_and]
  go_enter func63,ntmps63;go_wp2_with fail
  all_goals exact bodyPost_ret (v:= .bool false) (by simp[results,results63,go_sem]) rfl ⟨by rw[HR.out],I8 _ _⟩
end
section
variable{E:En}{W0:World}{S0:List Nat}{loc:List Lo}{fp:Nat}{fps:List Nat}{s:Ms}{st:Nat}{f:Fm}{fs:List Fm}
structure b3y(L:List Cl):Prop where
 few:a4o L
 up0:∀c∈ [a2O,a2C,a2I,a2J,a2H,a2z,a2D],0<(up L c).length
 upm:∀cls mem p,L3 L cls mem=some p→0<(up L cls).length∧cls.size≤2048∧(E1 L p).locals≤1000∧(E1 L p).params.length≤900
def b3w(L:List Cl)(lim P:Nat)(fast ck:Bool)(cls mem:ByteArray)(args:List Int)(room:Int)(w:World)(e:Ending)(w':World):Prop:=
 (fast=true∧ck=false∧e= .returned (.tuple #[.pointer none, .int .i64 18])∧w.grownBy w' none)∨
 (¬(fast=true∧ck=false)∧L3 L cls mem=none∧e= .returned (.tuple #[.pointer none, .int .i64 16])∧w.grownBy w' none)∨
 (¬(fast=true∧ck=false)∧∃p,L3 L cls mem=some p∧(m9 (E1 L p).params args=false∨room<0∨2000<room)∧e= .returned (.tuple #[.pointer none, .int .i64 17])∧w.grownBy w' none)∨
 (¬(fast=true∧ck=false)∧∃p,L3 L cls mem=some p∧m9 (E1 L p).params args=true∧0≤room∧room≤2000∧∃(E:En) (W:World) (fp R:Nat),w.grownBy W none∧E.lim=lim∧E.cb=P∧E.fast=fast∧E.L=L∧E.base=W.heap.size∧e= .returned (.tuple #[.pointer (some ⟨R,0,none⟩), .int .i64 0])∧Mc E W [] w' [fp] (a0R fast L cls mem args room.toNat) 0 [F4 R #[.pointer (some ⟨E.b,0,none⟩)] 133])
theorem b6D(w:World)(lim P:Nat)(L:List Cl)(p:Addr)(cap m1 m2 m3:Nat)(q:Nat→Qs)(h:Hid (Lk w lim P L p cap m1 m2 m3 q))(hl:lim≤w.heap.size)(hF:b3y L)(hT:Hid (ThI w))(ck fast:Bool)(c4:w.cell? ⟨P,4,none⟩=some (.bool ck))(cls mem:ByteArray)(hc:cls.size≤maxLen)(hm:mem.size≤maxLen)(args:List Int)(aa:Option Addr)(ak:Nat)(har:Hid (B8 w w.heap.size 1 j5 aa args))(han:args.length≤1000000000000)(room:Int)(hro: -1000000000000≤room∧room≤1000000000000):
 Calls prog 32 #[.pointer (some ⟨P,0,none⟩), .bool fast, .string cls, .string mem, .slice aa args.length ak, .int .i64 room] w (b3w L lim P fast ck cls mem args room w):=by
 have HMe:=A0 (b5K w lim P L p cap m1 m2 m3 q h.out.kls hl h.out.up h.out.dist h.out.named h.out.sm h.out.pm cls mem hc hm);have HPL:=A0 (Nat.lt_of_lt_of_le h.out.kls.b_lt hl);have HC4:=A0 (fun W (hW:w.grownBy W none)=>hW.cell c4 A5);have HAF:Hid (∀W (ps:List Ty) (pa:Option Addr) (pk:Nat),w.grownBy W none→B8 W lim 2 C9 pa ps→Calls prog 63 #[.slice pa ps.length pk, .slice aa args.length ak] W fun e w'=>e= .returned (.bool (m9 ps args))∧W.grownBy w' none):=fun W ps pa pk hW hp=>b7o W lim w.heap.size ps args pa aa pk ak hp (har.out.keep hW) han
 have HMS:Hid (∀W pp,w.grownBy W none→L3 L cls mem=some pp→m9 (E1 L pp).params args=true→0≤room→Calls prog 64 #[.bool fast, .pointer (some ⟨P,0,none⟩), .string cls, .string mem, .slice aa args.length ak, .int .i64 room] W fun e w'=>∃(E:En) (fp:Nat),E.lim=lim∧E.cb=P∧E.fast=fast∧E.L=L∧E.base=W.heap.size∧e= .returned (.pointer (some ⟨E.b,0,none⟩))∧Mc E W [] w' [fp] (a0R fast L cls mem args room.toNat) 0 []):=fun W pp hW hpp hap h0=>by
  obtain⟨u1,u2,u3,u4⟩:=hF.upm cls mem pp hpp
  have hln:(E1 L pp).params.length=args.length:=by
   unfold m9 at hap;exact of_decide_eq_true (Bool.and_eq_true_iff.1 hap).1
  have hTW:ThI W:=⟨Nat.lt_of_lt_of_le hT.out.1 hW.size,fun a ha=>hW.cell (hT.out.2 a ha) A5⟩
  have:=b6M (E:=⟨lim,W.heap.size,P,fast,L,p,cap,m1,m2,m3,q,W.heap.size⟩) W rfl rfl (h.out.keep hW hl) (Nat.le_trans hl hW.size) hTW hF.few hF.up0 cls mem u2 hm u1 pp hpp u3 args aa ak (fun j hj=>by
   obtain⟨pq,h1,h2,h3⟩:=har.out.keep hW j hj;exact⟨pq,h1,Nat.lt_of_lt_of_le h2 hW.size,h3⟩) (by omega) room.toNat (fun s W hs=>b8G s W hs)
  rw[show((room.toNat:Nat):Int)=room by omega]at this;exact this.mono (fun e w' ⟨h1,fp,h2⟩=>⟨_,fp,rfl,rfl,rfl,rfl,rfl,h1,h2⟩)
 obtain⟨mo,hmo⟩:∃mo,mo=L3 L cls mem:=⟨_,rfl⟩
 have HMO:=A0 hmo;rw[←hmo]at HMe;obtain⟨Q,hQ⟩:∃Q,Q=b3w L lim P fast ck cls mem args room w:=⟨_,rfl⟩
 have HQ:=A0 hQ;rw[←hQ];clear h hmo hQ har hT c4 hF hl hc hm;go_enter func32,ntmps32;cases mo with
 |none=>
  have HMn:Hid (Calls prog 62 #[.pointer (some ⟨P,0,none⟩), .string cls, .string mem] w fun e w'=>w.grownBy w' none∧e= .returned (.tuple #[.agg mZ, .bool false])):=HMe;clear HMe;go_upto_region 2 with(go_at_call 62;refine HMn.out.mono ?_;rintro e w1 ⟨hg1,rfl⟩)
  have hg2:=A1 hg1 (A2 w1 (.cells mZ 102) none);have c4':=HC4.out _ hg2;generalize w1.alloc (.cells mZ 102)=W2 at hg2 c4'⊢;have HG2:=A0 hg2;clear hg2;cases fast
  case' true=>cases ck
  case true.false=>
   go_wp2_with fail
   all_goals(rw[HQ.out];exact .inl ⟨rfl,rfl,rfl,HG2.out⟩)
  all_goals
   go_wp2_with fail
   all_goals(rw[HQ.out];exact .inr (.inl ⟨by simp,HMO.out.symm,rfl,HG2.out⟩))
 |some pp=>
  have HMs:Hid (Calls prog 62 #[.pointer (some ⟨P,0,none⟩), .string cls, .string mem] w fun e w'=>w.grownBy w' none∧∃(pa ca ha:Option Addr) (pk ck hk:Nat),e= .returned (.tuple #[.agg #[.string (E1 L pp).name, .slice pa (E1 L pp).params.length pk, .int .i64 (E1 L pp).ret.kind, .string (E1 L pp).ret.name, .int .i64 (E1 L pp).stack, .int .i64 (E1 L pp).locals, .slice ca (E1 L pp).code.length ck, .slice ha (E1 L pp).handlers.length hk], .bool true])∧B8 w lim 2 C9 pa (E1 L pp).params):=HMe.out.mono (fun e w' ⟨h1,pa,ca,ha,pk,ck,hk,h2,h3,_⟩=>⟨h1,pa,ca,ha,pk,ck,hk,h2,h3⟩);clear HMe;go_upto_region 2 with(go_at_call 62;refine HMs.out.mono ?_;rintro e w1 ⟨hg1,pa,ca,ha,pk,ck2,hk,rfl,hpa⟩)
  have hg2:=A1 hg1 (A2 w1 (.cells #[.string (E1 L pp).name, .slice pa (E1 L pp).params.length pk, .int .i64 ((E1 L pp).ret.kind:Int), .string (E1 L pp).ret.name, .int .i64 ((E1 L pp).stack:Int), .int .i64 ((E1 L pp).locals:Int), .slice ca (E1 L pp).code.length ck2, .slice ha (E1 L pp).handlers.length hk] 102) none);have hB2:=A3.new w1 #[.string (E1 L pp).name, .slice pa (E1 L pp).params.length pk, .int .i64 ((E1 L pp).ret.kind:Int), .string (E1 L pp).ret.name, .int .i64 ((E1 L pp).stack:Int), .int .i64 ((E1 L pp).locals:Int), .slice ca (E1 L pp).code.length ck2, .slice ha (E1 L pp).handlers.length hk] 102;have c4':=HC4.out _ hg2;generalize w1.alloc (.cells #[.string (E1 L pp).name, .slice pa (E1 L pp).params.length pk, .int .i64 ((E1 L pp).ret.kind:Int), .string (E1 L pp).ret.name, .int .i64 ((E1 L pp).stack:Int), .int .i64 ((E1 L pp).locals:Int), .slice ca (E1 L pp).code.length ck2, .slice ha (E1 L pp).handlers.length hk] 102)=W2 at hg2 hB2 c4'⊢;have x1:=hB2.c1;have HG2:=A0 hg2;have HPA:=A0 (B8.keep hpa hg2);clear hg2 hB2 hpa hg1;cases fast
  case' true=>cases ck
  case true.false=>
   go_wp2_with fail
   all_goals(rw[HQ.out];exact .inl ⟨rfl,rfl,rfl,HG2.out⟩)
  all_goals
   cases hap:m9 (E1 L pp).params args with
   |false=>
    have HA2:Hid (Calls prog 63 #[.slice pa (E1 L pp).params.length pk, .slice aa args.length ak] W2 fun e w'=>e= .returned (.bool false)∧W2.grownBy w' none):=by have:=HAF.out W2 (E1 L pp).params pa pk HG2.out HPA.out;rw[hap]at this;exact this
    go_wp2_with (go_at_call 63;refine HA2.out.mono ?_;rintro e w3 ⟨rfl,hg3⟩)
    all_goals(rw[HQ.out];exact .inr (.inr (.inl ⟨by simp,pp,HMO.out.symm, .inl hap,rfl,A1 HG2.out hg3⟩)))
   |true=>
    have HA2:Hid (Calls prog 63 #[.slice pa (E1 L pp).params.length pk, .slice aa args.length ak] W2 fun e w'=>e= .returned (.bool true)∧W2.grownBy w' none):=by have:=HAF.out W2 (E1 L pp).params pa pk HG2.out HPA.out;rw[hap]at this;exact this
    by_cases r0:room<0
    ·have d0:=decide_eq_true r0;go_wp2_with (go_at_call 63;refine HA2.out.mono ?_;rintro e w3 ⟨rfl,hg3⟩)
     all_goals(rw[HQ.out];exact .inr (.inr (.inl ⟨by simp,pp,HMO.out.symm, .inr (.inl r0),rfl,A1 HG2.out hg3⟩)))
    ·have d0:=decide_eq_false r0;by_cases r1:2000<room
     ·have d1:=decide_eq_true r1;go_wp2_with (go_at_call 63;refine HA2.out.mono ?_;rintro e w3 ⟨rfl,hg3⟩)
      all_goals(rw[HQ.out];exact .inr (.inr (.inl ⟨by simp,pp,HMO.out.symm, .inr (.inr r1),rfl,A1 HG2.out hg3⟩)))
     ·have d1:=decide_eq_false r1;have HM2:Hid (∀W,w.grownBy W none→_):=fun W hW=>HMS.out W pp hW HMO.out.symm hap (by omega)
      have HRO:Hid (¬room<0∧¬2000<room∧m9 (E1 L pp).params args=true):=⟨r0,r1,hap⟩
      clear r0 r1 hap
      go_wp2_with (first
       |(go_at_call 64;refine Calls.mono (HM2.out _ (A1 HG2.out hg3)) ?_;rintro e w4 ⟨E,fp,e1,e2,e3,e4,e5,rfl,hM4⟩)
       |(go_at_call 63;refine HA2.out.mono ?_;rintro e w3 ⟨rfl,hg3⟩))
      all_goals(rw[HQ.out];exact .inr (.inr (.inr ⟨by simp,pp,HMO.out.symm,HRO.out.2.2,by have:=HRO.out.1;omega,by have:=HRO.out.2.1;omega,E,w3,fp,w4.heap.size,A1 HG2.out hg3,e1,e2,e3,e4,e5,rfl,hM4.alloc _ _⟩)))
end
section
variable{E:En}{W0:World}{S0:List Nat}{loc:List Lo}{fp:Nat}{fps:List Nat}{s:Ms}{st:Nat}{f:Fm}{fs:List Fm}
theorem b7L(w:World)(R:Nat)(h:Hid (Mc E W0 S0 w fps s st (F4 R #[.pointer (some ⟨E.b,0,none⟩)] 133::loc)))(J:Nat→Ms→Prop)(hJ:J 0 s)(hO:∀k s,k≤5000→J k s→s.oc.kind=0→Ok1 E s)(hS:∀k s s',J k s→s.oc.kind=0→a0E E.fast E.L s=some s'→J (k+1) s')(n:Nat)(hn:n≤1000000)(hst:st≤1000000000000):
 Calls prog 25 #[.pointer (some ⟨R,0,none⟩), .int .i64 (n:Int)] w fun e w'=>e= .returned (.int .i64 ((T5 E.fast E.L (min n 5000) s).2:Int))∧∃fps',Mc E W0 S0 w' fps' (T5 E.fast E.L (min n 5000) s).1 (st+(T5 E.fast E.L (min n 5000) s).2) (F4 R #[.pointer (some ⟨E.b,0,none⟩)] 133::loc):=by
 obtain⟨r,hr⟩:∃r,r=T5 E.fast E.L (min n 5000) s:=⟨_,rfl⟩
 have HS:Hid (Calls prog 57 #[.pointer (some ⟨E.b,0,none⟩), .int .i64 (n:Int)] w fun e w'=>e= .returned (.int .i64 (r.2:Int))∧∃fps',Mc E W0 S0 w' fps' r.1 (st+r.2) (F4 R #[.pointer (some ⟨E.b,0,none⟩)] 133::loc)):=by rw[hr];exact b7D w h J hJ hO hS n hn hst
 rw[←hr];have r0:=(N6 h.out.l0).c0;clear hr hJ hO hS;go_enter func25,ntmps25;go_wp2_with (go_at_call 57;refine HS.out.mono ?_;rintro e w1 ⟨rfl,hM⟩)
 all_goals exact bodyPost_ret (v:= .int .i64 (r.2:Int)) (by simp[results,results25,go_sem]) rfl ⟨rfl,hM⟩
theorem b9i(w:World)(R:Nat)(h:Hid (Mc E W0 S0 w fps s st (F4 R #[.pointer (some ⟨E.b,0,none⟩)] 133::loc)))(hn:s.oc.out.length≤1000000000000):
 Calls prog 24 #[.pointer (some ⟨R,0,none⟩)] w fun e w'=>∃v,e= .returned (.agg #[.int .i64 (s.oc.kind:Int), .int .i64 s.oc.value, .string s.oc.cls,v, .int .i64 (st:Int)])∧w'.ownsRow w.heap.size 3 1 v s.oc.out.length (s.oc.out.flatMap j5)∧w.grownBy w' none:=by
 have HO:=A0 (fun W hW=>b5E W (h.out.keep hW) hn);have r0:=(N6 h.out.l0).c0;have hRl:=(N6 h.out.l0).lt;have HRl:Hid (w.cell? ⟨R,0,none⟩=some (.pointer (some ⟨E.b,0,none⟩))):=r0;clear h hn;go_enter func24,ntmps24;go_wp2_with (go_at_call 56;refine(HO.out _ (A2 _ _ none)).mono ?_;rintro e w1 ⟨v,rfl,hown1,hg1⟩;obtain⟨va,vk,rfl⟩:=F0 hown1;have hA:=(A3.new w #[.int .i64 0, .int .i64 0, .string ⟨#[]⟩, .slice none 0 0, .int .i64 0] 67).keep hg1 A5;obtain⟨q0,q1,q2,q3,q4⟩:=hA.q5;obtain⟨x0,x1,x2,x3,x4⟩:=hA.z5)
 all_goals
  have g5:=b3l w1 w.heap.size (.int .i64 (s.oc.kind:Int)) (.int .i64 s.oc.value) (.string s.oc.cls) (.slice va s.oc.out.length vk) (.int .i64 (st:Int));have hb5:=((((hA.set 0 (.int .i64 (s.oc.kind:Int))).set 1 (.int .i64 s.oc.value)).set 2 (.string s.oc.cls)).set 3 (.slice va s.oc.out.length vk)).set 4 (.int .i64 (st:Int));obtain⟨r0,r1,r2,r3,r4⟩:=hb5.q5
  have hne:(Value.slice va s.oc.out.length vk).ownBlock=none∨(Value.slice va s.oc.out.length vk).ownBlock≠some w.heap.size:=by
   refine .inr (fun e=> ?_);have:=(hown1.lt _ e).1;simp only[World.size_alloc]at this;omega
  have ho:=P3 (hown1.kept g5 hne) (base':=w.heap.size) (by simp only[World.size_alloc];omega);have hgw:=D5 (A1 (A2 w _ none) hg1) g5 (fun k e=>by cases e;exact .inl (Nat.le_refl _));exact bodyPost_ret (v:= .agg #[.int .i64 (s.oc.kind:Int), .int .i64 s.oc.value, .string s.oc.cls, .slice va s.oc.out.length vk, .int .i64 (st:Int)]) (by simp[results,results24,go_sem,r0,r1,r2,r3,r4]) rfl ⟨_,rfl,ho,hgw⟩
end
end Kx
end
end Go.Proofs.YtdhophglnhcjbaaGreatDoor
