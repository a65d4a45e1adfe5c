/- P10: a part of the proof that the last text tells. -/
import Derived.Test.YtdhophglnhcjbaaGreatDoorP09
import Derived.Deep.Cut
import Derived.Test.YtdhophglnhcjbaaGreatDoorP04
import Derived.Test.YtdhophglnhcjbaaGreatDoorP06
set_option linter.all false
namespace Go.Proofs.YtdhophglnhcjbaaGreatDoor
open Go.RowKit Cf
set_option maxRecDepth 100000 in
set_option maxHeartbeats 2000000 in
theorem a8N(w:World)(f:ByteArray)(_hf:f.size≤maxLen):
 Calls Tryz.prog 66 #[.string f] w (a5S w (F7 f)):=by
 go_enter Tryz.func66,Tryz.ntmps66;by_cases hb:2048<f.size
 ·have hd:F7 f= .error (1,0):=by simp only[F7,hb,if_true]
  have hB0:=A3.new w #[.string ⟨#[]⟩, .string ⟨#[]⟩, .slice none 0 0, .slice none 0 0] 44;have z0:=hB0.frozen 0;have z1:=hB0.frozen 1;have z2:=hB0.frozen 2;have z3:=hB0.frozen 3;have c0:=hB0.cell 0 _ rfl;have c1:=hB0.cell 1 _ rfl;have c2:=hB0.cell 2 _ rfl;have c3:=hB0.cell 3 _ rfl;go_wp2_with fail
  rw[hd];refine bodyPost_ret (v:= .tuple #[.agg #[.string ⟨#[]⟩, .string ⟨#[]⟩, .slice none 0 0, .slice none 0 0], .int .i64 1, .int .i64 0]) (a7n _ _ w.heap.size _ _ _ _ _ _ _ rfl rfl rfl hB0) rfl ?_;exact⟨A2 w _ none,_,(1,0),rfl,rfl,rfl⟩
 ·have H2048:=A0 hb;have hfs:f.size≤2048:=by omega
  have hO:=(A3.new w #[.string ⟨#[]⟩, .string ⟨#[]⟩, .slice none 0 0, .slice none 0 0] 44).keep (A2 _ (.cells #[.string f, .int .i64 0, .slice none 0 0, .int .i64 (-1), .int .i64 0, .int .i64 0] 241) none) (by simp);have hB1:=A3.new (w.alloc (.cells #[.string ⟨#[]⟩, .string ⟨#[]⟩, .slice none 0 0, .slice none 0 0] 44)) #[.string f, .int .i64 0, .slice none 0 0, .int .i64 (-1), .int .i64 0, .int .i64 0] 241;simp only[a5n]at hB1;obtain⟨wa,hwa⟩:∃wa,wa=(w.alloc (.cells #[.string ⟨#[]⟩, .string ⟨#[]⟩, .slice none 0 0, .slice none 0 0] 44)).alloc (.cells #[.string f, .int .i64 0, .slice none 0 0, .int .i64 (-1), .int .i64 0, .int .i64 0] 241):=⟨_,rfl⟩
  have HG0:Hid (w.grownBy wa none):=by rw[hwa];exact A1 (A2 _ _ _) (A2 _ _ _)
  rw[←hwa]at hO hB1;have HO:=A0 hO;have HE:Hid (D9 wa (w.heap.size+1) f (.slice none 0 0) (.ok ⟨0,0,[]⟩)):=⟨⟨hfs,Nat.zero_le _,Nat.zero_le _,Nat.zero_le _⟩,hB1,World.ownsRow_nil _ _ _ _,hfs,Nat.zero_le _,Nat.zero_le _,by simp,by simp⟩
  clear hO hB1;go_wp2_with fail
  rw[←hwa];clear hwa;obtain⟨E,hE⟩:∃E,E=w.heap.size+1:=⟨_,rfl⟩
  rw[←hE]at HE⊢;have hER:E≠w.heap.size:=by omega
  have hEw:w.heap.size≤E:=by omega
  clear hE
  refine a1R (J:=a6n f w.heap.size E (fun wr=>∃s1 s2:Except Er St,C8 (.ok ⟨0,0,[]⟩) (I8 f 87 0) () s1∧C8 s1 (I8 f 49 1) () s2∧(∀st,s2= .ok st→st.pool=[])∧
   D9 wr E f (.slice none 0 0) s2∧A3 wr w.heap.size #[.string ⟨#[]⟩, .string ⟨#[]⟩, .slice none 0 0, .slice none 0 0] 44∧w.grownBy wr none)) ?_ ?_
  ·rintro a wr ⟨⟨s1,s2,q1,q2,hp,he,ho,hg⟩,t,rfl⟩;clear HE HO HG0;have Q1:=A0 q1;have Q2:=A0 q2;have HP:=A0 hp;have HE:=A0 he;have HO:=A0 ho;have HG:=A0 hg;obtain⟨x,c4,hx⟩:=he.errCell;clear he ho hg hp q1 q2;dsimp only[a7W];go_upto_if 46 with(fail)
   go_cut []from 42 (fun wx=>∃(xs:List Unit) (s3:Except Er St) (pv:Value),C8 s2 (D5 f 1 (K0 f)) xs s3∧D9 wx E f pv s3∧A3 wx w.heap.size #[.string ⟨#[]⟩, .string ⟨#[]⟩, .slice none 0 0, .slice none 0 0] 44∧w.grownBy wx none)
   case first=>
    rcases hx with⟨rfl,st,rfl⟩|⟨hne,er,rfl⟩
    ·go_wp2_with (go_at_call 116;refine(b6f wr E f st HE (HP.out st rfl)).mono ?_)
     intro e w3 hep;obtain⟨rfl,hg3,pv,xs,s3,he3,sn⟩:=b5C hep;dsimp only;go_wp2_with fail
     go_meet
     case rel=>exact⟨xs,s3,pv,sn,he3,HO.out.keep hg3 (by simp;omega),C7 HG.out hg3 (fun k e=> .inl (by cases e;exact hEw))⟩
    ·have hne':¬(x:Int)=0:=by omega
     go_wp2_with fail
     go_meet
     case rel=>exact⟨[], .error er,_,a8W _ _ _,HE.out,HO.out,HG.out⟩
   case rest=>
    obtain⟨xs,s3,pv,q3,he,ho,hg⟩:=hcut;clear hx c4 HE HO HG HP;have Q3:=A0 q3;have HE:=A0 he;have HO:=A0 ho;have HG:=A0 hg;clear q3 he ho hg
    go_wp2_with (first
     |(go_at_call 114
       have HC2a:Hid (DS w w.heap.size E w1.heap.size f pv #[.string nm, .string sp, .slice none 0 0, .slice none 0 0] s5 (w2.setCell ⟨w1.heap.size,1,none⟩ (.string sp))):=HC2.out.setC hwC (by omega) (by omega) hpC 1 _;refine G9.bind (X3 _ E f pv s5 1 HC2a.out.eye (by omega)) ?_;rintro n1 v w3 H3 rfl hs3 hg3;obtain⟨s6,hs6e⟩:∃s6,s6=E6 (C6 s5 (A9 f 1)):=⟨_,rfl⟩
       rw[←hs6e]at hs3;have HC3:=A0 (HC2a.out.step hg3 hs3.out hEw (by omega) hER);have M3:Hid (K3 f 1 (Y6 f) s5 n1 0 [] s6):=by rw[hs6e];exact K3.start H3.out
       clear hs6e hs3 hg3 H3 HC2a HC2 z1 d1;try dsimp only)
     |(go_at_call 117
       refine G9.bind (a2t _ E f pv s4 HC1.out.eye) ?_;rintro sp v w2 H2 rfl hs2 hg2;obtain⟨s5,hs5e⟩:∃s5,s5=E6 (C6 s4 (name f)):=⟨_,rfl⟩
       rw[←hs5e]at hs2;have Q5:Hid (C8 s4 (name f) sp s5):=⟨H2.out,hs5e.symm⟩
       have HC2:=A0 (HC1.out.step hg2 hs2.out hEw (by omega) hER);have z1:=HC2.out.me.frozen 1;have d1:=HC2.out.me.cell 1 _ rfl;clear hs5e hs2 hg2 H2 HC1;try dsimp only)
     |(go_at_call 117
       refine G9.bind (a2t wc E f pv s3 HE) ?_;rintro nm v w1 H1 rfl hs1 hg1;obtain⟨s4,hs4e⟩:∃s4,s4=E6 (C6 s3 (name f)):=⟨_,rfl⟩
       rw[←hs4e]at hs1;have Q4:Hid (C8 s3 (name f) nm s4):=⟨H1.out,hs4e.symm⟩
       have hEC:=hs1.out.lt;have hRC:w.heap.size<w1.heap.size:=by omega
       have hwC:w.heap.size≤w1.heap.size:=by omega
       have HPL:=A0 (fun k (hk:w1.heap.size≤k)=>hs1.out.poolLt hk);have hpC:=HPL.out _ (Nat.le_refl _)
       have HC1:Hid (DS w w.heap.size E w1.heap.size f pv #[.string nm, .string ⟨#[]⟩, .slice none 0 0, .slice none 0 0] s4 (w1.alloc (.cells #[.string nm, .string ⟨#[]⟩, .slice none 0 0, .slice none 0 0] 44))):=
        ⟨hs1.out.keep0 (A2 _ _ _),A3.new _ _ _,(HO.out.keep hg1 (by simp;omega)).keep (A2 _ _ none) (by simp),K2 (C7 HG.out hg1 (fun k e=> .inl (by cases e;exact hEw))) (A2 _ _ _)⟩
       clear hs4e hs1 hg1 H1 HO HG HE;try dsimp only))
    refine a1R (J:=DeJ f w.heap.size E w1.heap.size (fun wr=>∃(fs:List R9) (s7:Except Er St) (l:Value),C8 s5 (D5 f 1 (Y6 f)) fs s7∧DS w w.heap.size E w1.heap.size f pv #[.string nm, .string sp,l, .slice none 0 0] s7 wr∧E5 (w1.heap.size+1) 129 3 G8 wr l fs)) ?_ ?_
    ·rintro a wr ⟨⟨fs,s7,lf,q7,hds,hrow⟩,t,rfl⟩;clear HC3 M3;obtain⟨al,kl,rfl⟩:=F1 hrow;have Q7:=A0 q7;have HS:=A0 hds;have HF:=A0 hrow;clear hds hrow q7;dsimp only[a6j]
     go_wp2_with (
      go_at_call 114
      refine G9.bind (X3 wr E f pv s7 1 HS.out.eye (by omega)) ?_;rintro n2 v w4 H4 rfl hs4 hg4;obtain⟨s8,hs8e⟩:∃s8,s8=E6 (C6 s7 (A9 f 1)):=⟨_,rfl⟩
      rw[←hs8e]at hs4;have HS4:Hid (DL w w.heap.size E w1.heap.size f pv #[.string nm, .string sp, .slice al fs.length kl, .slice none 0 0] fs [] (.slice al fs.length kl) (.slice none 0 0) s8 w4):=⟨HS.out.step hg4 hs4.out hEw (by omega) hER,HF.out.keep hg4 (fun k e=>by cases e;omega), .nil _ _⟩
      have M4:Hid (K3 f 1 (meth f) s7 n2 0 [] s8):=by rw[hs8e];exact K3.start H4.out
      clear hs8e hs4 hg4 H4 HS HF;try dsimp only)
     refine a1R (J:=DeJ f w.heap.size E w1.heap.size (fun wr=>∃(ms:List Me) (s9:Except Er St) (lm:Value),C8 s7 (D5 f 1 (meth f)) ms s9∧DL w w.heap.size E w1.heap.size f pv #[.string nm, .string sp, .slice al fs.length kl,lm] fs ms (.slice al fs.length kl) (lm) s9 wr)) ?_ ?_
     ·rintro a wr ⟨⟨ms,s9,lm,q9,hdl⟩,t,rfl⟩;clear HS4 M4;obtain⟨am,km,rfl⟩:=hdl.rm.slice;have QC:=A0 (b6N Q4.out Q5.out Q7.out q9);have HS:=A0 hdl;clear hdl q9;dsimp only[a6j];obtain⟨a0,names,t0,e0,p0,hEy,hok,her⟩:=HS.out.ds.eye.any;obtain⟨-,c1,c2,c3,c4,c5,-,-,-,-,-⟩:=hEy.cells;obtain⟨pa,pk,hpv⟩:=F1 hEy.own;rw[hpv]at c2;have HPV:=A0 hpv;have hlo:=hEy.lo;have hhi:=hEy.hi;have hnl:=hEy.len;have HOK:=A0 hok;have HER:=A0 her;clear hEy hok her hpv;go_wp2_with fail
      go_quiet (fail)
      go_upto_if 113 with(fail)
      go_cut []from 103 (fun wx=>DL w w.heap.size E w1.heap.size f pv #[.string nm, .string sp, .slice al fs.length kl, .slice am ms.length km] fs ms (.slice al fs.length kl) (.slice am ms.length km) (a2F f s9) wx)
      case first=>
       cases s9 with
       |error er=>
        have HS1:Hid (DL w w.heap.size E w1.heap.size f pv #[.string nm, .string sp, .slice al fs.length kl, .slice am ms.length km] fs ms (.slice al fs.length kl) (.slice am ms.length km) (.error er) (wr.drewN nq)):=HS.out.fresh (F0 _ _ _);go_wp2_with (go_at_call 115;refine(t7 _ E f pv (.error er) 5 f.size HS1.out.ds.eye (by omega)).mono ?_;rintro e w7 ⟨rfl,hg7,hs7⟩;have HS7:Hid (DL w w.heap.size E w1.heap.size f pv #[.string nm, .string sp, .slice al fs.length kl, .slice am ms.length km] fs ms (.slice al fs.length kl) (.slice am ms.length km) (.error er) w7):=HS1.out.step hg7 hs7 hEw hEC hER;clear hg7 hs7;try dsimp only)
        ·go_meet
         case rel=>exact HS7.out
        ·go_meet
         case rel=>exact HS1.out
       |ok st=>
        have HS1:Hid (DL w w.heap.size E w1.heap.size f pv #[.string nm, .string sp, .slice al fs.length kl, .slice am ms.length km] fs ms (.slice al fs.length kl) (.slice am ms.length km) (.ok st) (wr.drewN nq)):=HS.out.fresh (F0 _ _ _);obtain⟨rfl,rfl,rfl,rfl⟩:=HOK.out st rfl;by_cases hu:st.used<st.pool.length
        ·have HP1:Hid (a2F f (.ok st)= .error (5,f.size)):=by unfold Hid;simp only[a2F,hu,if_true]
         go_wp2_with (go_at_call 115;refine(t7 _ E f pv (.ok st) 5 f.size HS1.out.ds.eye (by omega)).mono ?_;rintro e w7 ⟨rfl,hg7,hs7⟩;have HS7:Hid (DL w w.heap.size E w1.heap.size f pv #[.string nm, .string sp, .slice al fs.length kl, .slice am ms.length km] fs ms (.slice al fs.length kl) (.slice am ms.length km) (.error (5,f.size)) w7):=HS1.out.step hg7 hs7 hEw hEC hER;clear hg7 hs7;try dsimp only)
         go_meet
         case rel=>rw[HP1.out];exact HS7.out
        ·have HP1:Hid (a2F f (.ok st)= .ok st):=by unfold Hid;simp only[a2F,hu,if_false]
         go_wp2_with fail
         go_meet
         case rel=>rw[HP1.out];exact HS1.out
      case rest=>
       obtain⟨s10,hs10⟩:∃s10,s10=a2F f s9:=⟨_,rfl⟩
       have HS10:=A0 hs10;rw[←hs10]at hcut;clear HS c1 c2 c3 c4 c5 HPV HOK HER hlo hhi hnl hs10;have HS:=A0 hcut;clear hcut;obtain⟨a1,names1,t1,e1,p1,hEy,hok,her⟩:=HS.out.ds.eye.any;obtain⟨-,c1,-,-,c4,c5,-,-,-,-,-⟩:=hEy.cells;have hat:=hEy.at_;have HOK:=A0 hok;clear hEy hok her;go_upto_if 124 with(fail)
       go_cut []from 103 (fun wx=>DL w w.heap.size E w1.heap.size f pv #[.string nm, .string sp, .slice al fs.length kl, .slice am ms.length km] fs ms (.slice al fs.length kl) (.slice am ms.length km) (a2a f s10) wx)
       case first=>
        cases s10 with
        |error er=>
         go_wp2_with (go_at_call 115;refine(t7 _ E f pv (.error er) 6 a1 HS.out.ds.eye (by omega)).mono ?_;rintro e w7 ⟨rfl,hg7,hs7⟩;have HS7:Hid (DL w w.heap.size E w1.heap.size f pv #[.string nm, .string sp, .slice al fs.length kl, .slice am ms.length km] fs ms (.slice al fs.length kl) (.slice am ms.length km) (.error er) w7):=HS.out.step hg7 hs7 hEw hEC hER;clear hg7 hs7;try dsimp only)
         ·go_meet
          case rel=>exact HS7.out
         ·go_meet
          case rel=>exact HS.out
        |ok st=>
         obtain⟨rfl,rfl,rfl,rfl⟩:=HOK.out st rfl;by_cases hu:st.at_<f.size
         ·have HP1:Hid (a2a f (.ok st)= .error (6,st.at_)):=by unfold Hid;simp only[a2a,hu,if_true]
          go_wp2_with (go_at_call 115;refine(t7 _ E f pv (.ok st) 6 st.at_ HS.out.ds.eye (by omega)).mono ?_;rintro e w7 ⟨rfl,hg7,hs7⟩;have HS7:Hid (DL w w.heap.size E w1.heap.size f pv #[.string nm, .string sp, .slice al fs.length kl, .slice am ms.length km] fs ms (.slice al fs.length kl) (.slice am ms.length km) (.error (6,st.at_)) w7):=HS.out.step hg7 hs7 hEw hEC hER;clear hg7 hs7;try dsimp only)
          go_meet
          case rel=>rw[HP1.out];exact HS7.out
         ·have HP1:Hid (a2a f (.ok st)= .ok st):=by unfold Hid;simp only[a2a,hu,if_false]
          go_wp2_with fail
          go_meet
          case rel=>rw[HP1.out];exact HS.out
       case rest=>
        have hcut':=hcut;obtain⟨s11,hs11⟩:∃s11,s11=a2a f s10:=⟨_,rfl⟩
        rw[←hs11]at hcut';have QE:Hid (C8 s9 (a1C f) () s11):=by have:=b6M f s9;rw[←HS10.out,←hs11]at this;exact this
        clear hcut hs11 HS HS10 HOK c1 c4 c5 hat;have HS:=A0 hcut';clear hcut';have o0:=HS.out.ds.out.cell 0 _ rfl;have o1:=HS.out.ds.out.cell 1 _ rfl;have o2:=HS.out.ds.out.cell 2 _ rfl;have o3:=HS.out.ds.out.cell 3 _ rfl;have z0:=HS.out.ds.out.frozen 0;have z1:=HS.out.ds.out.frozen 1;have z2:=HS.out.ds.out.frozen 2;have z3:=HS.out.ds.out.frozen 3;cases s11 with
        |error er=>
         have HD:=A0 (b5b H2048.out (a8V Q1.out Q2.out Q3.out QC.out QE.out));obtain⟨a2,names2,t2,e2,p2,hEy,-,her⟩:=HS.out.ds.eye.any;obtain⟨rfl,rfl,hne⟩:=her er rfl;obtain⟨-,-,-,-,c4,c5,-,-,-,-,-⟩:=hEy.cells;have hne':¬(er.1:Int)=0:=by omega
         clear hEy her;go_wp2_with fail
         go_region
         go_wp2_with fail
         refine bodyPost_ret (v:= .tuple #[.agg #[.string ⟨#[]⟩, .string ⟨#[]⟩, .slice none 0 0, .slice none 0 0], .int .i64 er.1, .int .i64 er.2]) (a7n _ _ w.heap.size _ _ _ _ _ _ _ rfl rfl rfl (((((HS.out.ds.out.set 0 _).set 1 _).set 2 _).set 3 _).keep (B8 _ none) (by simp))) rfl ?_;rw[HD.out];exact⟨K2 (C7 HS.out.ds.grown (j3 (g:=w.heap.size)) (fun k e=> .inl (by cases e;exact Nat.le_refl _))) (B8 _ _),_,er,rfl,rfl,rfl⟩
        |ok st=>
         have HD:=A0 (b6x H2048.out (a8V Q1.out Q2.out Q3.out QC.out QE.out));have c4:=HS.out.ds.eye.2.cells0.2.2.2.2.1;have d0:=HS.out.ds.me.cell 0 _ rfl;have d1:=HS.out.ds.me.cell 1 _ rfl;have d2:=HS.out.ds.me.cell 2 _ rfl;have d3:=HS.out.ds.me.cell 3 _ rfl;go_wp2_with fail
         refine bodyPost_ret (v:= .tuple #[.agg #[.string nm, .string sp, .slice al fs.length kl, .slice am ms.length km], .int .i64 0, .int .i64 0]) (a7n _ _ w.heap.size _ _ _ _ _ _ _ rfl rfl rfl ((((HS.out.ds.out.set 0 _).set 1 _).set 2 _).set 3 _)) rfl ?_;rw[HD.out];refine⟨C7 HS.out.ds.grown (j3 (g:=w.heap.size)) (fun k e=> .inl (by cases e;exact Nat.le_refl _)),_,(0,0),rfl,?_,rfl⟩;exact⟨_,_,_,_,rfl,(HS.out.rf.keep (j3 (g:=w.heap.size)) (fun k e=>by cases e;omega)).base (by omega),(HS.out.rm.keep (j3 (g:=w.heap.size)) (fun k e=>by cases e;omega)).base (by omega)⟩
     ·go_loopw [12] (fun i wr=>∃(k:Nat) (ms:List Me) (s9:Except Er St) (l:Value),i= .int .i64 k∧k≤n2∧ms.length=k∧K3 f 1 (meth f) s7 n2 k ms s9∧DL w w.heap.size E w1.heap.size f pv #[.string nm, .string sp, .slice al fs.length kl,l] fs ms (.slice al fs.length kl) (l) s9 wr) (fun i _=>n2-(intOf i).toNat)
      case atStart=>exact⟨0,[],s8,_,rfl,Nat.zero_le _,rfl,M4.out,HS4.out⟩
      case round=>
       clear M4 HS4;obtain⟨k,ms,s9,l,rfl,hk,hlen,hmid,hdl⟩:=hrel;have HM:=A0 hmid;have HS:=A0 hdl;have HL:=A0 hlen;clear hmid hdl hlen;cases s9 with
       |error er=>
        obtain⟨c4,ne4⟩:=HS.out.ds.eye.err;go_wp2_with fail
        all_goals exact DeJ.of _ rfl ⟨ms,_,l,HM.out.err,HS.out⟩
       |ok st3=>
        have c4:=HS.out.ds.eye.2.cells0.2.2.2.2.1;by_cases hlt:k<n2
        ·obtain⟨i,hi,hz0,hz1,hz2⟩:=info_parts b0Z;have hn:n2<256:=by obtain⟨st1,h1,-⟩:=HM.out;exact(a1L h1).1
         have hll:ms.length<65536:=by have:=HL.out;omega
         obtain⟨css,hcl,hco,hcc⟩:=HS.out.rm;have HCO:=A0 hco;have HCC:=A0 hcc;have HCL:=A0 hcl;have hCw:=HS.out.ds.me.lt;clear hcl hco hcc
         go_wp2_with (first
          |(go_at_call 119
            refine G9.bind (b3O wr E f pv (.ok st3) HS.out.ds.eye) ?_;rintro x v w8 H8 ⟨c,rfl,hme⟩ hs8 hg8;obtain⟨t1,ht1⟩:∃t1,t1=E6 (C6 (.ok st3) (meth f)):=⟨_,rfl⟩
            have hs8a:D9 w8 E f pv t1:=by rw[ht1];exact hs8.out
            have U1:Hid (C8 (.ok st3) (meth f) x t1):=⟨H8.out,ht1.symm⟩
            have HS8:=A0 (HS.out.step hg8 hs8a hEw hEC hER);have HME:=A0 hme;obtain⟨pv',cv',hv',rfl,r1,r2,r3,-⟩:=hme;obtain⟨a1,k1,rfl⟩:=F1 r1;obtain⟨a2,k2,rfl⟩:=F1 r2;obtain⟨a3,k3,rfl⟩:=F1 r3;have HCO8:=A0 (World.ownsRow.kept HCO.out hg8 (.inr (E9 HCO.out (by omega))));have HCC8:=A0 (fun i c m hc hm=>(HCC.out i c m hc hm).keep hg8 (fun k e=>by cases e;omega));have d1:=HS8.out.ds.me.cell 3 l rfl;have z1:=HS8.out.ds.me.frozen 3;have hlt3:=HS8.out.ds.me.lt
            have NC:Hid (∀j u,([.string x.name, .slice a1 x.params.length k1, .int .i64 x.ret.kind, .string x.ret.name, .int .i64 x.stack, .int .i64 x.locals, .slice a2 x.code.length k2, .slice a3 x.handlers.length k3]:List Value)[j]? =some u→((w8.alloc (.cells (mV x a1 k1 a2 k2 a3 k3) 102)).alloc (.cells (mV x a1 k1 a2 k2 a3 k3) 102)).cell? ((⟨w8.heap.size+1,0,none⟩:Addr).add j)=some u):=by
             have:=O5 (w8.alloc (.cells (mV x a1 k1 a2 k2 a3 k3) 102)) [.string x.name, .slice a1 x.params.length k1, .int .i64 x.ret.kind, .string x.ret.name, .int .i64 x.stack, .int .i64 x.locals, .slice a2 x.code.length k2, .slice a3 x.handlers.length k3] 102;unfold Hid;simpa using this
            clear hg8 hs8 hs8a ht1 H8 r1 r2 r3;try dsimp only)
          |(at_builtin
            go_loud (refine wpList_append_own _ rfl _ _ 42 rfl (w1.heap.size+1) 102 i _ 8 128 Tryz.underlying42 hi hz0 hz1 hz2 rfl (by decide) _ ms.length css.flatten rfl ((World.ownsRow.alloc HCO8.out _).alloc _) ⟨w8.heap.size+1,0,none⟩ 1 1 [.string x.name, .slice a1 x.params.length k1, .int .i64 x.ret.kind, .string x.ret.name, .int .i64 x.stack, .int .i64 x.locals, .slice a2 x.code.length k2, .slice a3 x.handlers.length k3] rfl rfl NC.out (by simp[Value.oneCell']) (t5 rfl hll) (by omega) (by simp;omega) ?_)))
         intro v' w14 hown hgrow _;obtain⟨a5,k5,rfl⟩:=F1 hown;have hgB:=A1 (A2 w8 (.cells (mV x a1 k1 a2 k2 a3 k3) 102) none) (A2 _ (.cells (mV x a1 k1 a2 k2 a3 k3) 102) none);have hgA:=C7 (row:=l.ownBlock) (b1d hgB) hgrow (fun k e=> .inr e.symm)
         have HS14:Hid (DL w w.heap.size E w1.heap.size f pv #[.string nm, .string sp, .slice al fs.length kl,l] fs (ms++ [x]) (.slice al fs.length kl) (.slice a5 (ms.length+1) k5) t1 w14):=⟨HS8.out.ds.turn HCO8.out hgA hEC hRC hwC HPL.out,World.ownsRow.kept HS8.out.rf hgA (a0u HS8.out.rf HCO8.out (by decide)),
          V8.push HCL.out (World.ownsRow.kept HCO8.out hgB (by cases l.ownBlock<;>simp)) (fun i c m hc hm=>(HCC8.out i c m hc hm).keep hgB (by simp)) ((HME.out.base (by omega)).keep hgB (by simp)) hown hgrow⟩
         have z1':=HS14.out.ds.me.frozen 3;have d1':=HS14.out.ds.me.cell 3 l rfl;clear hown hgrow hgA hgB d1 z1 NC HCO HCC HCO8 HCC8 HS8 HME;go_wp2_with fail
         go_roundw
         case rel=>
          have hsn:(ms++ [x]).length=k+1:=by have:=HL.out;simp;omega
          exact⟨k+1,ms++ [x],t1, .slice a5 (ms.length+1) k5,by go_num,hlt,hsn,K3.step HM.out hlt U1.out,HS14.out.setC hwC (by omega) (by omega) hpC 3 (.slice a5 (ms.length+1) k5)⟩
         case measure=>simp[intOf];omega
        ·go_wp2_with fail
         have hk':k=n2:=by omega
         subst hk';exact DeJ.of _ rfl ⟨ms,_,l,K3.done HM.out,HS.out⟩
    ·go_loopw [10] (fun i wr=>∃(k:Nat) (fs:List R9) (s7:Except Er St) (l:Value),i= .int .i64 k∧k≤n1∧fs.length=k∧K3 f 1 (Y6 f) s5 n1 k fs s7∧DS w w.heap.size E w1.heap.size f pv #[.string nm, .string sp,l, .slice none 0 0] s7 wr∧E5 (w1.heap.size+1) 129 3 G8 wr l fs) (fun i _=>n1-(intOf i).toNat)
     case atStart=>exact⟨0,[],s6,_,rfl,Nat.zero_le _,rfl,M3.out,HC3.out,World.ownsRow_nil _ _ _ _⟩
     case round=>
      clear M3 HC3;obtain⟨k,fs,s7,l,rfl,hk,hlen,hmid,hds,hrow⟩:=hrel;have HM:=A0 hmid;have HS:=A0 hds;have HR:=A0 hrow;have HL:=A0 hlen;clear hmid hds hrow hlen;cases s7 with
      |error er=>
       obtain⟨c4,ne4⟩:=HS.out.eye.err;go_wp2_with fail
       all_goals exact DeJ.of _ rfl ⟨fs,_,l,HM.out.err,HS.out,HR.out⟩
      |ok st3=>
       have c4:=HS.out.eye.2.cells0.2.2.2.2.1;by_cases hlt:k<n1
       ·obtain⟨i,hi,hz0,hz1,hz2⟩:=info_parts a7k;have hn:n1<256:=by obtain⟨st1,h1,-⟩:=HM.out;exact(a1L h1).1
        have hll:fs.length<65536:=by have:=HL.out;omega
        go_wp2_with (first
         |(go_at_call 118
           refine G9.bind (a7b _ E f pv t1 HS9.out.eye) ?_;rintro ft v w10 H10 rfl hs10 hg10;obtain⟨t2,ht2⟩:∃t2,t2=E6 (C6 t1 (kind f)):=⟨_,rfl⟩
           have hs10a:D9 w10 E f pv t2:=by rw[ht2];exact hs10.out
           have U2:Hid (C8 t1 (kind f) ft t2):=⟨H10.out,ht2.symm⟩
           have HS10:=A0 (HS9.out.step hg10 hs10a hEw (by omega) hER);have HR10:=A0 (HR9.out.keep hg10 (fun k e=>by cases e;omega));have HF10:=A0 (HF9.out.keep hg10 (by simp;omega));have e0:=HF10.out.cell 0 _ rfl;have e1:=HF10.out.cell 1 _ rfl;have e2:=HF10.out.cell 2 _ rfl;have y1:=HF10.out.frozen 1;have y2:=HF10.out.frozen 2;have d1:=HS10.out.me.cell 2 l rfl;have z1:=HS10.out.me.frozen 2;have hlt3:=HF10.out.lt;have HSA:Hid (DS w w.heap.size E w1.heap.size f pv #[.string nm, .string sp,l, .slice none 0 0] t2 ((w10.setCell ⟨w8.heap.size,1,none⟩ (.int .i64 ft.kind)).setCell ⟨w8.heap.size,2,none⟩ (.string ft.name))):=(HS10.out.beside (g:=w8.heap.size) (A6 _ ⟨w8.heap.size,1,none⟩ _) (by omega) (by omega) (by omega) hpG (by omega)).beside (g:=w8.heap.size) (A6 _ ⟨w8.heap.size,2,none⟩ _) (by omega) (by omega) (by omega) hpG (by omega);have HRA:Hid (E5 (w1.heap.size+1) 129 3 G8 ((w10.setCell ⟨w8.heap.size,1,none⟩ (.int .i64 ft.kind)).setCell ⟨w8.heap.size,2,none⟩ (.string ft.name)) l fs):=World.ownsRow.kept (World.ownsRow.kept HR10.out (A6 _ ⟨w8.heap.size,1,none⟩ _) (.inr hlG)) (A6 _ ⟨w8.heap.size,2,none⟩ _) (.inr hlG)
           have NC:Hid (∀j u,(G8 ⟨fn,ft⟩)[j]? =some u→(((w10.setCell ⟨w8.heap.size,1,none⟩ (.int .i64 ft.kind)).setCell ⟨w8.heap.size,2,none⟩ (.string ft.name)).alloc (.cells (G8 ⟨fn,ft⟩).toArray 129)).cell? ((⟨w10.heap.size,0,none⟩:Addr).add j)=some u):=by
            have:=O5 ((w10.setCell ⟨w8.heap.size,1,none⟩ (.int .i64 ft.kind)).setCell ⟨w8.heap.size,2,none⟩ (.string ft.name)) (G8 ⟨fn,ft⟩) 129;unfold Hid;simpa using this
           clear hg10 hs10 hs10a ht2 H10 HS9 HR9 HF9;try dsimp only)
         |(go_at_call 117
           refine G9.bind (a2t wr E f pv (.ok st3) HS.out.eye) ?_;rintro fn v w8 H8 rfl hs8 hg8;obtain⟨t1,ht1⟩:∃t1,t1=E6 (C6 (.ok st3) (name f)):=⟨_,rfl⟩
           have hs8a:D9 w8 E f pv t1:=by rw[ht1];exact hs8.out
           have U1:Hid (C8 (.ok st3) (name f) fn t1):=⟨H8.out,ht1.symm⟩
           have HS8:=A0 (HS.out.step hg8 hs8a hEw (by omega) hER);have HR8:=A0 (HR.out.keep hg8 (fun k e=>by cases e;omega));have hCG:=HS8.out.me.lt;have hpG:pv.ownBlock≠some w8.heap.size:=HPL.out _ (by omega);have hlG:l.ownBlock≠some w8.heap.size:=fun e=>by have:=(K9 HR8.out e).2;omega
           have HS9:Hid (DS w w.heap.size E w1.heap.size f pv #[.string nm, .string sp,l, .slice none 0 0] t1 (w8.alloc (.cells #[.string fn, .int .i64 0, .string ⟨#[]⟩] 129))):=HS8.out.fresh (A2 _ _ _);have HR9:Hid (E5 (w1.heap.size+1) 129 3 G8 (w8.alloc (.cells #[.string fn, .int .i64 0, .string ⟨#[]⟩] 129)) l fs):=HR8.out.keep (A2 _ _ none) (by simp);have HF9:Hid (A3 (w8.alloc (.cells #[.string fn, .int .i64 0, .string ⟨#[]⟩] 129)) w8.heap.size #[.string fn, .int .i64 0, .string ⟨#[]⟩] 129):=A3.new _ _ _;clear hg8 hs8 hs8a ht1 H8 HS8 HR8;try dsimp only)
         |(at_builtin
           go_loud (refine wpList_append_own _ rfl _ _ 41 rfl (w1.heap.size+1) 129 i _ 3 40 Tryz.underlying41 hi hz0 hz1 hz2 rfl (by decide) _ fs.length (fs.flatMap G8) rfl (World.ownsRow.alloc HRA.out _) ⟨w10.heap.size,0,none⟩ 1 1 (G8 ⟨fn,ft⟩) rfl rfl NC.out (by simp[G8,Value.oneCell']) (t5 rfl hll) (by omega) (by simp;omega) ?_)))
        intro v' w14 hown hgrow _;obtain⟨a5,k5,rfl⟩:=F1 hown;have hgA:=A1 (A2 ((w10.setCell ⟨w8.heap.size,1,none⟩ (.int .i64 ft.kind)).setCell ⟨w8.heap.size,2,none⟩ (.string ft.name)) (.cells (G8 ⟨fn,ft⟩).toArray 129) _) hgrow
        have HO14:Hid (E5 (w1.heap.size+1) 129 3 G8 w14 (.slice a5 (fs.length+1) k5) (fs++ [⟨fn,ft⟩])):=by
         unfold E5 Hid;rw[List.length_append,←a2s];exact hown
        have HS14:=A0 (HSA.out.turn HRA.out hgA hEC hRC hwC HPL.out);have z1':=HS14.out.me.frozen 2;have d1':=HS14.out.me.cell 2 l rfl;clear hown hgrow hgA d1 z1 HSA HRA NC e0 e1 e2 y1 y2 HS10 HR10 HF10;go_wp2_with fail
        go_roundw
        case rel=>
         have hsn:(fs++ [(⟨fn,ft⟩:R9)]).length=k+1:=by have:=HL.out;simp;omega
         exact⟨k+1,fs++ [(⟨fn,ft⟩:R9)],t2, .slice a5 (fs.length+1) k5,by go_num,hlt,hsn,K3.step HM.out hlt (b4g U1.out U2.out),HS14.out.setC hwC (by omega) (by omega) hpC 2 (.slice a5 (fs.length+1) k5),World.ownsRow.kept HO14.out (A6 w14 ⟨w1.heap.size,2,none⟩ _) (.inr (E9 HO14.out (Nat.lt_succ_self _)))⟩
        case measure=>simp[intOf];omega
       ·go_wp2_with fail
        have hk':k=n1:=by omega
        subst hk';exact DeJ.of _ rfl ⟨fs,_,l,K3.done HM.out,HS.out,HR.out⟩
  ·go_loopw [6] (fun i wr=>∃(k:Nat) (s:Except Er St),i= .int .i64 k∧k≤2∧D9 wr E f (.slice none 0 0) s∧A3 wr w.heap.size #[.string ⟨#[]⟩, .string ⟨#[]⟩, .slice none 0 0, .slice none 0 0] 44∧w.grownBy wr none∧(∀st,s= .ok st→st.pool=[])∧
    (k=0→s= .ok ⟨0,0,[]⟩)∧(k=1→C8 (.ok ⟨0,0,[]⟩) (I8 f 87 0) () s)∧(k=2→∃s1,C8 (.ok ⟨0,0,[]⟩) (I8 f 87 0) () s1∧C8 s1 (I8 f 49 1) () s)) (fun i _=>2-(intOf i).toNat)
   case atStart=>exact⟨0,_,rfl,by omega,HE.out,HO.out,HG0.out,(fun st e=>by cases e;rfl),fun _=>rfl,(fun e=>by cases e),(fun e=>by cases e)⟩
   case round=>
    clear HE HO HG0;obtain⟨k,s,rfl,hk,he,ho,hg,hp,h0,h1,h2⟩:=hrel;have HE:=A0 he;have HO:=A0 ho;have HG:=A0 hg;have HP:=A0 hp;clear he ho hg hp;by_cases hk2:k=2
    ·subst hk2;have H2:Hid _:=h2 rfl;clear h0 h1 h2;go_wp2_with fail
     obtain⟨s1,g1,g2⟩:=H2.out;exact a6n.of _ rfl ⟨s1,s,g1,g2,HP.out,HE.out,HO.out,HG.out⟩
    ·by_cases hk0:k=0
     ·subst hk0;have H0:=A0 (h0 rfl);clear h0 h1 h2;go_wp2_with (go_at_call 114;refine G9.bind (X3 wr E f _ s 1 HE (by omega)) ?_)
      rintro n v w3 H3 rfl hs3 hg3;have HO3:=A0 (HO.out.keep hg3 (by simp;omega));have HG3:=A0 (C7 HG.out hg3 (fun k e=> .inl (by cases e;exact hEw)));clear hg3;try dsimp only
      obtain⟨s3,hs3e⟩:∃s3,s3=E6 (C6 s (A9 f 1)):=⟨_,rfl⟩
      rw[←hs3e]at hs3;cases s3 with
      |error er=>
       obtain⟨c4,ne4⟩:=hs3.out.err;go_wp2_with fail
       exact⟨⟨1, .error er,rfl,by omega,hs3.out,HO3.out,HG3.out,(fun st e=>by cases e),(fun e=>by cases e),(fun _=>by rw[←H0.out];exact a8o hs3e.symm),(fun e=>by cases e)⟩,by simp[intOf]⟩
      |ok st3=>
       have c4:=hs3.out.2.cells0.2.2.2.2.1;have HS3:=A0 hs3e.symm;clear hs3e;go_wp2_with (go_at_call 115;refine(t7 w3 E f _ (.ok st3) 3 0 hs3 (by omega)).mono ?_;rintro e w4 ⟨rfl,hg4,hs4⟩;try dsimp only)
       ·rename_i hq;have hn:¬n=87:=by intro e;subst e;rw[b1f]at hq;revert hq;decide
        exact⟨⟨1, .error (3,0),rfl,by omega,hs4,HO3.out.keep hg4 (by simp;omega),C7 HG3.out hg4 (fun k e=> .inl (by cases e;exact hEw)),(fun st e=>by cases e),(fun e=>by cases e),(fun _=>by rw[←H0.out];exact a8t H3.out HS3.out hn),(fun e=>by cases e)⟩,by simp[intOf]⟩
       ·rename_i hq
        have hn:n=87:=by
         rw[b1f]at hq;have:(n:Int)=87:=by simpa using hq
         omega
        exact⟨⟨1, .ok st3,rfl,by omega,hs3.out,HO3.out,HG3.out,(fun st e=>by cases e;exact b0j HP.out HS3.out),(fun e=>by cases e),(fun _=>by rw[←H0.out];exact a8s H3.out HS3.out hn),(fun e=>by cases e)⟩,by simp[intOf]⟩
     ·have hk1:k=1:=by omega
      subst hk1;have H1:=A0 (h1 rfl);clear h0 h1 h2;go_wp2_with (go_at_call 114;refine G9.bind (X3 wr E f _ s 1 HE (by omega)) ?_)
      rintro n v w3 H3 rfl hs3 hg3;have HO3:=A0 (HO.out.keep hg3 (by simp;omega));have HG3:=A0 (C7 HG.out hg3 (fun k e=> .inl (by cases e;exact hEw)));clear hg3;try dsimp only
      obtain⟨s3,hs3e⟩:∃s3,s3=E6 (C6 s (A9 f 1)):=⟨_,rfl⟩
      rw[←hs3e]at hs3;cases s3 with
      |error er=>
       obtain⟨c4,ne4⟩:=hs3.out.err;go_wp2_with fail
       exact⟨⟨2, .error er,rfl,by omega,hs3.out,HO3.out,HG3.out,(fun st e=>by cases e),(fun e=>by cases e),(fun e=>by cases e),(fun _=>⟨s,H1.out,a8o hs3e.symm⟩)⟩,by simp[intOf]⟩
      |ok st3=>
       have c4:=hs3.out.2.cells0.2.2.2.2.1;have HS3:=A0 hs3e.symm;clear hs3e;go_wp2_with (go_at_call 115;refine(t7 w3 E f _ (.ok st3) 3 1 hs3 (by omega)).mono ?_;rintro e w4 ⟨rfl,hg4,hs4⟩;try dsimp only)
       ·rename_i hq;have hn:¬n=49:=by intro e;subst e;rw[b1g]at hq;revert hq;decide
        exact⟨⟨2, .error (3,1),rfl,by omega,hs4,HO3.out.keep hg4 (by simp;omega),C7 HG3.out hg4 (fun k e=> .inl (by cases e;exact hEw)),(fun st e=>by cases e),(fun e=>by cases e),(fun e=>by cases e),(fun _=>⟨s,H1.out,a8t H3.out HS3.out hn⟩)⟩,by simp[intOf]⟩
       ·rename_i hq
        have hn:n=49:=by
         rw[b1g]at hq;have:(n:Int)=49:=by simpa using hq
         omega
        exact⟨⟨2, .ok st3,rfl,by omega,hs3.out,HO3.out,HG3.out,(fun st e=>by cases e;exact b0j HP.out HS3.out),(fun e=>by cases e),(fun e=>by cases e),(fun _=>⟨s,H1.out,a8s H3.out HS3.out hn⟩)⟩,by simp[intOf]⟩
open Go.RowKit Go.Shelf Cf
namespace Kx
def a7P(B0:Nat)(bo:Bool)(files:List ByteArray)(e:Ending)(w':World):Prop:=
 (12<files.length∧e= .returned (.tuple #[.pointer none, .int .i64 17, .agg #[.int .i64 0, .int .i64 0, .int .i64 0]]))∨
 (files.length≤12∧∃(j:Nat) (hj:j<files.length) (er:Er),F7 files[j]= .error er∧(∀i (hi:i<files.length),i<j→∃c,F7 files[i]= .ok c)∧e= .returned (.tuple #[.pointer none, .int .i64 er.1, .agg #[.int .i64 j, .int .i64 0, .int .i64 er.2]]))∨
 (files.length≤12∧∃(fs:List Cl),fs.length=files.length∧(∀i (hi:i<files.length),F7 files[i]= .ok (cl fs i))∧
   ((∃er:Er,Z7 fs= .error er∧e= .returned (.tuple #[.pointer none, .int .i64 er.1, .agg #[.int .i64 er.2, .int .i64 0, .int .i64 0]]))∨
    (Z7 fs= .ok ()∧∃(P B wb:Nat) (va vf:Value) (qf:Nat→Qs),e= .returned (.tuple #[.pointer (some ⟨P,0,none⟩), .int .i64 0, .agg #[.int .i64 0, .int .i64 0, .int .i64 0]])∧
      B0≤P∧B0≤B∧A3 w' P #[.pointer (some ⟨wb,0,none⟩), .bool bo] 95∧Mk w' B wb va vf fs qf fs.length)))
variable {fs:List Cl}
theorem b7k{er:Er}(h:Z7 fs= .error er):0<er.1:=Nat.lt_of_lt_of_le (by decide) (a7j _ _ _ _ h)
variable {w:World}
theorem Mk.far{w':World}{B wb r:Nat}{va vf:Value}{qf:Nat→Qs}{k:Nat}(h:Mk w B wb va vf fs qf k)(hg:w.grownBy w' (some r))(hr:r<B):Mk w' B wb va vf fs qf k:=by
 have hl:=h.low;exact⟨h.blk.keep hg (by simp;omega),h.all.kept hg (.inr (E9 h.all hr)),h.files.kept hg (.inr (E9 h.files hr)),h.apart,h.low⟩
set_option maxRecDepth 100000 in
set_option maxHeartbeats 4000000 in
theorem b5u(w:World)(lim:Nat)(hl:lim≤w.heap.size)(files:List ByteArray)(a:Option Addr)(kk:Nat)(hR:Hid (C0 w lim 1 P9 a files))(hz:Hid (∀s∈files,s.size≤maxLen)):
 Calls Tryz.prog 35 #[.slice a files.length kk, .bool false] w fun e w'=>w.grownBy w' none∧a7P w.heap.size false files e w':=by
 obtain⟨n,hn⟩:∃n,n=files.length:=⟨_,rfl⟩
 have HN:=A0 hn;rw[←hn];clear hn;have HB0:Hid (A3 (w.alloc (.cells #[.int .i64 0, .int .i64 0, .int .i64 0] 78)) w.heap.size #[.int .i64 0, .int .i64 0, .int .i64 0] 78):=A3.new w _ _;have HG0:Hid (w.grownBy (w.alloc (.cells #[.int .i64 0, .int .i64 0, .int .i64 0] 78)) none):=A2 _ _ _;by_cases h12:12<n
 ·go_enter Tryz.func35,Tryz.ntmps35;have r0:=HB0.out.cell 0 _ rfl;have r1:=HB0.out.cell 1 _ rfl;have r2:=HB0.out.cell 2 _ rfl;have z0:=HB0.out.frozen 0;have z1:=HB0.out.frozen 1;have z2:=HB0.out.frozen 2;go_wp2_with fail
  refine bodyPost_ret (v:= .tuple #[.pointer none, .int .i64 17, .agg #[.int .i64 0, .int .i64 0, .int .i64 0]]) (by simp[results,Tryz.results35,go_sem,r0,r1,r2]) rfl ⟨HG0.out, .inl ⟨by rw[←HN.out];exact h12,rfl⟩⟩
 ·have hn12:n≤12:=by omega
  clear h12;have h12:decide (12<(n:Int))=false:=by simp;omega
  go_enter Tryz.func35,Tryz.ntmps35;go_wp2_with fail
  go_loopw [7,8] (fun o i wr=>∃(k:Nat) (fs:List Cl) (qf:Nat→Qs),k≤n∧fs.length=k∧i= .int .i64 k∧Hid (T0 wr (w.heap.size+1) o fs qf)∧Hid (∀j (hj:j<files.length),j<k→F7 files[j]= .ok (cl fs j))∧Hid (A3 wr w.heap.size #[.int .i64 0, .int .i64 0, .int .i64 0] 78)∧Hid (w.grownBy wr none)) (fun _ i _=>n-(intOf i).toNat)
  case atStart=>exact⟨0,[],fun _=>q0,by omega,rfl,rfl,T0.nil _ _ _,fun j _ hj=>by omega,HB0,HG0⟩
  case round=>
   obtain⟨k,fs,qf,hk,hfl,rfl,hD,hall,hb,hg⟩:=hrel;obtain⟨va,vk,rfl⟩:=F1 hD.out.own;have HFL:=A0 hfl;rw[hfl];by_cases hlt:k<n
   ·have hkl:k<files.length:=by rw[←HN.out];exact hlt
    obtain⟨p,hp,-,hc⟩:=hR.out.keep hg.out k hkl;have c0:wr.cell? (p.add k)=some (.string files[k]):=by have:=hc 0 _ rfl;simpa using this
    subst hp;clear hc;obtain⟨s,hs⟩:∃s,s=files[k]:=⟨_,rfl⟩
    rw[←hs]at c0;have HSZ:s.size≤maxLen:=by rw[hs];exact hz.out _ (List.getElem_mem hkl)
    have HS1:=A0 hs;clear hs hfl;cases hd:F7 s with
    |error er=>
     have her:=a5R hd;have HDE:=A0 hd;have hne:(er.1:Int)≠0:=by omega
     clear hd;go_wp2_with (go_at_call 66;refine(a8N _ s HSZ).mono ?_;intro e w4 he;rw[HDE.out]at he;obtain⟨hg4,rfl⟩:=a8O he;clear he;have hb4:=(hb.out.keep hg4 (by simp)).keep (A2 w4 (.cells #[.string ⟨#[]⟩, .string ⟨#[]⟩, .slice none 0 0, .slice none 0 0] 44) none) (by simp);have r0:=hb4.cell 0 _ rfl;have r1:=hb4.cell 1 _ rfl;have r2:=hb4.cell 2 _ rfl;have z0:=hb4.frozen 0;have z1:=hb4.frozen 1;have z2:=hb4.frozen 2;have HB4:=F5 hb4;have HG4:=F5 (A1 (A1 hg.out hg4) (A2 w4 (.cells #[.string ⟨#[]⟩, .string ⟨#[]⟩, .slice none 0 0, .slice none 0 0] 44) none));clear hb4 hg4)
     clear r0 r1 r2 z0 z1 z2;generalize w4.alloc (.cells #[.string ⟨#[]⟩, .string ⟨#[]⟩, .slice none 0 0, .slice none 0 0] 44)=W5 at HB4 HG4⊢;have hb6:=((HB4.out.set 0 (.int .i64 k)).set 1 (.int .i64 0)).set 2 (.int .i64 er.2);have hg6:=x9 (w:=w) HG4.out (Nat.le_refl _) (i:=0) (j:=1) (k:=2) (x:= .int .i64 k) (y:= .int .i64 0) (z:= .int .i64 er.2);generalize ((W5.setCell ⟨w.heap.size,0,none⟩ (.int .i64 k)).setCell ⟨w.heap.size,1,none⟩ (.int .i64 0)).setCell ⟨w.heap.size,2,none⟩ (.int .i64 er.2)=W6 at hb6 hg6⊢;have q0:=hb6.c0;have q1:=hb6.c1;have q2:=hb6.c2;refine bodyPost_ret (v:= .tuple #[.pointer none, .int .i64 er.1, .agg #[.int .i64 k, .int .i64 0, .int .i64 er.2]]) (by simp[results,Tryz.results35,go_sem,q0,q1,q2]) rfl ⟨hg6, .inr (.inl ⟨by rw[←HN.out];omega,k,hkl,er,by rw[←HS1.out];exact HDE.out,fun i hi hik=>⟨_,hall.out i hi hik⟩,rfl⟩)⟩
    |ok c=>
     have HDE:=A0 hd;clear hd;obtain⟨inf,hi0,hz0,hz1,hz2⟩:=info_parts a3R;rw[HFL.out]at hD
     go_wp2_with (first
      |(go_at_call 66;refine(a8N _ s HSZ).mono ?_;intro e w4 he;rw[HDE.out]at he;obtain⟨hg4,q,rfl,hlc⟩:=a9k he;clear he;have HLC:=F5 hlc;have HG4:=F5 hg4;clear hlc hg4)
      |(at_builtin;go_loud (refine wpList_append_own _ rfl _ _ 90 rfl (w.heap.size+1) 44 inf _ 4 80 Tryz.underlying90 hi0 hz0 hz1 hz2 rfl (by decide) _ k ((List.range fs.length).flatMap (K4 fs qf)) rfl (World.ownsRow.alloc (World.ownsRow.alloc ((T0.keep hD.out HG4.out).ownk HFL.out) _) _) ⟨w4.heap.size+1,0,none⟩ 1 1 (F8 c q) rfl rfl (NC w4 c q).out (by simp[F8,Value.oneCell']) (by unfold maxLen;omega) (by omega) (by have:=hg.out.size;have:=HG4.out.size;have:=hb.out.lt;simp;omega) ?_;intro v' w6 hown hgrow _;have HD6:=F5 (T0.push (((T0.keep hD.out HG4.out).keep (A2 w4 (.cells #[.string c.name, .string c.super, .slice q.fa c.fields.length q.fk, .slice q.ma c.methods.length q.mc] 44) none)).keep (A2 _ (.cells #[.string c.name, .string c.super, .slice q.fa c.fields.length q.fk, .slice q.ma c.methods.length q.mc] 44) none)) (((HLC.out.lower (by have:=hg.out.size;have:=hb.out.lt;omega)).keep (A2 w4 (.cells #[.string c.name, .string c.super, .slice q.fa c.fields.length q.fk, .slice q.ma c.methods.length q.mc] 44) none)).keep (A2 _ (.cells #[.string c.name, .string c.super, .slice q.fa c.fields.length q.fk, .slice q.ma c.methods.length q.mc] 44) none)) (b0f HFL.out hown) hgrow);have HG6:=F5 (C7 (A1 (A1 (A1 hg.out HG4.out) (A2 w4 (.cells #[.string c.name, .string c.super, .slice q.fa c.fields.length q.fk, .slice q.ma c.methods.length q.mc] 44) none)) (A2 _ (.cells #[.string c.name, .string c.super, .slice q.fa c.fields.length q.fk, .slice q.ma c.methods.length q.mc] 44) none)) hgrow (fun x e=> .inl (by have:=(K9 hD.out.own e).1;omega)));have HB6:=F5 ((((hb.out.keep HG4.out (by simp)).keep (A2 w4 (.cells #[.string c.name, .string c.super, .slice q.fa c.fields.length q.fk, .slice q.ma c.methods.length q.mc] 44) none) (by simp)).keep (A2 _ (.cells #[.string c.name, .string c.super, .slice q.fa c.fields.length q.fk, .slice q.ma c.methods.length q.mc] 44) none) (by simp)).keep hgrow (fun e=>E9 hD.out.own (Nat.lt_succ_self _) e.symm));clear hown hgrow)))
     go_roundw
     case rel=>exact⟨k+1,fs++ [c],a2B qf fs.length q,by omega,by simp[HFL.out],by go_num,HD6,by
      intro j hj hjk;rcases Nat.lt_or_ge j k with h1|h1
      ·rw[L9 (by rw[HFL.out];exact h1)];exact hall.out j hj h1
      ·obtain rfl:j=k:=by omega
       have e2:cl (fs++ [c]) j=c:=by rw[←HFL.out];exact a4N _ _
       rw[e2];have:=HDE.out;rw[HS1.out]at this;exact this,HB6,HG6⟩
     case measure=>simp[intOf];omega
   ·obtain rfl:k=n:=by omega
    have HALL:=A0 (fun i hi=>hall.out i hi (by rw[HN.out];exact hi));have hck:=a5J (hfl.trans HN.out) HALL.out;have hgv:=hD.out.gvn hck (by rw[hfl];exact hn12)
    have HLK:Hid (Calls Tryz.prog 67 #[.slice va k vk] wr fun e w'=>wr.grownBy w' none∧a7H wr.heap.size fs qf (Z7 fs) e w'):=by
     have:=b5v wr wr.heap.size fs qf va vk (Nat.le_refl _) hgv.1 hgv.2;rw[hfl]at this;exact this
    have HFN:=A0 (hfl.trans HN.out);clear hck hgv hfl hall hD hR hz hk hlt;go_wp2_with (go_at_call 67;refine HLK.out.mono ?_)
    rintro e w3 ⟨hg3,hla⟩;have hb3:=hb.out.keep hg3 (by simp);have hg3w:=A1 hg.out hg3;cases hlp:Z7 fs with
    |error er=>
     rw[hlp]at hla;obtain rfl:=hla;have HLP:=A0 hlp;have hne:(er.1:Int)≠0:=by have:=b7k hlp;omega
     clear hlp;have r0:=hb3.cell 0 _ rfl;have r1:=hb3.cell 1 _ rfl;have r2:=hb3.cell 2 _ rfl;have z0:=hb3.frozen 0;have z1:=hb3.frozen 1;have z2:=hb3.frozen 2;go_wp2_with fail
     clear r0 r1 r2 z0 z1 z2;have hb6:=((hb3.set 0 (.int .i64 er.2)).set 1 (.int .i64 0)).set 2 (.int .i64 0);have hg6:=x9 (w:=w) hg3w (Nat.le_refl _) (i:=0) (j:=1) (k:=2) (x:= .int .i64 er.2) (y:= .int .i64 0) (z:= .int .i64 0);generalize ((w3.setCell ⟨w.heap.size,0,none⟩ (.int .i64 er.2)).setCell ⟨w.heap.size,1,none⟩ (.int .i64 0)).setCell ⟨w.heap.size,2,none⟩ (.int .i64 0)=W6 at hb6 hg6⊢;have q0:=hb6.c0;have q1:=hb6.c1;have q2:=hb6.c2;refine bodyPost_ret (v:= .tuple #[.pointer none, .int .i64 er.1, .agg #[.int .i64 er.2, .int .i64 0, .int .i64 0]]) (by simp[results,Tryz.results35,go_sem,q0,q1,q2]) rfl ⟨hg6, .inr (.inr ⟨by rw[←HN.out];omega,fs,HFN.out,HALL.out, .inl ⟨er,HLP.out,rfl⟩⟩)⟩
    |ok u=>
     rw[hlp]at hla;obtain⟨wb,wva,wvf,rfl,hmk⟩:=hla;have HLP:Hid (Z7 fs= .ok ()):=hlp;have HMK:=F5 hmk;clear hlp hmk;go_wp2_with fail
     go_loopw [14] (fun i wr=>i= .int .i64 0∧wr=w3) (fun _ _=>0)
     case atStart=>exact⟨rfl,rfl⟩
     case round=>
      obtain⟨rfl,rfl⟩:=hrel;have hb4:=hb3.keep (A2 wr (.cells #[.pointer (some ⟨wb,0,none⟩), .bool false] 95) none) (by simp);have hg4w:w.grownBy (wr.alloc (.cells #[.pointer (some ⟨wb,0,none⟩), .bool false] 95)) none:=A1 hg3w (A2 _ _ _);have hp5:A3 (wr.alloc (.cells #[.pointer (some ⟨wb,0,none⟩), .bool false] 95)) wr.heap.size #[.pointer (some ⟨wb,0,none⟩), .bool false] 95:=A3.new wr _ _;have HP5:=F5 hp5;have HMK5:=F5 (HMK.out.keep (A2 wr (.cells #[.pointer (some ⟨wb,0,none⟩), .bool false] 95) none));have HB4:=F5 hb4;have HG4:=F5 hg4w;have r0:=hb4.cell 0 _ rfl;have r1:=hb4.cell 1 _ rfl;have r2:=hb4.cell 2 _ rfl;have z0:=hb4.frozen 0;have z1:=hb4.frozen 1;have z2:=hb4.frozen 2;clear hp5 hb4 hg4w;have hbt:=hb.out.lt;cases hkb:decide (0<(k:Int))with
      |true=>
       go_wp2_with fail
       all_goals
        clear r0 r1 r2 z0 z1 z2;have hb6:=((HB4.out.set 0 (.int .i64 0)).set 1 (.int .i64 0)).set 2 (.int .i64 0);have hs6:=A1 (A1 (A6 (wr.alloc (.cells #[.pointer (some ⟨wb,0,none⟩), .bool false] 95)) ⟨w.heap.size,0,none⟩ (.int .i64 0)) (A6 _ ⟨w.heap.size,1,none⟩ (.int .i64 0))) (A6 _ ⟨w.heap.size,2,none⟩ (.int .i64 0));have hg6:=x9 (w:=w) HG4.out (Nat.le_refl _) (i:=0) (j:=1) (k:=2) (x:= .int .i64 0) (y:= .int .i64 0) (z:= .int .i64 0);generalize (((wr.alloc (.cells #[.pointer (some ⟨wb,0,none⟩), .bool false] 95)).setCell ⟨w.heap.size,0,none⟩ (.int .i64 0)).setCell ⟨w.heap.size,1,none⟩ (.int .i64 0)).setCell ⟨w.heap.size,2,none⟩ (.int .i64 0)=W6 at hb6 hg6 hs6⊢;have q0:=hb6.c0;have q1:=hb6.c1;have q2:=hb6.c2;have hbx:=hb3.lt;refine bodyPost_ret (v:= .tuple #[.pointer (some ⟨wr.heap.size,0,none⟩), .int .i64 0, .agg #[.int .i64 0, .int .i64 0, .int .i64 0]]) (by simp[results,Tryz.results35,go_sem,q0,q1,q2]) rfl ⟨hg6, .inr (.inr ⟨by rw[←HN.out];omega,fs,HFN.out,HALL.out, .inr ⟨HLP.out,wr.heap.size,_,wb,wva,wvf,qf,rfl,Nat.le_of_lt hbx,Nat.le_of_lt hbt,HP5.out.keep hs6 (by simp;omega),Mk.far HMK5.out hs6 (by show w.heap.size<_;exact hbt)⟩⟩)⟩
      |false=>
       go_wp2_with fail
       all_goals
        clear r0 r1 r2 z0 z1 z2;have hb6:=((HB4.out.set 0 (.int .i64 0)).set 1 (.int .i64 0)).set 2 (.int .i64 0);have hs6:=A1 (A1 (A6 (wr.alloc (.cells #[.pointer (some ⟨wb,0,none⟩), .bool false] 95)) ⟨w.heap.size,0,none⟩ (.int .i64 0)) (A6 _ ⟨w.heap.size,1,none⟩ (.int .i64 0))) (A6 _ ⟨w.heap.size,2,none⟩ (.int .i64 0));have hg6:=x9 (w:=w) HG4.out (Nat.le_refl _) (i:=0) (j:=1) (k:=2) (x:= .int .i64 0) (y:= .int .i64 0) (z:= .int .i64 0);generalize (((wr.alloc (.cells #[.pointer (some ⟨wb,0,none⟩), .bool false] 95)).setCell ⟨w.heap.size,0,none⟩ (.int .i64 0)).setCell ⟨w.heap.size,1,none⟩ (.int .i64 0)).setCell ⟨w.heap.size,2,none⟩ (.int .i64 0)=W6 at hb6 hg6 hs6⊢;have q0:=hb6.c0;have q1:=hb6.c1;have q2:=hb6.c2;have hbx:=hb3.lt;refine bodyPost_ret (v:= .tuple #[.pointer (some ⟨wr.heap.size,0,none⟩), .int .i64 0, .agg #[.int .i64 0, .int .i64 0, .int .i64 0]]) (by simp[results,Tryz.results35,go_sem,q0,q1,q2]) rfl ⟨hg6, .inr (.inr ⟨by rw[←HN.out];omega,fs,HFN.out,HALL.out, .inr ⟨HLP.out,wr.heap.size,_,wb,wva,wvf,qf,rfl,Nat.le_of_lt hbx,Nat.le_of_lt hbt,HP5.out.keep hs6 (by simp;omega),Mk.far HMK5.out hs6 (by show w.heap.size<_;exact hbt)⟩⟩)⟩
def a4c:ByteArray:=⟨#[109,105,110,101]⟩
def Rm(w:World)(B:Nat)(v:Value)(files:List ByteArray)(isnil:Bool):Prop:=
 (isnil=true∧v= .slice none 0 0)∨
 (isnil=false∧∃g cap,v= .slice (some ⟨g,0,none⟩) files.length cap∧w.ownsRow B 9 1 (.slice (some ⟨g,0,none⟩) (files.length+1) cap) (files.length+1) ((files++ [a4c]).flatMap P9))
theorem a6r:∀(files:List ByteArray),(files.flatMap P9).length=files.length
 | []=>rfl
 |x::l=>by
  rw[List.flatMap_cons,List.length_append,a6r l];simp[P9];omega
variable {lim n:Nat}
theorem b0g{base s g cap:Nat}{e:TypeId}{xs:List Value}(h:w.ownsRow base e s (.slice (some ⟨g,0,none⟩) n cap) n xs):n≤cap∧cap≤maxLen:=by
 rcases h.2 with⟨h0,-⟩|⟨g',cap',cur,hv,-,-,h1,h2,-⟩
 ·cases h0
 ·injection hv with _ _ hc
  subst hc;exact⟨h1,h2⟩
variable {a:Option Addr}
variable {files:List ByteArray}
theorem b8V{n:Nat}(hR:C0 w lim 1 P9 a files){p:Addr}(ha:a=some p):∀j u,(files.flatMap P9)[j]? =some u→w.cell? (p.add j)=some u:=by
 intro j u hu
 have hj:j<files.length:=by
  have:=(List.getElem?_eq_some_iff.1 hu).1;have e:=a6r files;omega
 obtain⟨p',hp,-,hc⟩:=hR j hj;rw[ha]at hp;cases hp;have hx:=a0z P9 1 (fun _=>rfl) files j hj 0 (by omega);simp only[Nat.mul_one,Nat.add_zero]at hx;have:=hc 0 u (by rw[←hx];exact hu);simpa using this
set_option maxRecDepth 100000 in
set_option maxHeartbeats 4000000 in
theorem b5s(w:World)(lim:Nat)(hl:lim≤w.heap.size)(files:List ByteArray)(p:Addr)(kk:Nat)(hR:Hid (C0 w lim 1 P9 (some p) files))(hn:files.length≤1048576):
 Calls Tryz.prog 34 #[.slice (some p) files.length kk] w fun e w'=>w.grownBy w' none∧∃v,e= .returned v∧Rm w' w.heap.size v files false:=by
 obtain⟨n,hnn⟩:∃n,n=files.length:=⟨_,rfl⟩
 have HN:Hid (n=files.length):=hnn;have HNW:Hid (∀j u,(files.flatMap P9)[j]? =some u→w.cell? (p.add j)=some u):=b8V (n:=n) hR.out rfl;rw[←hnn]at hn⊢;clear hnn;have heq:∀n k w,(binOp .eql 22 (.slice (some p) n k) (.slice none 0 0)).run Tryz.prog w= .ok (.bool false) w:=by intro n k w;kernel_rfl
 obtain⟨inf,hi0,hz0,hz1,hz2⟩:=info_parts a5G;have ho0:Hid (w.ownsRow w.heap.size 9 1 (.slice none 0 0) 0 []):=World.ownsRow_nil _ _ _ _;go_enter Tryz.func34,Tryz.ntmps34;go_wp2_with (at_builtin;go_loud (refine wpList_append_own _ rfl _ _ 22 rfl w.heap.size 9 inf _ 1 16 Tryz.underlying22 hi0 hz0 hz1 hz2 rfl (by decide) _ 0 [] rfl ho0.out p n kk (files.flatMap P9) rfl (by rw[a6r,Nat.mul_one];exact HN.out.symm) HNW.out (by intro u hu;obtain⟨s,-,hs⟩:=List.mem_flatMap.1 hu;simp[P9]at hs;subst hs;rfl) (by unfold maxLen;omega) (by omega) (Nat.le_refl _) ?_))
 rintro v1 w1 hown1 hgrow1-
 obtain⟨a1,k1,rfl⟩:=F1 hown1;have HG1:Hid (w.grownBy w1 none):=hgrow1;have HO1:=F5 hown1;clear hown1 hgrow1;go_wp2_with (at_builtin;go_loud (refine wpList_append_own _ rfl _ _ 22 rfl w.heap.size 9 inf _ 1 16 Tryz.underlying22 hi0 hz0 hz1 hz2 rfl (by decide) _ n (files.flatMap P9) rfl (World.ownsRow.alloc HO1.out _) ⟨w1.heap.size,0,none⟩ 1 1 [.string ⟨#[109,105,110,101]⟩] rfl rfl (O5 w1 [.string ⟨#[109,105,110,101]⟩] 9) (by simp[Value.oneCell']) (by unfold maxLen;omega) (by omega) (by have:=HG1.out.size;simp;omega) ?_))
 rintro v2 w2 hown2 hgrow2-
 obtain⟨g,cap,rfl,hcap,hgb⟩:=hown2.form (by omega);have HG2:Hid (w.grownBy w2 none):=C7 (A1 HG1.out (A2 w1 (.cells #[.string ⟨#[109,105,110,101]⟩] 9) none)) hgrow2 (fun x e=> .inl (K9 HO1.out e).1);have HO2:=F5 hown2;clear hown2 hgrow2;have hcn:(n:Int)≤(cap:Int):=by have:=(b0g HO2.out).1;omega
 go_wp2_with fail
 refine bodyPost_ret (v:= .slice (some ⟨g,0,none⟩) n cap) (by simp[results,Tryz.results34,go_sem]) rfl ⟨HG2.out,_,rfl, .inr ⟨rfl,g,cap,by rw[HN.out],?_⟩⟩;rw[←HN.out];have:=HO2.out;rw[List.flatMap_append];exact this
set_option maxRecDepth 100000 in
set_option maxHeartbeats 4000000 in
theorem b7p(w:World)(lim B:Nat)(files:List ByteArray)(p:Addr)(kk g cap:Nat)(hR:Hid (C0 w lim 1 P9 (some p) files))(hO:Hid (w.ownsRow B 9 1 (.slice (some ⟨g,0,none⟩) (files.length+1) cap) (files.length+1) ((files++ [a4c]).flatMap P9)))(hn:files.length≤1048576):
 Calls Tryz.prog 36 #[.slice (some ⟨g,0,none⟩) files.length cap, .slice (some p) files.length kk] w fun e w'=>e= .returned (.bool true)∧w.grownBy w' none:=by
 have HRD:Hid (C0 w w.heap.size 1 P9 (some ⟨g,0,none⟩) (files++ [a4c])):=a0k (fun _=>rfl) (by rw[List.length_append];exact hO.out);have hcap:=b0g hO.out
 have HM:Hid (w.cell? ⟨g,files.length,none⟩=some (.string ⟨#[109,105,110,101]⟩)):=by
  obtain⟨p',hp,-,hc⟩:=HRD.out files.length (by simp);cases hp;have:=hc 0 (.string a4c) (by simp[P9]);unfold Addr.add at this;unfold Hid;by_cases h0:files=[]
  ·subst h0;simpa[a4c]using this
  ·have h0':¬files.length=0:=fun e=>h0 (List.length_eq_zero_iff.1 e)
   simpa[h0,h0',a4c]using this
 have HF:Hid (∀k (hk:k<files.length),w.cell? ⟨g,k,none⟩=some (.string files[k])∧w.cell? (p.add k)=some (.string files[k])):=fun k hk=>by
  obtain⟨p',hp,-,hc⟩:=HRD.out k (by simp;omega);cases hp;obtain⟨p',hp,-,hc'⟩:=hR.out k hk;cases hp;have h1:=hc 0 (.string files[k]) (by rw[List.getElem_append_left hk];rfl);have h2:=hc' 0 (.string files[k]) rfl;refine⟨?_,by simpa using h2⟩;unfold Addr.add at h1;by_cases h0:k=0
  ·subst h0;simpa using h1
  ·simpa[h0]using h1
 obtain⟨n,hnn⟩:∃n,n=files.length:=⟨_,rfl⟩
 have HN:Hid (n=files.length):=hnn;rw[←hnn]at hn hcap HM⊢;clear hnn HRD hO hR;have heq:∀n k w,(binOp .eql 22 (.slice (some ⟨g,0,none⟩) n k) (.slice none 0 0)).run Tryz.prog w= .ok (.bool false) w:=by intro n k w;kernel_rfl
 have hc1:(n:Int)+1≤(cap:Int):=by omega
 have m0:w.cell? ⟨g,n,none⟩=some (.string ⟨#[109,105,110,101]⟩):=HM.out;go_enter Tryz.func36,Tryz.ntmps36;go_wp2_with fail
 clear m0;go_loopw [5] (fun i wr=>∃k:Nat,k≤n∧i= .int .i64 k∧Hid (w.grownBy wr none)) (fun i _=>n-(intOf i).toNat)
 case atStart=>exact⟨0,by omega,rfl,G1 _ _⟩
 case round=>
  obtain⟨k,hk,rfl,hg⟩:=hrel;by_cases hlt:k<n
  ·obtain⟨c0,c1⟩:=HF.out k (by rw[←HN.out];exact hlt);have c0:=hg.out.cell c0 (by simp);have c1:=hg.out.cell c1 (by simp);generalize files[k]'(by rw[←HN.out];exact hlt)=s at c0 c1;go_wp2_with fail
   go_quiet (fail)
   go_wp2_with fail
   go_roundw
   case rel=>exact⟨k+1,by omega,by go_num,A1 hg.out (F0 _ _ _)⟩
   case measure=>simp[intOf];omega
  ·go_wp2_with fail
   refine bodyPost_ret (v:= .bool true) (by simp[results,Tryz.results36,go_sem]) rfl ⟨rfl,hg.out⟩
set_option maxRecDepth 100000 in
set_option maxHeartbeats 4000000 in
theorem b5m(w:World)(B:Nat)(n g cap:Nat)(xs:List Value)(hO:Hid (w.ownsRow B 9 1 (.slice (some ⟨g,0,none⟩) (n+1) cap) (n+1) xs))(hn:n≤1048576):
 Calls Tryz.prog 37 #[.slice (some ⟨g,0,none⟩) n cap] w fun e w'=>(∃v,e= .returned v)∧w.grownBy w' (some g):=by
 obtain⟨cs,hcs⟩:∃cs:Array Value,A3 w g cs 9∧n<cs.size:=by
  rcases hO.out.2 with⟨h0,-⟩|⟨g',cap',cur,hv,-,hg,h1,-,h2,-⟩
  ·cases h0
  ·injection hv with ha _ hc
   injection ha with ha
   injection ha with ha _ _
   subst ha hc;exact⟨cur,hg,by omega⟩
 have HB:Hid (A3 w g cs 9∧n<cs.size):=hcs;clear hcs hO;go_enter Tryz.func37,Tryz.ntmps37;go_wp2_with fail
 go_loopw [2] (fun i wr=>∃k:Nat,k≤n∧i= .int .i64 k∧Hid (w.grownBy wr (some g))∧Hid (∃cs,A3 wr g cs 9∧n<cs.size)) (fun i _=>n-(intOf i).toNat)
 case atStart=>exact⟨0,by omega,rfl,G1 _ _,cs,HB.out⟩
 case round=>
  obtain⟨k,hk,rfl,hg,hbb⟩:=hrel;by_cases hlt:k<n
  ·obtain⟨cs2,hb2,hs2⟩:=hbb.out;have c0:wr.cell? ⟨g,k,none⟩=some cs2[k]:=hb2.cell k _ (Array.getElem?_eq_getElem (by omega));have z0:=hb2.frozen k;have HB2:=F5 hb2;clear hb2;go_wp2_with fail
   go_roundw
   case rel=>exact⟨k+1,by omega,by go_num,A1 hg.out (A6 _ ⟨g,k,none⟩ _),_,HB2.out.set k (.string ⟨#[103,111,110,101]⟩),by simpa using hs2⟩
   case measure=>simp[intOf];omega
  ·go_wp2_with fail
   go_end0;exact⟨⟨_,rfl⟩,hg.out⟩
theorem b8l(w:World)(x:Int):Calls Tryz.prog 38 #[.int .i64 x] w fun e w'=>e= .returned (.int .i64 x)∧w'=w:=by
 go_enter Tryz.func38,Tryz.ntmps38;go_wp2_with fail
 all_goals exact bodyPost_ret (v:= .int .i64 x) (by simp[results,Tryz.results38,go_sem]) rfl ⟨rfl,rfl⟩
theorem b5r(w:World):Calls Tryz.prog 34 #[.slice none 0 0] w fun e w'=>e= .returned (.slice none 0 0)∧w'=w:=by
 have heq:∀w,(binOp .eql 22 (.slice none 0 0) (.slice none 0 0)).run Tryz.prog w= .ok (.bool true) w:=by intro w;kernel_rfl
 go_enter Tryz.func34,Tryz.ntmps34;go_wp2_with fail
 all_goals exact bodyPost_ret (v:= .slice none 0 0) (by simp[results,Tryz.results34,go_sem]) rfl ⟨rfl,rfl⟩
theorem b7o(w:World):Calls Tryz.prog 36 #[.slice none 0 0, .slice none 0 0] w fun e w'=>e= .returned (.bool true)∧w'=w:=by
 have heq:∀w,(binOp .eql 22 (.slice none 0 0) (.slice none 0 0)).run Tryz.prog w= .ok (.bool true) w:=by intro w;kernel_rfl
 go_enter Tryz.func36,Tryz.ntmps36;go_wp2_with fail
 all_goals exact bodyPost_ret (v:= .bool true) (by simp[results,Tryz.results36,go_sem]) rfl ⟨rfl,rfl⟩
theorem b5l(w:World):Calls Tryz.prog 37 #[.slice none 0 0] w fun e w'=>(∃v,e= .returned v)∧w'=w:=by
 go_enter Tryz.func37,Tryz.ntmps37;go_wp2_with fail
 go_loopw [2] (fun i wr=>i= .int .i64 0∧wr=w) (fun _ _=>0)
 case atStart=>exact⟨rfl,rfl⟩
 case round=>
  obtain⟨rfl,rfl⟩:=hrel;go_wp2_with fail
  go_end0;exact⟨⟨_,rfl⟩,rfl⟩
structure RmK(w:World)(B:Nat)(ra:Option Addr)(n rk:Nat)(files:List ByteArray)(a:Option Addr)(kk:Nat):Prop where
 rd:C0 w w.heap.size 1 P9 ra files
 kept:∀W,w.grownBy W none→Calls Tryz.prog 36 #[.slice ra n rk, .slice a n kk] W fun e w'=>e= .returned (.bool true)∧W.grownBy w' none
 spoil:∀W,w.grownBy W none→Calls Tryz.prog 37 #[.slice ra n rk] W fun e w'=>(∃v,e= .returned v)∧W.grownBy w' (ra.map (·.block))
 low:∀p,ra=some p→B≤p.block∧p.block<w.heap.size
theorem C0.pre{α:Type}{sz:Nat}{enc:α→List Value}{xs ys:List α}(h:C0 w lim sz enc a (xs++ys)):C0 w lim sz enc a xs:=by
 intro j hj;obtain⟨p,h1,h2,h3⟩:=h j (by simp;omega);rw[List.getElem_append_left hj]at h3;exact⟨p,h1,h2,h3⟩
theorem b5t(w:World)(lim:Nat)(hl:lim≤w.heap.size)(files:List ByteArray)(a:Option Addr)(kk:Nat)(ha:a=none→files.length=0∧kk=0)(hR:Hid (C0 w lim 1 P9 a files))(hn:files.length≤1048576):
 Calls Tryz.prog 34 #[.slice a files.length kk] w fun e w'=>w.grownBy w' none∧∃ra rk,e= .returned (.slice ra files.length rk)∧RmK w' w.heap.size ra files.length rk files a kk:=by
 cases a with
 |none=>
  obtain⟨h0,rfl⟩:=ha rfl;obtain rfl:=List.length_eq_zero_iff.1 h0;refine(b5r w).mono ?_;rintro e w' ⟨rfl,rfl⟩;refine⟨G1 _ _,none,0,rfl,⟨fun j hj=>absurd hj (Nat.not_lt_zero _),fun W _=> ?_,fun W _=> ?_,fun p e=>by cases e⟩⟩
  ·refine(b7o W).mono ?_;rintro e w' ⟨rfl,rfl⟩;exact⟨rfl,G1 _ _⟩
  ·refine(b5l W).mono ?_;rintro e w' ⟨h,rfl⟩;exact⟨h,G1 _ _⟩
 |some p=>
  refine(b5s w lim hl files p kk hR hn).mono ?_;rintro e w' ⟨hg,v,rfl,⟨h,-⟩|⟨-,g,cap,rfl,ho⟩⟩
  ·cases h
  ·refine⟨hg,_,_,rfl,⟨C0.pre (a0k (fun _=>rfl) (by rw[List.length_append];exact ho)),fun W hW=> ?_,fun W hW=> ?_,fun p e=> ?_⟩⟩
   ·exact b7p W lim w.heap.size files p kk g cap (hR.out.keep (A1 hg hW)) (ho.kept hW (.inr (by simp[Value.ownBlock]))) hn
   ·exact b5m W w.heap.size files.length g cap _ (ho.kept hW (.inr (by simp[Value.ownBlock]))) hn
   ·cases e;have:=ho.form (by omega);obtain⟨g',cap',hv,h1,h2⟩:=this;injection hv with hv _ _
    injection hv with hv
    injection hv with hv _ _
    subst hv;exact⟨h1,h2⟩
def ldE(pv:Option Addr)(c x y z:Int):Ending:= .returned (.tuple #[.pointer pv, .int .i64 c, .agg #[.int .i64 x, .int .i64 y, .int .i64 z]])
def b1H(A R:Ending→World→Prop):Prop:=∀e w1 f w2,A e w1→R f w2→∃pv qv c x y z,e=ldE pv c x y z∧f=ldE qv c x y z∧pv.isNone=qv.isNone
def LdA(A R:Nat→Ending→World→Prop)(e:Ending)(w':World):Prop:=
 ∃pv qv c x y z B1 B2 wa wb wm row,e= .returned (.tuple #[.pointer pv, .pointer qv, .bool true])∧pv.isNone=qv.isNone∧A B1 (ldE pv c x y z) wa∧R B2 (ldE qv c x y z) wb∧B1≤B2∧wa.grownBy wm none∧wb.grownBy wm none∧wm.grownBy w' row∧∀g,B1≤g→some g≠row
def LdG(w:World)(A R:Nat→Ending→World→Prop)(e:Ending)(w':World):Prop:=LdA A R e w'∧w.grownBy w' none
set_option maxRecDepth 100000 in
set_option maxHeartbeats 4000000 in
theorem b4C(w:World)(lim:Nat)(hl:lim≤w.heap.size)(files:List ByteArray)(a:Option Addr)(kk:Nat)(ck:Bool)(ha:a=none→files.length=0∧kk=0)(hR:Hid (C0 w lim 1 P9 a files))(hn:files.length≤1048576)
 (A R:Nat→Ending→World→Prop) (hAf:∀B e W,A B e W→∃pv c x y z,e=ldE pv c x y z) (hAR:Hid (∀B B',b1H (A B) (R B')))
 (hAl:Hid (∀W,w.grownBy W none→Calls Tryz.prog 33 #[] W fun e w'=>e= .returned (.bool true)∧W.grownBy w' none))
 (hP:Hid (∀W ra rk,w.grownBy W none→C0 W W.heap.size 1 P9 ra files→Calls Tryz.prog 31 #[.slice ra files.length rk, .bool ck] W fun e w'=>W.grownBy w' none∧A W.heap.size e w'))
 (hQ:Hid (∀W,w.grownBy W none→C0 W W.heap.size 1 P9 a files→Calls Tryz.prog 35 #[.slice a files.length kk, .bool ck] W fun e w'=>W.grownBy w' none∧R W.heap.size e w')):
 Calls Tryz.prog 13 #[.slice a files.length kk, .bool ck] w fun e w'=>LdG w A R e w':=by
 go_enter Tryz.func13,Tryz.ntmps13
 go_wp2_with (first
  |(go_at_call 33;refine(hAl.out _ (G1 _ _)).mono ?_;rintro e w1 ⟨rfl,hg1⟩)
  |(go_at_call 34;refine(b5t _ lim (Nat.le_trans hl hg1.size) files a kk ha (hR.out.keep hg1) hn).mono ?_;rintro e w2 ⟨hg2,ra,rk,rfl,hrm⟩)
  |(go_at_call 31;refine(hP.out _ ra rk (A1 hg1 hg2) hrm.rd).mono ?_))
 rintro e w3 ⟨hg3,hA⟩;obtain⟨pv,c,x,y,z,rfl⟩:=hAf _ _ _ hA;have hg4:w3.grownBy (w3.alloc (.cells #[.int .i64 x, .int .i64 y, .int .i64 z] 78)) none:=A2 _ _ _;have hw4:w.grownBy (w3.alloc (.cells #[.int .i64 x, .int .i64 y, .int .i64 z] 78)) none:=A1 (A1 (A1 hg1 hg2) hg3) hg4;have HB4:Hid (A3 (w3.alloc (.cells #[.int .i64 x, .int .i64 y, .int .i64 z] 78)) w3.heap.size #[.int .i64 x, .int .i64 y, .int .i64 z] 78):=A3.new w3 _ _;have HQ4:=F5 (hQ.out _ hw4 ((hR.out.keep hw4).upto (Nat.le_trans hl hw4.size)));have HRM:=F5 hrm;have HA:=F5 hA;have HG23:Hid (w2.grownBy (w3.alloc (.cells #[.int .i64 x, .int .i64 y, .int .i64 z] 78)) none):=A1 hg3 hg4;clear hrm hA;unfold ldE;go_wp2_with (go_at_call 35;refine HQ4.out.mono ?_)
 rintro e w5 ⟨hg5,hRr⟩;obtain⟨pv',qv,c',x',y',z',he,rfl,hpq⟩:=hAR.out _ _ _ _ _ _ HA.out hRr;injection he with he
 injection he with he
 simp at he;obtain⟨rfl,rfl,rfl,rfl,rfl⟩:=he;unfold ldE;have hg6:w5.grownBy (w5.alloc (.cells #[.int .i64 x, .int .i64 y, .int .i64 z] 78)) none:=A2 _ _ _;have HG26:Hid (w2.grownBy (w5.alloc (.cells #[.int .i64 x, .int .i64 y, .int .i64 z] 78)) none):=A1 (A1 HG23.out hg5) hg6;have HB6:Hid (A3 (w5.alloc (.cells #[.int .i64 x, .int .i64 y, .int .i64 z] 78)) w5.heap.size #[.int .i64 x, .int .i64 y, .int .i64 z] 78):=A3.new w5 _ _;have HB4':Hid (A3 (w5.alloc (.cells #[.int .i64 x, .int .i64 y, .int .i64 z] 78)) w3.heap.size #[.int .i64 x, .int .i64 y, .int .i64 z] 78):=(HB4.out.keep hg5 (by simp)).keep hg6 (by simp)
 go_wp2_with (first
  |(go_at_call 36;refine(HRM.out.kept _ HG26.out).mono ?_;rintro e w7 ⟨rfl,hg7⟩)
  |(go_at_call 37;refine(HRM.out.spoil _ (A1 HG26.out hg7)).mono ?_))
 rintro e w8 ⟨⟨v8,rfl⟩,hg8⟩
 have hlow:∀g,w2.heap.size≤g→some g≠ra.map (·.block):=fun g hg e=>by
  cases ra with
  |none=>cases e
  |some p=>
   have:=(HRM.out.low p rfl).2;simp at e;omega
 have h23:=HG23.out.size
 have hfr:w.grownBy w8 none:=C7 (A1 (A1 (A1 hw4 hg5) hg6) hg7) hg8 (fun k e=> .inl (by
  cases ra with
  |none=>cases e
  |some p=>
   have h1:=(HRM.out.low p rfl).1;have h2:=hg1.size;simp at e;omega))
 have hb4:=(HB4'.out.keep hg7 (by simp)).keep hg8 (hlow _ hg3.size);have hb6:=(HB6.out.keep hg7 (by simp)).keep hg8 (hlow _ (Nat.le_trans h23 hg5.size));have r0:=hb4.cell 0 _ rfl;have r1:=hb4.cell 1 _ rfl;have r2:=hb4.cell 2 _ rfl;have s0:=hb6.cell 0 _ rfl;have s1:=hb6.cell 1 _ rfl;have s2:=hb6.cell 2 _ rfl;go_wp2_with (go_at_call 38;refine(b8l _ _).mono ?_;rintro e w9 ⟨rfl,rfl⟩)
 exact bodyPost_ret (v:= .tuple #[.pointer pv, .pointer qv, .bool true]) (by simp[results,Tryz.results13,go_sem]) rfl ⟨⟨pv,qv,c,x,y,z,_,_,w3,w5,w7,_,rfl,hpq,HA.out,hRr,h23,A1 (A1 (A1 hg4 hg5) hg6) hg7,A1 hg6 hg7,hg8,hlow⟩,hfr⟩
theorem b8v{gs:List Cl}(h1:fs.length=files.length)(h2:gs.length=files.length)(d1:∀i (hi:i<files.length),F7 files[i]= .ok (cl fs i))(d2:∀i (hi:i<files.length),F7 files[i]= .ok (cl gs i)):fs=gs:=by
 refine List.ext_getElem (by omega) fun i hi hj=> ?_
 have e1:=d1 i (by omega);have e2:=d2 i (by omega);rw[e1,U3 hi,U3 hj]at e2;exact Except.ok.inj e2
theorem b4D(bo:Bool)(files:List ByteArray):∀B e W,a6b B bo files e W→∃pv c x y z,e=ldE pv c x y z:=by
 rintro B e W (⟨-,rfl⟩|⟨-,j,hj,er,-,-,rfl⟩|⟨-,fs,-,-,⟨er,-,rfl⟩|⟨-,P,B2,b,v,m1,m2,m3,qf,rfl,-⟩⟩)
 ·exact⟨_,_,_,_,_,rfl⟩
 ·exact⟨_,_,_,_,_,rfl⟩
 ·exact⟨_,_,_,_,_,rfl⟩
 ·exact⟨_,_,_,_,_,rfl⟩
theorem b5c(bo:Bool)(files:List ByteArray)(B B':Nat):b1H (a6b B bo files) (a7P B' bo files):=by
 rintro e w1 f w2 (⟨h1,rfl⟩|⟨h1,j,hj,er,hd,hp,rfl⟩|⟨h1,fs,hf,hd,hp⟩) (⟨k1,rfl⟩|⟨k1,j',hj',er',hd',hp',rfl⟩|⟨k1,gs,hf',hd',hp'⟩)
 ·exact⟨_,_,_,_,_,_,rfl,rfl,rfl⟩
 ·omega
 ·omega
 ·omega
 ·have e:j=j':=by
   rcases Nat.lt_trichotomy j j' with h|h|h
   ·obtain⟨c,hc⟩:=hp' j hj h;rw[hd]at hc;cases hc
   ·exact h
   ·obtain⟨c,hc⟩:=hp j' hj' h;rw[hd']at hc;cases hc
  subst e;rw[hd]at hd';cases hd';exact⟨_,_,_,_,_,_,rfl,rfl,rfl⟩
 ·rw[hd' j hj]at hd;cases hd
 ·omega
 ·rw[hd j' hj']at hd';cases hd'
 ·obtain rfl:=b8v hf hf' hd hd';have hl:=b1q fs (fun c hc=>(a5J hf hd c hc).okCl);rcases hp with⟨er,he,rfl⟩|⟨he,P,B2,b,v,m1,m2,m3,qf,rfl,-⟩
  ·rcases hp' with⟨er',he',rfl⟩|⟨he',-⟩
   ·rw[hl,he']at he;cases he;exact⟨_,_,_,_,_,_,rfl,rfl,rfl⟩
   ·rw[hl,he']at he;cases he
  ·rcases hp' with⟨er',he',rfl⟩|⟨he',P',B3,wb,va,vf,qf',rfl,-⟩
   ·rw[hl,he']at he;cases he
   ·exact⟨_,_,_,_,_,_,rfl,rfl,rfl⟩
set_option maxRecDepth 100000 in
set_option maxHeartbeats 4000000 in
theorem c1s(w:World)(lim:Nat)(hl:lim≤w.heap.size)(files:List ByteArray)(a:Option Addr)(kk:Nat)(ha:a=none→files.length=0∧kk=0)(hR:Hid (C0 w lim 1 P9 a files))(hn:files.length≤1048576)(hz:Hid (∀s∈files,s.size≤maxLen))(hS:Hid (p9 w))(hBin:Hid (Bin w))
 (hAl:Hid (∀W,w.grownBy W none→Calls Tryz.prog 33 #[] W fun e w'=>e= .returned (.bool true)∧W.grownBy w' none)):
 Calls Tryz.prog 3 #[.slice a files.length kk] w fun e w'=>e= .returned (.bool true)∧w.grownBy w' none:=by
 have HLD:Hid (Calls Tryz.prog 13 #[.slice a files.length kk, .bool false] w fun e w'=>LdG w (fun B=>a6b B false files) (fun B=>a7P B false files) e w'):=
  b4C w lim hl files a kk false ha hR hn _ _ (b4D false files) (fun B B'=>b5c false files B B') hAl
   (fun W ra rk hW hr=>b7j W W.heap.size (Nat.le_refl _) files ra rk hr hz (hS.out.keep hW (by simp)) (hBin.out.keep hW))
   (fun W hW hr=>b5u W W.heap.size (Nat.le_refl _) files a kk hr hz)
 go_enter Tryz.func3,Tryz.ntmps3;go_wp2_with (go_at_call 13;refine HLD.out.mono ?_)
 rintro e w1 ⟨⟨pv,qv,c,x,y,z,B1,B2,wa,wb,wm,row,rfl,-⟩,hfr⟩;go_wp2_with fail
 exact bodyPost_ret (v:= .bool true) (by simp[results,Tryz.results3,go_sem]) rfl ⟨rfl,hfr⟩
theorem b5S(w:World)(op:Nat):Calls Tryz.prog 250 #[.int .i64 op] w fun e w'=>e= .returned (.bool (a1o op))∧w'=w:=by
 have h:a1o op=(decide ((op:Int)=12)||decide ((op:Int)=20)||decide ((op:Int)=30)):=by
  unfold a1o;rw[Bool.eq_iff_iff];simp;omega
 rw[h];clear h;go_enter Tryz.func250,Tryz.ntmps250;by_cases h1:(op:Int)=12
 ·go_wp2_with fail
  all_goals exact bodyPost_ret (v:= .bool true) (by simp[results,Tryz.results250,go_sem]) rfl ⟨by simp[h1],rfl⟩
 ·by_cases h2:(op:Int)=20
  ·go_wp2_with fail
   all_goals exact bodyPost_ret (v:= .bool true) (by simp[results,Tryz.results250,go_sem]) rfl ⟨by simp[h2],rfl⟩
  ·by_cases h3:(op:Int)=30
   ·go_wp2_with fail
    all_goals exact bodyPost_ret (v:= .bool true) (by simp[results,Tryz.results250,go_sem]) rfl ⟨by simp[h3],rfl⟩
   ·go_wp2_with fail
    all_goals exact bodyPost_ret (v:= .bool false) (by simp[results,Tryz.results250,go_sem,h1,h2,h3]) rfl ⟨by simp[h1,h2,h3],rfl⟩
theorem N3(w:World)(v:Value):Calls Tryz.prog 321 #[v] w fun e w'=>e= .returned v∧w'=w:=by
 go_enter Tryz.func321,Tryz.ntmps321;go_wp2_with fail
 all_goals exact bodyPost_ret (v:=v) (by simp[results,Tryz.results321,go_sem]) rfl ⟨rfl,rfl⟩
theorem a6L(w:World)(h:Hd)(at_:Nat):Calls Tryz.prog 239 #[.agg #[.int .i64 h.from_, .int .i64 h.to, .int .i64 h.at_, .string h.cls], .int .i64 at_] w fun e w'=>e= .returned (.bool (O8 h at_))∧w.grownBy w' none:=by
 have hb:=A3.new w #[.int .i64 h.from_, .int .i64 h.to, .int .i64 h.at_, .string h.cls] 202;have c0:=hb.cell 0 _ rfl;have c1:=hb.cell 1 _ rfl;have hg:w.grownBy (w.alloc (.cells #[.int .i64 h.from_, .int .i64 h.to, .int .i64 h.at_, .string h.cls] 202)) none:=A2 _ _ _;go_enter Tryz.func239,Tryz.ntmps239;by_cases h1:h.from_≤at_
 ·have h1':(h.from_:Int)≤at_:=by omega
  by_cases h2:at_<h.to
  ·have h2':(at_:Int)<h.to:=by omega
   go_wp2_with fail
   all_goals exact bodyPost_ret (v:= .bool true) (by simp[results,Tryz.results239,go_sem,h1,h2]) rfl ⟨by simp[O8,h1,h2],hg⟩
  ·have h2':¬(at_:Int)<h.to:=by omega
   go_wp2_with fail
   all_goals exact bodyPost_ret (v:= .bool false) (by simp[results,Tryz.results239,go_sem,h1,h2,Nat.not_lt.1 h2]) rfl ⟨by simp[O8,h2,Nat.not_lt.1 h2],hg⟩
 ·have h1':¬(h.from_:Int)≤at_:=by omega
  go_wp2_with fail
  all_goals exact bodyPost_ret (v:= .bool false) (by simp[results,Tryz.results239,go_sem,h1,Nat.not_le.1 h1]) rfl ⟨by simp[O8,h1],hg⟩
theorem a9(w:World)(k:Int):Calls Tryz.prog 320 #[.int .i64 k] w fun e w'=>e= .returned (.agg #[.int .i64 k, .string ⟨#[]⟩])∧w.grownBy w' none:=by
 have hg:w.grownBy (w.alloc (.cells #[.int .i64 k, .string ⟨#[]⟩] 98)) none:=A2 _ _ _;have hb:=A3.new w #[.int .i64 k, .string ⟨#[]⟩] 98;have q0:=hb.c0;have q1:=hb.c1;go_enter Tryz.func320,Tryz.ntmps320;go_wp2_with fail
 all_goals exact bodyPost_ret (v:= .agg #[.int .i64 k, .string ⟨#[]⟩]) (by simp[results,Tryz.results320,go_sem,q0,q1]) rfl ⟨rfl,hg⟩
theorem U8(w:World)(s:ByteArray):Calls Tryz.prog 267 #[.string s] w fun e w'=>e= .returned (.agg #[.int .i64 2, .string s])∧w.grownBy w' none:=by
 have hg:w.grownBy (w.alloc (.cells #[.int .i64 2, .string s] 98)) none:=A2 _ _ _;have hb:=A3.new w #[.int .i64 2, .string s] 98;have q0:=hb.c0;have q1:=hb.c1;go_enter Tryz.func267,Tryz.ntmps267;go_wp2_with fail
 all_goals exact bodyPost_ret (v:= .agg #[.int .i64 2, .string s]) (by simp[results,Tryz.results267,go_sem,q0,q1]) rfl ⟨rfl,hg⟩
theorem a8n(w:World)(t:Ty):Calls Tryz.prog 324 #[.agg #[.int .i64 t.kind, .string t.name]] w fun e w'=>w.grownBy w' none∧∃v,e= .returned v∧w'.ownsRow w.heap.size 98 2 v (a0L t).length ((a0L t).flatMap C1):=by
 obtain⟨k,nm⟩:=t;dsimp only;have hg:w.grownBy (w.alloc (.cells #[.int .i64 k, .string nm] 98)) none:=A2 _ _ _;have hb:=A3.new w #[.int .i64 k, .string nm] 98;have c0:=hb.cell 0 _ rfl;have c1:=hb.cell 1 _ rfl;by_cases h:k=0
 ·subst h;go_enter Tryz.func324,Tryz.ntmps324;go_wp2_with fail
  all_goals exact bodyPost_ret (v:= .slice none 0 0) (by simp[results,Tryz.results324,go_sem]) rfl ⟨hg,_,rfl,by simp only[a0L,if_true];exact World.ownsRow_nil _ _ _ _⟩
 ·have h0:¬(k:Int)=0:=by omega
  have ho:=a0f (w.alloc (.cells #[.int .i64 k, .string nm] 98)) 98 2 1 w.heap.size [.int .i64 k, .string nm] rfl (by simp) (by unfold maxLen;omega);have hg2:w.grownBy ((w.alloc (.cells #[.int .i64 k, .string nm] 98)).alloc (.cells [.int .i64 k, .string nm].toArray 98)) none:=A1 hg (A2 _ _ _);have hu:a0L ⟨k,nm⟩=[⟨k,nm⟩]:=by simp[a0L,h]
  rw[hu];clear hu;go_enter Tryz.func324,Tryz.ntmps324;go_wp2_with (go_at_call 321;refine(N3 _ _).mono ?_;rintro e w1 ⟨rfl,rfl⟩)
  all_goals exact bodyPost_ret (v:= .slice (some ⟨w.heap.size+1,0,none⟩) 1 1) (by simp[results,Tryz.results324,go_sem]) rfl ⟨hg2,_,rfl,by simpa[C1]using ho⟩
end Kx
end Go.Proofs.YtdhophglnhcjbaaGreatDoor
