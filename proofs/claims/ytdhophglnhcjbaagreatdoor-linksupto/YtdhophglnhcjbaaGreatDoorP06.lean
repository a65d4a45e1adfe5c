/- P06: a part of the proof that the last text tells. -/
import Derived.Test.YtdhophglnhcjbaaGreatDoorP05
import Derived.Carry
import Derived.Deep.MidRow
import Derived.Test.YtdhophglnhcjbaaGreatDoorP00
import Derived.Laws.EntriesVeiled
import Derived.Test.YtdhophglnhcjbaaGreatDoorP01
set_option linter.all false
namespace Go.Proofs.YtdhophglnhcjbaaGreatDoor
open Go.RowKit Go.Shelf Cf
namespace Kx
def Gm(w:World)(B b:Nat)(v:Value)(m1 m2 m3:Nat)(L:List Cl)(q:Nat→Qs):Prop:=
 Am w B b v m1 m2 m3 L.length (N6 K5 L).length (N6 G2 L).length (P2 (X5 L)) (P2 (N6 K5 L)) (P2 (N6 G2 L)) L.length ((List.range L.length).flatMap (K4 L q))
theorem a7h(c:Cl)(ns:List ByteArray):(I5 c ns).length=ns.length:=by unfold I5;simp
theorem b0E(l m:List (Ky×Nat)):P2 (l++m)=m.foldl F6 (P2 l):=by unfold P2;rw[List.foldl_append]
theorem a4N(L:List Cl)(c:Cl):cl (L++ [c]) L.length=c:=by have:=a5d (l:=L) (m:=[c]) (i:=0);simp[cl]
theorem Gm.of{w:World}{B b:Nat}{v:Value}{m1 m2 m3:Nat}{L:List Cl}{q:Nat→Qs}{c:Cl}
 (h:Am w B b v m1 m2 m3 (L.length+1) ((N6 K5 L).length+c.fields.length) ((N6 G2 L).length+c.methods.length) (F6 (P2 (X5 L)) (P4 c.name,L.length)) ((I5 c (K5 c)).foldl F6 (P2 (N6 K5 L))) ((I5 c (G2 c)).foldl F6 (P2 (N6 G2 L))) (L.length+1) ((List.range L.length).flatMap (K4 L q)++F8 c (q L.length))):Gm w B b v m1 m2 m3 (L++ [c]) q:=by
 unfold Gm
 rw[a9a,b6m,a9C,a9C,b0E,b0E,List.length_append,List.length_append,List.length_append,a7h,a7h,List.length_singleton,
  show(K5 c).length=c.fields.length from by unfold K5;simp,show(G2 c).length=c.methods.length from by unfold G2;simp]
 have e:(List.range (L.length+1)).flatMap (K4 (L++ [c]) q)=(List.range L.length).flatMap (K4 L q)++F8 c (q L.length):=by
  rw[List.range_succ,List.flatMap_append];congr 1
  ·refine a4o (fun i hi=> ?_);unfold K4;rw[L9 (List.mem_range.1 hi)]
  ·simp only[List.flatMap_cons,List.flatMap_nil,List.append_nil,K4,a4N]
 rw[e];exact h
theorem b0U{f:Cl→List ByteArray}{L:List Cl}(h:∀c∈L,(f c).length≤255)(hl:L.length≤64):(N6 f L).length≤64*255:=by
 unfold N6;have:=a7G (f:=fun c=>I5 c (f c)) (c:=255) (l:=L) (fun c hc=>by rw[a7h];exact h c hc);exact Nat.le_trans this (Nat.mul_le_mul_right _ hl)
def q8(c:Cl):Prop:=c.name.size≤maxLen∧c.super.size≤maxLen∧(∀x∈K5 c,x.size≤maxLen)∧(∀x∈G2 c,x.size≤maxLen)∧c.fields.length≤255∧c.methods.length≤255
set_option maxRecDepth 100000 in
theorem b0I(w:World)(B b:Nat)(v:Value)(m1 m2 m3:Nat)(L:List Cl)(q:Nat→Qs)(lim:Nat)(h:Gm w B b v m1 m2 m3 L q)(hB:B≤w.heap.size)(hl:lim≤B)(c:Cl)(qc:Qs)(hq:q L.length=qc)(hF:C0 w lim 3 G8 qc.fa c.fields)(hM:PM w lim qc.ma c.methods)(hc:q8 c)(hL:L.length≤63)(hok:∀c∈L,q8 c):
 Calls Tryz.prog 157 #[.pointer (some ⟨b,0,none⟩), .agg (F8 c qc).toArray] w fun e w'=>e= .returned (.tuple #[])∧Below B w w'∧∃v',Gm w' B b v' m1 m2 m3 (L++ [c]) q:=by
 have k2:=b0U (f:=K5) (L:=L) (fun c hc=>by have:=(hok c hc).2.2.2.2.1;unfold K5;simpa using this) (by omega);have k3:=b0U (f:=G2) (L:=L) (fun c hc=>by have:=(hok c hc).2.2.2.2.2;unfold G2;simpa using this) (by omega);refine(b8G w B b v m1 m2 m3 _ _ _ _ _ _ _ _ lim h hB hl c qc hF hM hc.2.2.2.2.1 hc.2.2.2.2.2 hc.1 hc.2.2.1 hc.2.2.2.1 (by omega) (by omega) (by omega) (by omega)).mono ?_;rintro e w' ⟨rfl,hb,v',ha⟩;refine⟨rfl,hb,v',Gm.of ?_⟩;rw[hq];exact ha
def Bin(w:World):Prop:=1<w.heap.size∧∀i,i<9→w.cell? ⟨1,i*2,none⟩=some (.string (cl A5 i).name)∧w.cell? ⟨1,i*2+1,none⟩=some (.string (cl A5 i).super)
theorem Bin.keep{w w':World}(h:Bin w)(hg:w.grownBy w' none):Bin w':=⟨Nat.lt_of_lt_of_le h.1 hg.size,fun i hi=>⟨hg.cell (h.2 i hi).1 (by simp),hg.cell (h.2 i hi).2 (by simp)⟩⟩
def a6k:List Value:=[.string D4, .string C3, .string F9, .string D4, .string a8a, .string F9, .string a7M, .string F9, .string a7U, .string F9, .string a7V, .string F9, .string a7T, .string F9, .string a7A, .string F9, .string a7N, .string F9]
theorem b8F:a6k=(List.range 9).flatMap fun i=> [.string (cl A5 i).name, .string (cl A5 i).super]:=rfl
theorem Bin.range{w:World}(h:Bin w):w.rangeAt 1 0 a6k:=by
 intro j v hj;have hl:j<18:=by have:=(List.getElem?_eq_some_iff.1 hj).1;exact this
 obtain⟨k,r,rfl,hk,hr⟩:∃k r,j=k*2+r∧k<9∧r<2:=⟨j/2,j % 2,by omega,by omega,by omega⟩
 rw[b8F,a0z (fun i=> [Value.string (cl A5 i).name,Value.string (cl A5 i).super]) 2 (fun _=>rfl) (List.range 9) k (by simpa using hk) r hr]at hj;simp only[List.getElem_range]at hj;have h2:=h.2 k hk;rw[Nat.zero_add];rcases(by omega:r=0∨r=1)with rfl|rfl
 ·injection hj with hj
  rw[←hj];exact h2.1
 ·injection hj with hj
  rw[←hj];exact h2.2
theorem b4X{k:Nat}(hk:k<9)(w:World):(Instr.index 280 (.agg a6k.toArray) (.int .i64 (k:Int))).run Tryz.prog w= .ok (.agg #[.string (cl A5 k).name, .string (cl A5 k).super]) w:=by
 rcases a0Y hk with rfl|rfl|rfl|rfl|rfl|rfl|rfl|rfl|rfl<;>kernel_rfl
theorem b0i{i:Nat}(hi:i<9):q8 (cl A5 i):=by
 rcases a0Y hi with rfl|rfl|rfl|rfl|rfl|rfl|rfl|rfl|rfl<;>exact⟨by decide,by decide,(fun x hx=>by cases hx),(fun x hx=>by cases hx),by decide,by decide⟩
theorem b6u{k:Nat}(hk:k<9):A5.take (k+1)=A5.take k++ [cl A5 k]:=by
 have h:k<A5.length:=hk;rw[List.take_succ_eq_append_getElem h,U3 h]
theorem a5C(k:Nat):∀c∈A5.take k,q8 c:=fun c hc=>by
 obtain⟨j,hj,rfl⟩:=List.getElem_of_mem (List.mem_of_mem_take hc);rw[←U3 hj];exact b0i hj
set_option maxRecDepth 100000 in
set_option maxHeartbeats 4000000 in
theorem b4L(w:World)(lim:Nat)(hl:lim≤w.heap.size)(fs:List Cl)(qf:Nat→Qs)(a:Option Addr)(kk:Nat)(hG:Hid (U7 w lim fs qf))(hO:Hid (∀c∈fs,q8 c))(hR:Hid (C0 w lim 4 (K4 fs qf) a (List.range fs.length)))(hBin:Hid (Bin w)):
 Calls Tryz.prog 100 #[.slice a fs.length kk] w fun e w'=>∃b v m1 m2 m3,e= .returned (.pointer (some ⟨b,0,none⟩))∧Below w.heap.size w w'∧Gm w' w.heap.size b v m1 m2 m3 (A5++fs) (K6 qf):=by
 obtain⟨n,hn⟩:∃n,n=fs.length:=⟨_,rfl⟩
 have HN:=A0 hn;have hn12:n≤12:=by rw[hn];exact hG.out.few
 rw[←hn];rw[←hn]at hR;clear hn;have h1:=((World.ownsMap_made (H:=Unit) w Tryz.prog 9 (plainElem Tryz.prog 3)).alloc (.map #[] 0)).alloc (.map #[] 0);have h2:=(World.ownsMap_made (H:=Unit) (w.alloc (.map #[] 0)) Tryz.prog 255 (plainElem Tryz.prog 3)).alloc (.map #[] 0);have h3:=World.ownsMap_made (H:=Unit) ((w.alloc (.map #[] 0)).alloc (.map #[] 0)) Tryz.prog 255 (plainElem Tryz.prog 3);have hL0:Below w.heap.size w (((w.alloc (.map #[] 0)).alloc (.map #[] 0)).alloc (.map #[] 0)):=(((Below.refl _ w).alloc (Nat.le_refl _) _).alloc (by simp) _).alloc (by simp;omega) _;have hbin:=hBin.out.keep (show w.grownBy (((w.alloc (.map #[] 0)).alloc (.map #[] 0)).alloc (.map #[] 0)) none from A1 (A1 (A2 _ _ _) (A2 _ _ _)) (A2 _ _ _));have hsz:(((w.alloc (.map #[] 0)).alloc (.map #[] 0)).alloc (.map #[] 0)).heap.size=w.heap.size+1+1+1:=by simp
 simp only[World.size_alloc]at h2 h3;go_enter Tryz.func100,Tryz.ntmps100;go_wp2_with fail
 rw[run_makeMap];simp only[Result.andThen_ok];go_wp2_with fail
 rw[run_makeMap];simp only[Result.andThen_ok];go_wp2_with fail
 rw[run_makeMap];simp only[Result.andThen_ok,World.size_alloc];generalize hW3:(((w.alloc (.map #[] 0)).alloc (.map #[] 0)).alloc (.map #[] 0))=W3 at h1 h2 h3 hL0 hbin hsz⊢;clear hW3;have hb0:=A3.new W3 #[.slice none 0 0, .map (some w.heap.size), .map (some (w.heap.size+1)), .map (some (w.heap.size+1+1))] 151;have HG0:Hid (Gm (W3.alloc (.cells #[.slice none 0 0, .map (some w.heap.size), .map (some (w.heap.size+1)), .map (some (w.heap.size+1+1))] 151)) w.heap.size W3.heap.size (.slice none 0 0) w.heap.size (w.heap.size+1) (w.heap.size+1+1) [] (K6 qf)):=⟨hb0,World.ownsRow_nil _ _ _ _,h1.alloc _,h2.alloc _,h3.alloc _,by omega,by omega,by omega,by omega,by omega,by omega,by omega⟩
 have HL0:Hid (Below w.heap.size w (W3.alloc (.cells #[.slice none 0 0, .map (some w.heap.size), .map (some (w.heap.size+1)), .map (some (w.heap.size+1+1))] 151))):=hL0.alloc (by omega) _;have HRA:=A0 ((hbin.keep (A2 W3 (.cells #[.slice none 0 0, .map (some w.heap.size), .map (some (w.heap.size+1)), .map (some (w.heap.size+1+1))] 151) none)).range);clear hbin h1 h2 h3 hL0 hb0 hsz;go_wp2_with (refine wpList_load_mid rfl 280 (.global 1) rfl 1 0 rfl a6k _ HRA.out Tryz.underlying280 rfl rfl ?_)
 clear HRA;go_loopw [14] (fun i wr=>∃(k:Nat) (v:Value),k≤9∧i= .int .i64 k∧Hid (Gm wr w.heap.size W3.heap.size v w.heap.size (w.heap.size+1) (w.heap.size+1+1) (A5.take k) (K6 qf))∧Hid (Below w.heap.size w wr)) (fun i _=>9-(intOf i).toNat)
 case atStart=>exact⟨0,_,by omega,rfl,HG0,HL0⟩
 case round=>
  clear HG0 HL0;obtain⟨k,v,hk,rfl,HG,HL⟩:=hrel;by_cases hlt:k<9
  ·have hBw:=HL.out.size
   have HADD:Hid (∀ob,Calls Tryz.prog 157 #[.pointer (some ⟨W3.heap.size,0,none⟩), .agg (F8 (cl A5 k) q0).toArray] (wr.alloc ob) fun e w'=>e= .returned (.tuple #[])∧Below w.heap.size (wr.alloc ob) w'∧∃v',Gm w' w.heap.size W3.heap.size v' w.heap.size (w.heap.size+1) (w.heap.size+1+1) (A5.take (k+1)) (K6 qf)):=fun ob=>by
    have hl9:(A5.take k).length=k:=by rw[List.length_take];have:A5.length=9:=rfl;omega
    rw[b6u hlt];exact b0I (wr.alloc ob) w.heap.size W3.heap.size v _ _ _ _ _ 0 (Am.keep HG.out (A2 _ _ _)) (by simp;omega) (Nat.zero_le _) (cl A5 k) q0 (by rw[hl9,K6,if_pos hlt]) (fun j hj=>by rw[(a0O hlt).1]at hj;cases hj) (fun j hj=>by rw[(a0O hlt).2.1]at hj;cases hj) (b0i hlt) (by rw[hl9];omega) (a5C k)
   have HBO:=A0 (fun ob=>HL.out.alloc hBw ob);have hix:=b4X hlt wr
   have HCV:Hid (F8 (cl A5 k) q0=[.string (cl A5 k).name, .string (cl A5 k).super, .slice none 0 0, .slice none 0 0]):=by
    unfold Hid F8;rw[(a0O hlt).1,(a0O hlt).2.1];rfl
   rw[HCV.out]at HADD;obtain⟨nm,hnm⟩:∃nm,nm=(cl A5 k).name:=⟨_,rfl⟩
   obtain⟨sp,hsp⟩:∃sp,sp=(cl A5 k).super:=⟨_,rfl⟩
   rw[←hnm,←hsp]at hix HADD;clear HG hnm hsp HCV;go_wp2_with (go_at_call 157;refine(HADD.out _).mono ?_;rintro e w4 ⟨rfl,hb4,v',hg4⟩)
   go_roundw
   case rel=>exact⟨k+1,v',by omega,by go_num,hg4,(HBO.out _).trans hb4⟩
   case measure=>simp[intOf];omega
  ·have HG9:Hid (Gm wr w.heap.size W3.heap.size v w.heap.size (w.heap.size+1) (w.heap.size+1+1) A5 (K6 qf)):=by
    have:=HG.out;rw[show k=9 from by omega]at this;exact this
   have hlt9:decide ((k:Int)<9)=false:=by simp;omega
   clear HG;go_wp2_with fail
   go_loopw [27] (fun i wx=>∃(k:Nat) (v:Value),k≤n∧i= .int .i64 k∧Hid (Gm wx w.heap.size W3.heap.size v w.heap.size (w.heap.size+1) (w.heap.size+1+1) (A5++fs.take k) (K6 qf))∧Hid (Below w.heap.size w wx)) (fun i _=>n-(intOf i).toNat)
   case atStart=>exact⟨0,v,by omega,rfl,by rw[List.take_zero,List.append_nil];exact HG9,HL⟩
   case round=>
    clear HG9 HL;obtain⟨k,v,hk,rfl,HG,HL⟩:=hrel;by_cases hlt2:k<n
    ·have hkl:k<fs.length:=by rw[←HN.out];exact hlt2
     have hBw:=HL.out.size;obtain⟨lp,hlp,-,f0,f1,f2,f3⟩:=a2W (a1h hR.out HL.out hl) (k:=k) (by simpa using hlt2);subst hlp;simp only[List.getElem_range]at f0 f1 f2 f3
     have HADD:Hid (∀ob,Calls Tryz.prog 157 #[.pointer (some ⟨W3.heap.size,0,none⟩), .agg (F8 (cl fs k) (qf k)).toArray] (wr.alloc ob) fun e w'=>e= .returned (.tuple #[])∧Below w.heap.size (wr.alloc ob) w'∧∃v',Gm w' w.heap.size W3.heap.size v' w.heap.size (w.heap.size+1) (w.heap.size+1+1) (A5++fs.take (k+1)) (K6 qf)):=fun ob=>by
      have hl9:=a0Q (Nat.le_of_lt hkl);have htk:fs.take (k+1)=fs.take k++ [cl fs k]:=by rw[List.take_succ_eq_append_getElem hkl,U3 hkl]
      rw[htk,←List.append_assoc];have hbl:=HL.out.alloc hBw ob;refine b0I (wr.alloc ob) w.heap.size W3.heap.size v _ _ _ _ _ lim (Am.keep HG.out (A2 _ _ _)) (by simp;omega) hl (cl fs k) (qf k) (by rw[hl9,K6,if_neg (by omega),Nat.add_sub_cancel_left]) (a1h (hG.out.fields k hkl) hbl hl) (PM.below (hG.out.meths.at hkl) hbl hl) (hO.out _ (by rw[U3 hkl];exact List.getElem_mem hkl)) (by rw[hl9];omega) ?_;intro c hc;rcases List.mem_append.1 hc with hc|hc
      ·have:=a5C 9 c;exact this hc
      ·exact hO.out c (List.mem_of_mem_take hc)
     obtain⟨ci,hci⟩:∃ci,ci=cl fs k:=⟨_,rfl⟩
     rw[←hci]at f0 f1 f2 f3 HADD;have HBO:=A0 (fun ob=>HL.out.alloc hBw ob);clear HG hci;go_wp2_with (go_at_call 157;refine(HADD.out _).mono ?_;rintro e w4 ⟨rfl,hb4,v',hg4⟩)
     go_roundw
     case rel=>exact⟨k+1,v',by omega,by go_num,hg4,(HBO.out _).trans hb4⟩
     case measure=>simp[intOf];omega
    ·have hkn:k=n:=by omega
     have HGn:Hid (Gm wr w.heap.size W3.heap.size v w.heap.size (w.heap.size+1) (w.heap.size+1+1) (A5++fs) (K6 qf)):=by
      have:=HG.out;rw[hkn,HN.out,List.take_length]at this;exact this
     go_wp2_with fail
     go_ret;exact⟨W3.heap.size,v,_,_,_,rfl,HL.out,HGn.out⟩
end Kx
namespace Cf
theorem b5e(fs:List Cl)(hok:∀c∈fs,a0I c)(htw:∀i,i<fs.length→twR fs i=false)(hns:∀i,i<fs.length→(!E2 (A5++fs) (cl fs i).super)=false)
 (hlo:∀i,i<fs.length→((up (A5++fs) (cl fs i).super).any fun k=>decide ((cl (A5++fs) k).name=(cl fs i).name))=false):C2 (A5++fs):=by
 have hb:A5.length=9:=rfl;have hcl:∀i,i<fs.length→a0I (cl fs i):=fun i hi=>by rw[U3 hi];exact hok _ (List.getElem_mem hi)
 have hnm:∀c:ByteArray,F4 c=true→c≠C3:=fun c hc e=>by subst e;revert hc;decide
 have hfile:∀k,k<(A5++fs).length→k<9∨∃i,i<fs.length∧k=9+i:=fun k hk=>by
  by_cases h9:k<9
  ·exact .inl h9
  ·exact .inr ⟨k-9,by simp at hk;omega,by omega⟩
 have hname:∀i,i<(A5++fs).length→(cl (A5++fs) i).name≠C3:=by
  intro i hi;rcases hfile i hi with h9|⟨j,hj,rfl⟩
  ·rw[L9 (by omega)];rcases a0Y h9 with rfl|rfl|rfl|rfl|rfl|rfl|rfl|rfl|rfl<;>decide
  ·rw[R4];exact hnm _ (hcl j hj).name
 have hdist:t9 (A5++fs):=by
  have hlt:∀i j,i<j→j<(A5++fs).length→(cl (A5++fs) i).name≠(cl (A5++fs) j).name:=by
   intro i j hij hj e;rcases hfile j hj with h9|⟨q,hq,rfl⟩
   ·rw[L9 (by omega),L9 (by omega)]at e
    exact absurd (a8k (fun c:Cl=>c.name) a7K a9M (i:=i) (j:=j) (by omega) (by omega) e) (by omega)
   ·have:=htw q hq;rw[←a6e fs q hq,hb]at this;simp only[twP,decide_eq_false_iff_not,ne_eq,Decidable.not_not]at this;exact(L4 this).2.2 i hij e
  intro i j hi hj e;rcases Nat.lt_trichotomy i j with h2|h2|h2
  ·exact absurd e (hlt i j h2 hj)
  ·exact h2
  ·exact absurd e.symm (hlt j i h2 hi)
 have hsup:∀i,i<(A5++fs).length→i≠0→∃k,C5 (A5++fs) (cl (A5++fs) i).super=some k:=by
  intro i hi h0;rcases hfile i hi with h9|⟨q,hq,rfl⟩
  ·rw[L9 (by omega)]
   have:∃k,C5 A5 (cl A5 i).super=some k:=by
    rcases a0Y h9 with rfl|rfl|rfl|rfl|rfl|rfl|rfl|rfl|rfl
    ·exact absurd rfl h0
    ·exact⟨0,by decide+kernel⟩
    all_goals exact⟨1,by decide+kernel⟩
   obtain⟨k,hk⟩:=this;exact⟨k,a2V hk⟩
  ·have:=hns q hq;rw[R4];simp only[E2,Bool.not_eq_false']at this;exact Option.isSome_iff_exists.1 this
 refine⟨⟨fs,rfl⟩,hdist,hname,hsup,?_⟩;intro i hi k hk e;subst e;rcases hfile k hi with h9|⟨q,hq,rfl⟩
 ·rw[L9 (by omega)]at hk
  have hE:∀m,D8 (A5++fs) m C3=[]:=fun m=>by
   cases m with
   |zero=>rfl
   |succ m=>
    simp only[D8];cases hf:C5 (A5++fs) C3 with
    |none=>rfl
    |some j=>exact absurd (L4 hf).2.1 (hname j (L4 hf).1)
  have hO:∀m,∀j∈D8 (A5++fs) m D4,j=0:=fun m j hj=>by
   cases m with
   |zero=>cases hj
   |succ m=>
    have hf:C5 (A5++fs) D4=some 0:=a2V (by decide+kernel);simp only[D8,hf]at hj;have hs:(cl (A5++fs) 0).super=C3:=by rw[L9 (by omega)];rfl
    rw[hs,hE]at hj;simpa using hj
  have hT:∀m,∀j∈D8 (A5++fs) m F9,j≤1:=fun m j hj=>by
   cases m with
   |zero=>cases hj
   |succ m=>
    have hf:C5 (A5++fs) F9=some 1:=a2V (by decide+kernel);simp only[D8,hf]at hj;have hs:(cl (A5++fs) 1).super=D4:=by rw[L9 (by omega)];rfl
    rw[hs]at hj;rcases List.mem_cons.1 hj with rfl|hj
    ·omega
    ·have:=hO m j hj;omega
  unfold up at hk;rcases a0Y h9 with rfl|rfl|rfl|rfl|rfl|rfl|rfl|rfl|rfl
  ·rw[show(cl A5 0).super=C3 from rfl,hE]at hk;cases hk
  ·have:=hO _ _ (show 1∈D8 (A5++fs) _ D4 from hk);omega
  all_goals(have:=hT _ _ (show _∈D8 (A5++fs) _ F9 from hk);omega)
 ·have:=hlo q hq;rw[List.any_eq_false]at this;rw[R4]at hk;exact this _ hk (by simp[R4])
end Cf
namespace Kx
variable {w w':World}
variable {B b m1 m2 m3 r:Nat}
variable {v:Value}
variable {L:List Cl}
variable {q:Nat→Qs}
theorem Gm.kls(h:Gm w B b v m1 m2 m3 L q)(hn:0<L.length)(hok:∀c∈L,q8 c)(hs:L.length≤65536):∃p cap,v= .slice (some p) L.length cap∧I9 w w.heap.size b L p cap m1 m2 m3 q:=by
 obtain⟨a,k,rfl⟩:=F1 h.own;obtain⟨g,cap,hv,-,hg⟩:=h.own.form hn;injection hv with hv _ hk
 subst hv;have hlt:∀{m n k:Nat} {D:DK} {R:Value→Option (DK×List MemPlace)},w.ownsMap (H:=Unit) Tryz.prog k R m n D→m<w.heap.size:=fun hm=>hm.lt
 have hz:∀i,i<L.length→(cl L i).name.size≤maxLen∧(cl L i).super.size≤maxLen:=fun i hi=>by
  have:=hok (cl L i) (by rw[U3 hi];exact List.getElem_mem hi);exact⟨this.1,this.2.1⟩
 refine⟨⟨g,0,none⟩,k,rfl,h.blk.lt,hg,h.o1.lt,h.o2.lt,h.o3.lt,h.blk.cell 0 _ rfl,h.blk.cell 1 _ rfl,h.blk.cell 2 _ rfl,h.blk.cell 3 _ rfl,fun i hi r u hu=> ?_,h.o1,h.o2,h.o3,hz,hs⟩;have hrd:=a0k (w:=w) (xs:=List.range L.length) (a4F L q) (by simpa using h.own);obtain⟨p,h1,-,h3⟩:=hrd i (by simpa using hi);injection h1 with h1
 subst h1;exact h3 r u (by simpa[K4]using hu)
def a4P(b:Nat):List Value:=[.int .i64 7, .func (.func 158) #[.pointer (some ⟨b,0,none⟩)] #[], .int .i64 8, .func (.func 159) #[.pointer (some ⟨b,0,none⟩)] #[], .int .i64 9, .func (.func 160) #[.pointer (some ⟨b,0,none⟩)] #[], .int .i64 10, .func (.func 161) #[.pointer (some ⟨b,0,none⟩)] #[], .int .i64 11, .func (.func 162) #[.pointer (some ⟨b,0,none⟩)] #[], .int .i64 12, .func (.func 163) #[.pointer (some ⟨b,0,none⟩)] #[]]
theorem b5q(w:World)(b:Nat):Calls Tryz.prog 101 #[.pointer (some ⟨b,0,none⟩)] w fun e w'=>e= .returned (.slice (some ⟨w.heap.size,0,none⟩) 6 6)∧w'=w.alloc (.cells (a4P b).toArray 221):=by
 go_enter Tryz.func101,Tryz.ntmps101;go_wp2
 go_ret;exact⟨rfl,rfl⟩
def P3(L:List Cl)(r i:Nat):Bool:=if r=0 then twP L i else if r=1 then nsP L i else if r=2 then loP L i else if r=3 then tyP L i else if r=4 then mbP L i else ovP L i
theorem q8.sized(h:∀c∈L,q8 c):l5 K5 L∧l5 G2 L:=⟨fun c hc=>⟨(h c hc).1,(h c hc).2.2.1⟩,fun c hc=>⟨(h c hc).1,(h c hc).2.2.2.1⟩⟩
def p8(fs:List Cl)(r:Nat):Except Er Unit:=V0 ((List.range' r (6-r)).map fun k i=>P3 (A5++fs) k (9+i)) fs.length (7+r)
theorem b8q(fs:List Cl):P7 fs=p8 fs 0:=by
 unfold P7 p8;simp[List.range',P3]
theorem a3x(fs:List Cl){i:Nat}(hk:r<6)(hi:i<fs.length)(h:P3 (A5++fs) r (9+i)=true)(hb:∀j,j<i→P3 (A5++fs) r (9+j)=false):p8 fs r= .error (7+r,i):=by
 unfold p8;rw[show 6-r=(5-r)+1 from by omega,List.range'_succ,List.map_cons,V0,a5e hi h hb]
theorem a3t(fs:List Cl)(hk:r<6)(h:∀j,j<fs.length→P3 (A5++fs) r (9+j)=false):p8 fs r=p8 fs (r+1):=by
 unfold p8;rw[show 6-r=(6-(r+1))+1 from by omega,List.range'_succ,List.map_cons,V0,a6A h];rfl
theorem b5P(fs:List Cl):p8 fs 6= .ok ():=rfl
theorem b5d(fs:List Cl)(hok:∀c∈fs,a0I c)(h:∀r,r<3→∀j,j<fs.length→P3 (A5++fs) r (9+j)=false):C2 (A5++fs):=by
 refine b5e fs hok (fun i hi=> ?_) (fun i hi=> ?_) (fun i hi=> ?_)
 ·have:=h 0 (by omega) i hi;rw[←a6e fs i hi];exact this
 ·have:=h 1 (by omega) i hi;simp only[P3,nsP]at this;rw[R4]at this;simpa using this
 ·have:=h 2 (by omega) i hi;simp only[P3,loP]at this;rw[R4]at this;simpa[up]using this
def rF(r:Nat):Nat:=[158,159,160,161,162,163].getD r 0
theorem b8D(w:World)(lim b:Nat)(L:List Cl)(p:Addr)(cap m1 m2 m3:Nat)(q:Nat→Qs)(h:I9 w lim b L p cap m1 m2 m3 q)(hl:lim≤w.heap.size)(hF:U0 w lim L q)(hP:O9 w lim L q)(hZ:SzL L)(hS:l5 K5 L∧l5 G2 L)(r:Nat)(hr:r<6)(hW:3≤r→C2 L)(i:Nat)(hi:9+i<L.length):
 Calls Tryz.prog (rF r) #[.pointer (some ⟨b,0,none⟩), .int .i64 (9+(i:Int))] w fun e w'=>e= .returned (.bool (P3 L r (9+i)))∧w.grownBy w' none:=by
 have e:(9+(i:Int))=((9+i:Nat):Int):=by omega
 rw[e];rcases(by omega:r=0∨r=1∨r=2∨r=3∨r=4∨r=5)with rfl|rfl|rfl|rfl|rfl|rfl
 ·exact b3E w lim b L p cap m1 m2 m3 q h (9+i) hi
 ·exact b2a w lim b L p cap m1 m2 m3 q h (9+i) hi
 ·exact b2O w lim b L p cap m1 m2 m3 q h hl (9+i) hi
 ·exact b2e w lim b L p cap m1 m2 m3 q h hl hF hP hZ (9+i) hi
 ·have hw:=hW (by omega);exact b2b w lim b L p cap m1 m2 m3 q h hl (fun n=>hw.up_eq n) hw.dist hS.1 hS.2 hF hP hZ (9+i) hi
 ·have hw:=hW (by omega);exact b1Z w lim b L p cap m1 m2 m3 q h hl (fun n=>hw.up_eq n) hw.dist hS.2 hZ hP (9+i) hi
def a1V(B:Nat)(fs:List Cl)(qf:Nat→Qs)(r:Except Er Unit)(e:Ending)(w':World):Prop:=match r with
 | .error er=>e= .returned (.tuple #[.agg #[.slice none 0 0, .map none, .map none, .map none], .int .i64 er.1, .int .i64 er.2])
 | .ok _=>∃b v m1 m2 m3,e= .returned (.tuple #[.agg #[v, .map (some m1), .map (some m2), .map (some m3)], .int .i64 0, .int .i64 0])∧Gm w' B b v m1 m2 m3 (A5++fs) (K6 qf)
theorem Am.far{n1 n2 n3 nr k:Nat}{D1 D2 D3:DK}{rows:List Value}(h:Am w B b v m1 m2 m3 n1 n2 n3 D1 D2 D3 nr rows)(hg:w.grownBy w' (some k))(hk:k<B):Am w' B b v m1 m2 m3 n1 n2 n3 D1 D2 D3 nr rows:=by
 have hl:=h.low;exact⟨h.blk.keep hg (by simp;omega),h.own.kept hg (.inr (E9 h.own hk)),h.o1.kept hg (by simp;omega),h.o2.kept hg (by simp;omega),h.o3.kept hg (by simp;omega),h.d12,h.d13,h.d23,h.low⟩
theorem Gm.keep(h:Gm w B b v m1 m2 m3 L q)(hg:w.grownBy w' none):Gm w' B b v m1 m2 m3 L q:=Am.keep h hg
set_option maxRecDepth 100000 in
set_option maxHeartbeats 4000000 in
theorem b0r(w:World)(lim:Nat)(hl:lim≤w.heap.size)(fs:List Cl)(qf:Nat→Qs)(a:Option Addr)(kk:Nat)(hG:Hid (U7 w lim fs qf))(hO:Hid (∀c∈fs,q8 c))(hOk:Hid (∀c∈fs,a0I c))(hZ:Hid (SzL (A5++fs)))(hR:Hid (C0 w lim 4 (K4 fs qf) a (List.range fs.length)))(hBin:Hid (Bin w)):
 Calls Tryz.prog 60 #[.slice a fs.length kk] w fun e w'=>w.grownBy w' none∧a1V (w.heap.size+1) fs qf (P7 fs) e w':=by
 obtain⟨n,hn⟩:∃n,n=fs.length:=⟨_,rfl⟩
 have HN:=A0 hn;have hn12:n≤12:=by rw[hn];exact hG.out.few
 rw[←hn]
 have HGA:Hid (∀ob,Calls Tryz.prog 100 #[.slice a n kk] (w.alloc ob) fun e w'=>∃b v m1 m2 m3,e= .returned (.pointer (some ⟨b,0,none⟩))∧Below (w.heap.size+1) (w.alloc ob) w'∧Gm w' (w.heap.size+1) b v m1 m2 m3 (A5++fs) (K6 qf)):=fun ob=>by
  have:=b4L (w.alloc ob) lim (by simp;omega) fs qf a kk (hG.out.keep (A2 _ _ _)) hO (hR.out.keep (A2 _ _ _)) (hBin.out.keep (A2 _ _ _));rw[←hn,World.size_alloc]at this;exact this
 clear hn;go_enter Tryz.func60,Tryz.ntmps60
 go_wp2_with (first
  |(go_at_call 100;refine(HGA.out _).mono ?_;rintro e w1 ⟨b,v,m1,m2,m3,rfl,hb1,hg1⟩)
  |(go_at_call 101;refine(b5q _ b).mono ?_;rintro e w2 ⟨rfl,rfl⟩))
 have hL9:(A5++fs).length=9+n:=by rw[List.length_append,←HN.out];rfl
 have hokL:∀c∈A5++fs,q8 c:=fun c hc=>(List.mem_append.1 hc).elim (a5C 9 c) (hO.out c)
 obtain⟨p,cap,rfl,hK⟩:=hg1.kls (by omega) hokL (by omega);have hgw:=t6 (((Below.refl _ w).alloc (Nat.le_refl _) _).trans (hb1.mono (Nat.le_succ _)));have hrs:A3 w1 w.heap.size #[.slice none 0 0, .map none, .map none, .map none] 151:=(hb1.block w.heap.size (by omega)).trans (A3.new w _ _);have hGw:=hG.out.keep hgw;have htl:fs.take fs.length=fs:=List.take_length;have hpf:U0 w1 w1.heap.size (A5++fs) (K6 qf):=by have:=hGw.partF (Nat.le_refl fs.length);rw[htl]at this;exact this.upto (Nat.le_trans hl hgw.size)
 have hpm:O9 w1 w1.heap.size (A5++fs) (K6 qf):=by have:=hGw.partM (Nat.le_refl fs.length);rw[htl]at this;exact this.upto (Nat.le_trans hl hgw.size)
 have HBK:Hid (∀W r i,w1.grownBy W none→r<6→(3≤r→C2 (A5++fs))→i<n→Calls Tryz.prog (rF r) #[.pointer (some ⟨b,0,none⟩), .int .i64 (9+(i:Int))] W fun e w'=>e= .returned (.bool (P3 (A5++fs) r (9+i)))∧W.grownBy w' none):=fun W r i hg hr hw hi=>
  b8D W w1.heap.size b _ p cap m1 m2 m3 _ (hK.keep hg (Nat.le_refl _)) hg.size (fun i hi=>(hpf i hi).keep hg) (hpm.keep hg) hZ.out (q8.sized hokL) r hr hw i (by omega)
 have HGm:=A0 hg1;have HGW:=A0 hgw;have HRS:=A0 hrs;have HRB:Hid (A3 (w1.alloc (.cells (a4P b).toArray 221)) w1.heap.size (a4P b).toArray 221):=A3.new w1 _ _;have HLA:=A0 (b8q fs);have HW1:Hid (w1.grownBy (w1.alloc (.cells (a4P b).toArray 221)) none):=A2 _ _ _;clear hb1 hg1 hK hgw hrs hGw htl hpf hpm hokL HGA;generalize hW2:w1.alloc (.cells (a4P b).toArray 221)=W2 at HRB HW1⊢;clear hW2;go_loopw [14] (fun i wr=>∃r:Nat,r≤6∧i= .int .i64 r∧Hid (P7 fs=p8 fs r)∧Hid (∀k,k<r→∀j,j<fs.length→P3 (A5++fs) k (9+j)=false)∧Hid (W2.grownBy wr none)) (fun i _=>6-(intOf i).toNat)
 case atStart=>exact⟨0,by omega,rfl,HLA,fun k hk=>by omega,G1 _ _⟩
 case round=>
  obtain⟨r,hr,rfl,hla,hno,hg2⟩:=hrel;have hbr:=HRB.out.keep hg2.out (by simp);by_cases hlt:r<6
  ·have HWL:Hid (3≤r→C2 (A5++fs)):=fun h3=>b5d fs hOk.out (fun k hk=>hno.out k (by omega))
   have HCL:=A0 (fun W i hg hi=>HBK.out W r i hg hlt HWL.out hi);have HS6:Hid (decide ((r:Int)<6)=true):=by unfold Hid;simp;omega
   have hlt6:decide ((r:Int)<6)=true:=by simp;omega
   clear HS6;rcases(by omega:r=0∨r=1∨r=2∨r=3∨r=4∨r=5)with hrk|hrk|hrk|hrk|hrk|hrk
   ·have HCK:Hid (∀W i,w1.grownBy W none→i<n→Calls Tryz.prog 158 #[.pointer (some ⟨b,0,none⟩), .int .i64 (9+(i:Int))] W fun e w'=>e= .returned (.bool (P3 (A5++fs) r (9+i)))∧W.grownBy w' none):=by
     have:=HCL.out;rw[hrk]at this⊢;exact this
    have e0:wr.cell? ⟨w1.heap.size,r*2,none⟩=some (.int .i64 7):=by rw[hrk];exact hbr.cell (0*2) _ rfl
    have e1:wr.cell? ⟨w1.heap.size,r*2+1,none⟩=some (.func (.func 158) #[.pointer (some ⟨b,0,none⟩)] #[]):=by rw[hrk];exact hbr.cell (0*2+1) _ rfl
    have HEE:Hid ((7:Int)=((7+r:Nat):Int)):=by rw[hrk];rfl
    clear hbr HCL hrk;go_wp2_with fail
    have HBX:Hid (A3 (wr.alloc (.cells #[.int .i64 7, .func (.func 158) #[.pointer (some ⟨b,0,none⟩)] #[]] 221)) wr.heap.size #[.int .i64 7, .func (.func 158) #[.pointer (some ⟨b,0,none⟩)] #[]] 221):=A3.new wr _ _;have HGX0:Hid (W2.grownBy (wr.alloc (.cells #[.int .i64 7, .func (.func 158) #[.pointer (some ⟨b,0,none⟩)] #[]] 221)) none):=A1 hg2.out (A2 _ _ _);clear e0 e1;have hrb1:¬(wr.heap.size=w.heap.size):=by have:=HRS.out.lt;have:=HW1.out.size;have:=hg2.out.size;omega
    have hrb2:¬(w.heap.size=wr.heap.size):=fun e=>hrb1 e.symm
    go_loopw [20] (fun i wx=>∃j:Nat,j≤n∧i= .int .i64 j∧Hid (∀j',j'<j→P3 (A5++fs) r (9+j')=false)∧Hid (W2.grownBy wx none)∧Hid (A3 wx wr.heap.size #[.int .i64 7, .func (.func 158) #[.pointer (some ⟨b,0,none⟩)] #[]] 221)) (fun i _=>n-(intOf i).toNat)
    case atStart=>exact⟨0,by omega,rfl,fun j hj=>by omega,HGX0,HBX⟩
    case round=>
     clear HGX0 HBX;obtain⟨j,hj,rfl,hall,hgx,hbx⟩:=hrel;by_cases hlj:j<n
     ·have d1:=hbx.out.cell 1 _ rfl;obtain⟨bv,hbv⟩:∃bv,bv=P3 (A5++fs) r (9+j):=⟨_,rfl⟩
      have HBV:=A0 hbv.symm;clear hbv;cases bv with
      |true=>
       go_wp2_with (go_at_call 158;refine(HCK.out _ j (A1 HW1.out hgx.out) hlj).mono ?_;rintro e w5 ⟨rfl,hg5⟩;rw[HBV.out])
       have d0:=(hbx.out.keep hg5 (by simp)).cell 0 _ rfl;have HR5:=A0 (HRS.out.keep (A1 HW1.out (A1 hgx.out hg5)) (by simp));have r0:=HR5.out.cell 0 _ rfl;have r1:=HR5.out.cell 1 _ rfl;have r2:=HR5.out.cell 2 _ rfl;have r3:=HR5.out.cell 3 _ rfl;have z0:=HR5.out.frozen 0;have z1:=HR5.out.frozen 1;have z2:=HR5.out.frozen 2;have z3:=HR5.out.frozen 3;have hg5w:=A1 HGW.out (A1 HW1.out (A1 hgx.out hg5));go_region
       all_goals
        have hb6:=A3.keep (row:=none) ((((HR5.out.set 0 (.slice none 0 0)).set 1 (.map none)).set 2 (.map none)).set 3 (.map none)) (B8 _ none) (by simp);have hg6:=A1 (x8 (w:=w) hg5w (Nat.le_refl _) (i:=0) (j:=1) (k:=2) (l:=3) (x:= .slice none 0 0) (y:= .map none) (z:= .map none) (u:= .map none)) (B8 _ none);clear r0 r1 r2 r3 z0 z1 z2 z3 d0 d1;generalize ((((w5.setCell ⟨w.heap.size,0,none⟩ (.slice none 0 0)).setCell ⟨w.heap.size,1,none⟩ (.map none)).setCell ⟨w.heap.size,2,none⟩ (.map none)).setCell ⟨w.heap.size,3,none⟩ (.map none)).drew=W6 at hb6 hg6⊢;have q0:=hb6.c0;have q1:=hb6.c1;have q2:=hb6.c2;have q3:=hb6.c3;go_wp2_with fail
        refine bodyPost_ret (v:= .tuple #[.agg #[.slice none 0 0, .map none, .map none, .map none], .int .i64 7, .int .i64 j]) (by simp[results,Tryz.results60,go_sem,q0,q1,q2,q3]) rfl ⟨hg6,?_⟩;rw[hla.out,a3x fs hlt (by rw[←HN.out];exact hlj) HBV.out hall.out];unfold a1V;rw[HEE.out]
      |false=>
       go_wp2_with (go_at_call 158;refine(HCK.out _ j (A1 HW1.out hgx.out) hlj).mono ?_;rintro e w5 ⟨rfl,hg5⟩;rw[HBV.out])
       go_roundw
       case rel=>exact⟨j+1,by omega,by go_num,by
        intro j' hj';rcases Nat.lt_or_ge j' j with h1|h1
        ·exact hall.out j' h1
        ·obtain rfl:j'=j:=by omega
         exact HBV.out,A1 hgx.out hg5,hbx.out.keep hg5 (by simp)⟩
       case measure=>simp[intOf];omega
     ·have HNO:=A0 (fun j' (hj':j'<n)=>hall.out j' (by omega));have HLN:Hid (P7 fs=p8 fs (r+1)):=by unfold Hid;rw[hla.out,a3t fs hlt (fun j' hj'=>HNO.out j' (by rw[HN.out];exact hj'))]
      go_wp2_with fail
      exact⟨⟨r+1,by omega,by go_num,HLN,by
       intro k hk j' hj';rcases Nat.lt_or_ge k r with h1|h1
       ·exact hno.out k h1 j' hj'
       ·obtain rfl:k=r:=by omega
        exact HNO.out j' (by rw[HN.out];exact hj'),hgx⟩,by simp[intOf];omega⟩
   ·have HCK:Hid (∀W i,w1.grownBy W none→i<n→Calls Tryz.prog 159 #[.pointer (some ⟨b,0,none⟩), .int .i64 (9+(i:Int))] W fun e w'=>e= .returned (.bool (P3 (A5++fs) r (9+i)))∧W.grownBy w' none):=by
     have:=HCL.out;rw[hrk]at this⊢;exact this
    have e0:wr.cell? ⟨w1.heap.size,r*2,none⟩=some (.int .i64 8):=by rw[hrk];exact hbr.cell (1*2) _ rfl
    have e1:wr.cell? ⟨w1.heap.size,r*2+1,none⟩=some (.func (.func 159) #[.pointer (some ⟨b,0,none⟩)] #[]):=by rw[hrk];exact hbr.cell (1*2+1) _ rfl
    have HEE:Hid ((8:Int)=((7+r:Nat):Int)):=by rw[hrk];rfl
    clear hbr HCL hrk;go_wp2_with fail
    have HBX:Hid (A3 (wr.alloc (.cells #[.int .i64 8, .func (.func 159) #[.pointer (some ⟨b,0,none⟩)] #[]] 221)) wr.heap.size #[.int .i64 8, .func (.func 159) #[.pointer (some ⟨b,0,none⟩)] #[]] 221):=A3.new wr _ _;have HGX0:Hid (W2.grownBy (wr.alloc (.cells #[.int .i64 8, .func (.func 159) #[.pointer (some ⟨b,0,none⟩)] #[]] 221)) none):=A1 hg2.out (A2 _ _ _);clear e0 e1;have hrb1:¬(wr.heap.size=w.heap.size):=by have:=HRS.out.lt;have:=HW1.out.size;have:=hg2.out.size;omega
    have hrb2:¬(w.heap.size=wr.heap.size):=fun e=>hrb1 e.symm
    go_loopw [20] (fun i wx=>∃j:Nat,j≤n∧i= .int .i64 j∧Hid (∀j',j'<j→P3 (A5++fs) r (9+j')=false)∧Hid (W2.grownBy wx none)∧Hid (A3 wx wr.heap.size #[.int .i64 8, .func (.func 159) #[.pointer (some ⟨b,0,none⟩)] #[]] 221)) (fun i _=>n-(intOf i).toNat)
    case atStart=>exact⟨0,by omega,rfl,fun j hj=>by omega,HGX0,HBX⟩
    case round=>
     clear HGX0 HBX;obtain⟨j,hj,rfl,hall,hgx,hbx⟩:=hrel;by_cases hlj:j<n
     ·have d1:=hbx.out.cell 1 _ rfl;obtain⟨bv,hbv⟩:∃bv,bv=P3 (A5++fs) r (9+j):=⟨_,rfl⟩
      have HBV:=A0 hbv.symm;clear hbv;cases bv with
      |true=>
       go_wp2_with (go_at_call 159;refine(HCK.out _ j (A1 HW1.out hgx.out) hlj).mono ?_;rintro e w5 ⟨rfl,hg5⟩;rw[HBV.out])
       have d0:=(hbx.out.keep hg5 (by simp)).cell 0 _ rfl;have HR5:=A0 (HRS.out.keep (A1 HW1.out (A1 hgx.out hg5)) (by simp));have r0:=HR5.out.cell 0 _ rfl;have r1:=HR5.out.cell 1 _ rfl;have r2:=HR5.out.cell 2 _ rfl;have r3:=HR5.out.cell 3 _ rfl;have z0:=HR5.out.frozen 0;have z1:=HR5.out.frozen 1;have z2:=HR5.out.frozen 2;have z3:=HR5.out.frozen 3;have hg5w:=A1 HGW.out (A1 HW1.out (A1 hgx.out hg5));go_region
       all_goals
        have hb6:=A3.keep (row:=none) ((((HR5.out.set 0 (.slice none 0 0)).set 1 (.map none)).set 2 (.map none)).set 3 (.map none)) (B8 _ none) (by simp);have hg6:=A1 (x8 (w:=w) hg5w (Nat.le_refl _) (i:=0) (j:=1) (k:=2) (l:=3) (x:= .slice none 0 0) (y:= .map none) (z:= .map none) (u:= .map none)) (B8 _ none);clear r0 r1 r2 r3 z0 z1 z2 z3 d0 d1;generalize ((((w5.setCell ⟨w.heap.size,0,none⟩ (.slice none 0 0)).setCell ⟨w.heap.size,1,none⟩ (.map none)).setCell ⟨w.heap.size,2,none⟩ (.map none)).setCell ⟨w.heap.size,3,none⟩ (.map none)).drew=W6 at hb6 hg6⊢;have q0:=hb6.c0;have q1:=hb6.c1;have q2:=hb6.c2;have q3:=hb6.c3;go_wp2_with fail
        refine bodyPost_ret (v:= .tuple #[.agg #[.slice none 0 0, .map none, .map none, .map none], .int .i64 8, .int .i64 j]) (by simp[results,Tryz.results60,go_sem,q0,q1,q2,q3]) rfl ⟨hg6,?_⟩;rw[hla.out,a3x fs hlt (by rw[←HN.out];exact hlj) HBV.out hall.out];unfold a1V;rw[HEE.out]
      |false=>
       go_wp2_with (go_at_call 159;refine(HCK.out _ j (A1 HW1.out hgx.out) hlj).mono ?_;rintro e w5 ⟨rfl,hg5⟩;rw[HBV.out])
       go_roundw
       case rel=>exact⟨j+1,by omega,by go_num,by
        intro j' hj';rcases Nat.lt_or_ge j' j with h1|h1
        ·exact hall.out j' h1
        ·obtain rfl:j'=j:=by omega
         exact HBV.out,A1 hgx.out hg5,hbx.out.keep hg5 (by simp)⟩
       case measure=>simp[intOf];omega
     ·have HNO:=A0 (fun j' (hj':j'<n)=>hall.out j' (by omega));have HLN:Hid (P7 fs=p8 fs (r+1)):=by unfold Hid;rw[hla.out,a3t fs hlt (fun j' hj'=>HNO.out j' (by rw[HN.out];exact hj'))]
      go_wp2_with fail
      exact⟨⟨r+1,by omega,by go_num,HLN,by
       intro k hk j' hj';rcases Nat.lt_or_ge k r with h1|h1
       ·exact hno.out k h1 j' hj'
       ·obtain rfl:k=r:=by omega
        exact HNO.out j' (by rw[HN.out];exact hj'),hgx⟩,by simp[intOf];omega⟩
   ·have HCK:Hid (∀W i,w1.grownBy W none→i<n→Calls Tryz.prog 160 #[.pointer (some ⟨b,0,none⟩), .int .i64 (9+(i:Int))] W fun e w'=>e= .returned (.bool (P3 (A5++fs) r (9+i)))∧W.grownBy w' none):=by
     have:=HCL.out;rw[hrk]at this⊢;exact this
    have e0:wr.cell? ⟨w1.heap.size,r*2,none⟩=some (.int .i64 9):=by rw[hrk];exact hbr.cell (2*2) _ rfl
    have e1:wr.cell? ⟨w1.heap.size,r*2+1,none⟩=some (.func (.func 160) #[.pointer (some ⟨b,0,none⟩)] #[]):=by rw[hrk];exact hbr.cell (2*2+1) _ rfl
    have HEE:Hid ((9:Int)=((7+r:Nat):Int)):=by rw[hrk];rfl
    clear hbr HCL hrk;go_wp2_with fail
    have HBX:Hid (A3 (wr.alloc (.cells #[.int .i64 9, .func (.func 160) #[.pointer (some ⟨b,0,none⟩)] #[]] 221)) wr.heap.size #[.int .i64 9, .func (.func 160) #[.pointer (some ⟨b,0,none⟩)] #[]] 221):=A3.new wr _ _;have HGX0:Hid (W2.grownBy (wr.alloc (.cells #[.int .i64 9, .func (.func 160) #[.pointer (some ⟨b,0,none⟩)] #[]] 221)) none):=A1 hg2.out (A2 _ _ _);clear e0 e1;have hrb1:¬(wr.heap.size=w.heap.size):=by have:=HRS.out.lt;have:=HW1.out.size;have:=hg2.out.size;omega
    have hrb2:¬(w.heap.size=wr.heap.size):=fun e=>hrb1 e.symm
    go_loopw [20] (fun i wx=>∃j:Nat,j≤n∧i= .int .i64 j∧Hid (∀j',j'<j→P3 (A5++fs) r (9+j')=false)∧Hid (W2.grownBy wx none)∧Hid (A3 wx wr.heap.size #[.int .i64 9, .func (.func 160) #[.pointer (some ⟨b,0,none⟩)] #[]] 221)) (fun i _=>n-(intOf i).toNat)
    case atStart=>exact⟨0,by omega,rfl,fun j hj=>by omega,HGX0,HBX⟩
    case round=>
     clear HGX0 HBX;obtain⟨j,hj,rfl,hall,hgx,hbx⟩:=hrel;by_cases hlj:j<n
     ·have d1:=hbx.out.cell 1 _ rfl;obtain⟨bv,hbv⟩:∃bv,bv=P3 (A5++fs) r (9+j):=⟨_,rfl⟩
      have HBV:=A0 hbv.symm;clear hbv;cases bv with
      |true=>
       go_wp2_with (go_at_call 160;refine(HCK.out _ j (A1 HW1.out hgx.out) hlj).mono ?_;rintro e w5 ⟨rfl,hg5⟩;rw[HBV.out])
       have d0:=(hbx.out.keep hg5 (by simp)).cell 0 _ rfl;have HR5:=A0 (HRS.out.keep (A1 HW1.out (A1 hgx.out hg5)) (by simp));have r0:=HR5.out.cell 0 _ rfl;have r1:=HR5.out.cell 1 _ rfl;have r2:=HR5.out.cell 2 _ rfl;have r3:=HR5.out.cell 3 _ rfl;have z0:=HR5.out.frozen 0;have z1:=HR5.out.frozen 1;have z2:=HR5.out.frozen 2;have z3:=HR5.out.frozen 3;have hg5w:=A1 HGW.out (A1 HW1.out (A1 hgx.out hg5));go_region
       all_goals
        have hb6:=A3.keep (row:=none) ((((HR5.out.set 0 (.slice none 0 0)).set 1 (.map none)).set 2 (.map none)).set 3 (.map none)) (B8 _ none) (by simp);have hg6:=A1 (x8 (w:=w) hg5w (Nat.le_refl _) (i:=0) (j:=1) (k:=2) (l:=3) (x:= .slice none 0 0) (y:= .map none) (z:= .map none) (u:= .map none)) (B8 _ none);clear r0 r1 r2 r3 z0 z1 z2 z3 d0 d1;generalize ((((w5.setCell ⟨w.heap.size,0,none⟩ (.slice none 0 0)).setCell ⟨w.heap.size,1,none⟩ (.map none)).setCell ⟨w.heap.size,2,none⟩ (.map none)).setCell ⟨w.heap.size,3,none⟩ (.map none)).drew=W6 at hb6 hg6⊢;have q0:=hb6.c0;have q1:=hb6.c1;have q2:=hb6.c2;have q3:=hb6.c3;go_wp2_with fail
        refine bodyPost_ret (v:= .tuple #[.agg #[.slice none 0 0, .map none, .map none, .map none], .int .i64 9, .int .i64 j]) (by simp[results,Tryz.results60,go_sem,q0,q1,q2,q3]) rfl ⟨hg6,?_⟩;rw[hla.out,a3x fs hlt (by rw[←HN.out];exact hlj) HBV.out hall.out];unfold a1V;rw[HEE.out]
      |false=>
       go_wp2_with (go_at_call 160;refine(HCK.out _ j (A1 HW1.out hgx.out) hlj).mono ?_;rintro e w5 ⟨rfl,hg5⟩;rw[HBV.out])
       go_roundw
       case rel=>exact⟨j+1,by omega,by go_num,by
        intro j' hj';rcases Nat.lt_or_ge j' j with h1|h1
        ·exact hall.out j' h1
        ·obtain rfl:j'=j:=by omega
         exact HBV.out,A1 hgx.out hg5,hbx.out.keep hg5 (by simp)⟩
       case measure=>simp[intOf];omega
     ·have HNO:=A0 (fun j' (hj':j'<n)=>hall.out j' (by omega));have HLN:Hid (P7 fs=p8 fs (r+1)):=by unfold Hid;rw[hla.out,a3t fs hlt (fun j' hj'=>HNO.out j' (by rw[HN.out];exact hj'))]
      go_wp2_with fail
      exact⟨⟨r+1,by omega,by go_num,HLN,by
       intro k hk j' hj';rcases Nat.lt_or_ge k r with h1|h1
       ·exact hno.out k h1 j' hj'
       ·obtain rfl:k=r:=by omega
        exact HNO.out j' (by rw[HN.out];exact hj'),hgx⟩,by simp[intOf];omega⟩
   ·have HCK:Hid (∀W i,w1.grownBy W none→i<n→Calls Tryz.prog 161 #[.pointer (some ⟨b,0,none⟩), .int .i64 (9+(i:Int))] W fun e w'=>e= .returned (.bool (P3 (A5++fs) r (9+i)))∧W.grownBy w' none):=by
     have:=HCL.out;rw[hrk]at this⊢;exact this
    have e0:wr.cell? ⟨w1.heap.size,r*2,none⟩=some (.int .i64 10):=by rw[hrk];exact hbr.cell (3*2) _ rfl
    have e1:wr.cell? ⟨w1.heap.size,r*2+1,none⟩=some (.func (.func 161) #[.pointer (some ⟨b,0,none⟩)] #[]):=by rw[hrk];exact hbr.cell (3*2+1) _ rfl
    have HEE:Hid ((10:Int)=((7+r:Nat):Int)):=by rw[hrk];rfl
    clear hbr HCL hrk;go_wp2_with fail
    have HBX:Hid (A3 (wr.alloc (.cells #[.int .i64 10, .func (.func 161) #[.pointer (some ⟨b,0,none⟩)] #[]] 221)) wr.heap.size #[.int .i64 10, .func (.func 161) #[.pointer (some ⟨b,0,none⟩)] #[]] 221):=A3.new wr _ _;have HGX0:Hid (W2.grownBy (wr.alloc (.cells #[.int .i64 10, .func (.func 161) #[.pointer (some ⟨b,0,none⟩)] #[]] 221)) none):=A1 hg2.out (A2 _ _ _);clear e0 e1;have hrb1:¬(wr.heap.size=w.heap.size):=by have:=HRS.out.lt;have:=HW1.out.size;have:=hg2.out.size;omega
    have hrb2:¬(w.heap.size=wr.heap.size):=fun e=>hrb1 e.symm
    go_loopw [20] (fun i wx=>∃j:Nat,j≤n∧i= .int .i64 j∧Hid (∀j',j'<j→P3 (A5++fs) r (9+j')=false)∧Hid (W2.grownBy wx none)∧Hid (A3 wx wr.heap.size #[.int .i64 10, .func (.func 161) #[.pointer (some ⟨b,0,none⟩)] #[]] 221)) (fun i _=>n-(intOf i).toNat)
    case atStart=>exact⟨0,by omega,rfl,fun j hj=>by omega,HGX0,HBX⟩
    case round=>
     clear HGX0 HBX;obtain⟨j,hj,rfl,hall,hgx,hbx⟩:=hrel;by_cases hlj:j<n
     ·have d1:=hbx.out.cell 1 _ rfl;obtain⟨bv,hbv⟩:∃bv,bv=P3 (A5++fs) r (9+j):=⟨_,rfl⟩
      have HBV:=A0 hbv.symm;clear hbv;cases bv with
      |true=>
       go_wp2_with (go_at_call 161;refine(HCK.out _ j (A1 HW1.out hgx.out) hlj).mono ?_;rintro e w5 ⟨rfl,hg5⟩;rw[HBV.out])
       have d0:=(hbx.out.keep hg5 (by simp)).cell 0 _ rfl;have HR5:=A0 (HRS.out.keep (A1 HW1.out (A1 hgx.out hg5)) (by simp));have r0:=HR5.out.cell 0 _ rfl;have r1:=HR5.out.cell 1 _ rfl;have r2:=HR5.out.cell 2 _ rfl;have r3:=HR5.out.cell 3 _ rfl;have z0:=HR5.out.frozen 0;have z1:=HR5.out.frozen 1;have z2:=HR5.out.frozen 2;have z3:=HR5.out.frozen 3;have hg5w:=A1 HGW.out (A1 HW1.out (A1 hgx.out hg5));go_region
       all_goals
        have hb6:=A3.keep (row:=none) ((((HR5.out.set 0 (.slice none 0 0)).set 1 (.map none)).set 2 (.map none)).set 3 (.map none)) (B8 _ none) (by simp);have hg6:=A1 (x8 (w:=w) hg5w (Nat.le_refl _) (i:=0) (j:=1) (k:=2) (l:=3) (x:= .slice none 0 0) (y:= .map none) (z:= .map none) (u:= .map none)) (B8 _ none);clear r0 r1 r2 r3 z0 z1 z2 z3 d0 d1;generalize ((((w5.setCell ⟨w.heap.size,0,none⟩ (.slice none 0 0)).setCell ⟨w.heap.size,1,none⟩ (.map none)).setCell ⟨w.heap.size,2,none⟩ (.map none)).setCell ⟨w.heap.size,3,none⟩ (.map none)).drew=W6 at hb6 hg6⊢;have q0:=hb6.c0;have q1:=hb6.c1;have q2:=hb6.c2;have q3:=hb6.c3;go_wp2_with fail
        refine bodyPost_ret (v:= .tuple #[.agg #[.slice none 0 0, .map none, .map none, .map none], .int .i64 10, .int .i64 j]) (by simp[results,Tryz.results60,go_sem,q0,q1,q2,q3]) rfl ⟨hg6,?_⟩;rw[hla.out,a3x fs hlt (by rw[←HN.out];exact hlj) HBV.out hall.out];unfold a1V;rw[HEE.out]
      |false=>
       go_wp2_with (go_at_call 161;refine(HCK.out _ j (A1 HW1.out hgx.out) hlj).mono ?_;rintro e w5 ⟨rfl,hg5⟩;rw[HBV.out])
       go_roundw
       case rel=>exact⟨j+1,by omega,by go_num,by
        intro j' hj';rcases Nat.lt_or_ge j' j with h1|h1
        ·exact hall.out j' h1
        ·obtain rfl:j'=j:=by omega
         exact HBV.out,A1 hgx.out hg5,hbx.out.keep hg5 (by simp)⟩
       case measure=>simp[intOf];omega
     ·have HNO:=A0 (fun j' (hj':j'<n)=>hall.out j' (by omega));have HLN:Hid (P7 fs=p8 fs (r+1)):=by unfold Hid;rw[hla.out,a3t fs hlt (fun j' hj'=>HNO.out j' (by rw[HN.out];exact hj'))]
      go_wp2_with fail
      exact⟨⟨r+1,by omega,by go_num,HLN,by
       intro k hk j' hj';rcases Nat.lt_or_ge k r with h1|h1
       ·exact hno.out k h1 j' hj'
       ·obtain rfl:k=r:=by omega
        exact HNO.out j' (by rw[HN.out];exact hj'),hgx⟩,by simp[intOf];omega⟩
   ·have HCK:Hid (∀W i,w1.grownBy W none→i<n→Calls Tryz.prog 162 #[.pointer (some ⟨b,0,none⟩), .int .i64 (9+(i:Int))] W fun e w'=>e= .returned (.bool (P3 (A5++fs) r (9+i)))∧W.grownBy w' none):=by
     have:=HCL.out;rw[hrk]at this⊢;exact this
    have e0:wr.cell? ⟨w1.heap.size,r*2,none⟩=some (.int .i64 11):=by rw[hrk];exact hbr.cell (4*2) _ rfl
    have e1:wr.cell? ⟨w1.heap.size,r*2+1,none⟩=some (.func (.func 162) #[.pointer (some ⟨b,0,none⟩)] #[]):=by rw[hrk];exact hbr.cell (4*2+1) _ rfl
    have HEE:Hid ((11:Int)=((7+r:Nat):Int)):=by rw[hrk];rfl
    clear hbr HCL hrk;go_wp2_with fail
    have HBX:Hid (A3 (wr.alloc (.cells #[.int .i64 11, .func (.func 162) #[.pointer (some ⟨b,0,none⟩)] #[]] 221)) wr.heap.size #[.int .i64 11, .func (.func 162) #[.pointer (some ⟨b,0,none⟩)] #[]] 221):=A3.new wr _ _;have HGX0:Hid (W2.grownBy (wr.alloc (.cells #[.int .i64 11, .func (.func 162) #[.pointer (some ⟨b,0,none⟩)] #[]] 221)) none):=A1 hg2.out (A2 _ _ _);clear e0 e1;have hrb1:¬(wr.heap.size=w.heap.size):=by have:=HRS.out.lt;have:=HW1.out.size;have:=hg2.out.size;omega
    have hrb2:¬(w.heap.size=wr.heap.size):=fun e=>hrb1 e.symm
    go_loopw [20] (fun i wx=>∃j:Nat,j≤n∧i= .int .i64 j∧Hid (∀j',j'<j→P3 (A5++fs) r (9+j')=false)∧Hid (W2.grownBy wx none)∧Hid (A3 wx wr.heap.size #[.int .i64 11, .func (.func 162) #[.pointer (some ⟨b,0,none⟩)] #[]] 221)) (fun i _=>n-(intOf i).toNat)
    case atStart=>exact⟨0,by omega,rfl,fun j hj=>by omega,HGX0,HBX⟩
    case round=>
     clear HGX0 HBX;obtain⟨j,hj,rfl,hall,hgx,hbx⟩:=hrel;by_cases hlj:j<n
     ·have d1:=hbx.out.cell 1 _ rfl;obtain⟨bv,hbv⟩:∃bv,bv=P3 (A5++fs) r (9+j):=⟨_,rfl⟩
      have HBV:=A0 hbv.symm;clear hbv;cases bv with
      |true=>
       go_wp2_with (go_at_call 162;refine(HCK.out _ j (A1 HW1.out hgx.out) hlj).mono ?_;rintro e w5 ⟨rfl,hg5⟩;rw[HBV.out])
       have d0:=(hbx.out.keep hg5 (by simp)).cell 0 _ rfl;have HR5:=A0 (HRS.out.keep (A1 HW1.out (A1 hgx.out hg5)) (by simp));have r0:=HR5.out.cell 0 _ rfl;have r1:=HR5.out.cell 1 _ rfl;have r2:=HR5.out.cell 2 _ rfl;have r3:=HR5.out.cell 3 _ rfl;have z0:=HR5.out.frozen 0;have z1:=HR5.out.frozen 1;have z2:=HR5.out.frozen 2;have z3:=HR5.out.frozen 3;have hg5w:=A1 HGW.out (A1 HW1.out (A1 hgx.out hg5));go_region
       all_goals
        have hb6:=A3.keep (row:=none) ((((HR5.out.set 0 (.slice none 0 0)).set 1 (.map none)).set 2 (.map none)).set 3 (.map none)) (B8 _ none) (by simp);have hg6:=A1 (x8 (w:=w) hg5w (Nat.le_refl _) (i:=0) (j:=1) (k:=2) (l:=3) (x:= .slice none 0 0) (y:= .map none) (z:= .map none) (u:= .map none)) (B8 _ none);clear r0 r1 r2 r3 z0 z1 z2 z3 d0 d1;generalize ((((w5.setCell ⟨w.heap.size,0,none⟩ (.slice none 0 0)).setCell ⟨w.heap.size,1,none⟩ (.map none)).setCell ⟨w.heap.size,2,none⟩ (.map none)).setCell ⟨w.heap.size,3,none⟩ (.map none)).drew=W6 at hb6 hg6⊢;have q0:=hb6.c0;have q1:=hb6.c1;have q2:=hb6.c2;have q3:=hb6.c3;go_wp2_with fail
        refine bodyPost_ret (v:= .tuple #[.agg #[.slice none 0 0, .map none, .map none, .map none], .int .i64 11, .int .i64 j]) (by simp[results,Tryz.results60,go_sem,q0,q1,q2,q3]) rfl ⟨hg6,?_⟩;rw[hla.out,a3x fs hlt (by rw[←HN.out];exact hlj) HBV.out hall.out];unfold a1V;rw[HEE.out]
      |false=>
       go_wp2_with (go_at_call 162;refine(HCK.out _ j (A1 HW1.out hgx.out) hlj).mono ?_;rintro e w5 ⟨rfl,hg5⟩;rw[HBV.out])
       go_roundw
       case rel=>exact⟨j+1,by omega,by go_num,by
        intro j' hj';rcases Nat.lt_or_ge j' j with h1|h1
        ·exact hall.out j' h1
        ·obtain rfl:j'=j:=by omega
         exact HBV.out,A1 hgx.out hg5,hbx.out.keep hg5 (by simp)⟩
       case measure=>simp[intOf];omega
     ·have HNO:=A0 (fun j' (hj':j'<n)=>hall.out j' (by omega));have HLN:Hid (P7 fs=p8 fs (r+1)):=by unfold Hid;rw[hla.out,a3t fs hlt (fun j' hj'=>HNO.out j' (by rw[HN.out];exact hj'))]
      go_wp2_with fail
      exact⟨⟨r+1,by omega,by go_num,HLN,by
       intro k hk j' hj';rcases Nat.lt_or_ge k r with h1|h1
       ·exact hno.out k h1 j' hj'
       ·obtain rfl:k=r:=by omega
        exact HNO.out j' (by rw[HN.out];exact hj'),hgx⟩,by simp[intOf];omega⟩
   ·have HCK:Hid (∀W i,w1.grownBy W none→i<n→Calls Tryz.prog 163 #[.pointer (some ⟨b,0,none⟩), .int .i64 (9+(i:Int))] W fun e w'=>e= .returned (.bool (P3 (A5++fs) r (9+i)))∧W.grownBy w' none):=by
     have:=HCL.out;rw[hrk]at this⊢;exact this
    have e0:wr.cell? ⟨w1.heap.size,r*2,none⟩=some (.int .i64 12):=by rw[hrk];exact hbr.cell (5*2) _ rfl
    have e1:wr.cell? ⟨w1.heap.size,r*2+1,none⟩=some (.func (.func 163) #[.pointer (some ⟨b,0,none⟩)] #[]):=by rw[hrk];exact hbr.cell (5*2+1) _ rfl
    have HEE:Hid ((12:Int)=((7+r:Nat):Int)):=by rw[hrk];rfl
    clear hbr HCL hrk;go_wp2_with fail
    have HBX:Hid (A3 (wr.alloc (.cells #[.int .i64 12, .func (.func 163) #[.pointer (some ⟨b,0,none⟩)] #[]] 221)) wr.heap.size #[.int .i64 12, .func (.func 163) #[.pointer (some ⟨b,0,none⟩)] #[]] 221):=A3.new wr _ _;have HGX0:Hid (W2.grownBy (wr.alloc (.cells #[.int .i64 12, .func (.func 163) #[.pointer (some ⟨b,0,none⟩)] #[]] 221)) none):=A1 hg2.out (A2 _ _ _);clear e0 e1;have hrb1:¬(wr.heap.size=w.heap.size):=by have:=HRS.out.lt;have:=HW1.out.size;have:=hg2.out.size;omega
    have hrb2:¬(w.heap.size=wr.heap.size):=fun e=>hrb1 e.symm
    go_loopw [20] (fun i wx=>∃j:Nat,j≤n∧i= .int .i64 j∧Hid (∀j',j'<j→P3 (A5++fs) r (9+j')=false)∧Hid (W2.grownBy wx none)∧Hid (A3 wx wr.heap.size #[.int .i64 12, .func (.func 163) #[.pointer (some ⟨b,0,none⟩)] #[]] 221)) (fun i _=>n-(intOf i).toNat)
    case atStart=>exact⟨0,by omega,rfl,fun j hj=>by omega,HGX0,HBX⟩
    case round=>
     clear HGX0 HBX;obtain⟨j,hj,rfl,hall,hgx,hbx⟩:=hrel;by_cases hlj:j<n
     ·have d1:=hbx.out.cell 1 _ rfl;obtain⟨bv,hbv⟩:∃bv,bv=P3 (A5++fs) r (9+j):=⟨_,rfl⟩
      have HBV:=A0 hbv.symm;clear hbv;cases bv with
      |true=>
       go_wp2_with (go_at_call 163;refine(HCK.out _ j (A1 HW1.out hgx.out) hlj).mono ?_;rintro e w5 ⟨rfl,hg5⟩;rw[HBV.out])
       have d0:=(hbx.out.keep hg5 (by simp)).cell 0 _ rfl;have HR5:=A0 (HRS.out.keep (A1 HW1.out (A1 hgx.out hg5)) (by simp));have r0:=HR5.out.cell 0 _ rfl;have r1:=HR5.out.cell 1 _ rfl;have r2:=HR5.out.cell 2 _ rfl;have r3:=HR5.out.cell 3 _ rfl;have z0:=HR5.out.frozen 0;have z1:=HR5.out.frozen 1;have z2:=HR5.out.frozen 2;have z3:=HR5.out.frozen 3;have hg5w:=A1 HGW.out (A1 HW1.out (A1 hgx.out hg5));go_region
       all_goals
        have hb6:=A3.keep (row:=none) ((((HR5.out.set 0 (.slice none 0 0)).set 1 (.map none)).set 2 (.map none)).set 3 (.map none)) (B8 _ none) (by simp);have hg6:=A1 (x8 (w:=w) hg5w (Nat.le_refl _) (i:=0) (j:=1) (k:=2) (l:=3) (x:= .slice none 0 0) (y:= .map none) (z:= .map none) (u:= .map none)) (B8 _ none);clear r0 r1 r2 r3 z0 z1 z2 z3 d0 d1;generalize ((((w5.setCell ⟨w.heap.size,0,none⟩ (.slice none 0 0)).setCell ⟨w.heap.size,1,none⟩ (.map none)).setCell ⟨w.heap.size,2,none⟩ (.map none)).setCell ⟨w.heap.size,3,none⟩ (.map none)).drew=W6 at hb6 hg6⊢;have q0:=hb6.c0;have q1:=hb6.c1;have q2:=hb6.c2;have q3:=hb6.c3;go_wp2_with fail
        refine bodyPost_ret (v:= .tuple #[.agg #[.slice none 0 0, .map none, .map none, .map none], .int .i64 12, .int .i64 j]) (by simp[results,Tryz.results60,go_sem,q0,q1,q2,q3]) rfl ⟨hg6,?_⟩;rw[hla.out,a3x fs hlt (by rw[←HN.out];exact hlj) HBV.out hall.out];unfold a1V;rw[HEE.out]
      |false=>
       go_wp2_with (go_at_call 163;refine(HCK.out _ j (A1 HW1.out hgx.out) hlj).mono ?_;rintro e w5 ⟨rfl,hg5⟩;rw[HBV.out])
       go_roundw
       case rel=>exact⟨j+1,by omega,by go_num,by
        intro j' hj';rcases Nat.lt_or_ge j' j with h1|h1
        ·exact hall.out j' h1
        ·obtain rfl:j'=j:=by omega
         exact HBV.out,A1 hgx.out hg5,hbx.out.keep hg5 (by simp)⟩
       case measure=>simp[intOf];omega
     ·have HNO:=A0 (fun j' (hj':j'<n)=>hall.out j' (by omega));have HLN:Hid (P7 fs=p8 fs (r+1)):=by unfold Hid;rw[hla.out,a3t fs hlt (fun j' hj'=>HNO.out j' (by rw[HN.out];exact hj'))]
      go_wp2_with fail
      exact⟨⟨r+1,by omega,by go_num,HLN,by
       intro k hk j' hj';rcases Nat.lt_or_ge k r with h1|h1
       ·exact hno.out k h1 j' hj'
       ·obtain rfl:k=r:=by omega
        exact HNO.out j' (by rw[HN.out];exact hj'),hgx⟩,by simp[intOf];omega⟩
  ·have HL6:Hid (P7 fs= .ok ()):=by unfold Hid;rw[hla.out,show r=6 from by omega,b5P]
   have hG6:=HGm.out.keep (A1 HW1.out hg2.out);have hR6:=HRS.out.keep (A1 HW1.out hg2.out) (by simp);have HR6:=A0 hR6;have HG6:=A0 hG6;have hbw:¬(b=w.heap.size):=by have:=hG6.low.1;omega
   have hbw2:¬(w.heap.size=b):=fun e=>hbw e.symm
   have c0:=hG6.blk.c0;have c1:=hG6.blk.c1;have c2:=hG6.blk.c2;have c3:=hG6.blk.c3;have r0:=hR6.cell 0 _ rfl;have r1:=hR6.cell 1 _ rfl;have r2:=hR6.cell 2 _ rfl;have r3:=hR6.cell 3 _ rfl;have z0:=hR6.frozen 0;have z1:=hR6.frozen 1;have z2:=hR6.frozen 2;have z3:=hR6.frozen 3;clear hG6 hR6;go_wp2_with fail
   clear c0 c1 c2 c3 r0 r1 r2 r3 z0 z1 z2 z3;have hb6:=(((HR6.out.set 0 (.slice (some p) (9+n) cap)).set 1 (.map (some m1))).set 2 (.map (some m2))).set 3 (.map (some m3));have hs6:=A1 (A1 (A1 (A6 wr ⟨w.heap.size,0,none⟩ (.slice (some p) (9+n) cap)) (A6 _ ⟨w.heap.size,1,none⟩ (.map (some m1)))) (A6 _ ⟨w.heap.size,2,none⟩ (.map (some m2)))) (A6 _ ⟨w.heap.size,3,none⟩ (.map (some m3)));generalize ((((wr.setCell ⟨w.heap.size,0,none⟩ (.slice (some p) (9+n) cap)).setCell ⟨w.heap.size,1,none⟩ (.map (some m1))).setCell ⟨w.heap.size,2,none⟩ (.map (some m2))).setCell ⟨w.heap.size,3,none⟩ (.map (some m3)))=W6 at hb6 hs6⊢;have q0:=hb6.c0;have q1:=hb6.c1;have q2:=hb6.c2;have q3:=hb6.c3;refine bodyPost_ret (v:= .tuple #[.agg #[.slice (some p) (9+n) cap, .map (some m1), .map (some m2), .map (some m3)], .int .i64 0, .int .i64 0]) (by simp[results,Tryz.results60,go_sem,q0,q1,q2,q3]) rfl ⟨C7 (A1 HGW.out (A1 HW1.out hg2.out)) hs6 (fun k e=>by cases e;exact .inl (Nat.le_refl _)),?_⟩;rw[HL6.out];refine⟨b, .slice (some p) (9+n) cap,m1,m2,m3,rfl,?_⟩;rw[←hL9];exact Am.far HG6.out hs6 (Nat.lt_succ_self _)
end Kx
open Go.RowKit Cf
variable {w w':World}
variable {b1 b2 base' e size:Nat}
theorem a0u{e1 e2 s1 s2 n1 n2:Nat}{v1 v2:Value}{c1 c2:List Value}(h1:w.ownsRow b1 e1 s1 v1 n1 c1)(h2:w.ownsRow b2 e2 s2 v2 n2 c2)(hne:e1≠e2):v1.ownBlock=none∨v1.ownBlock≠v2.ownBlock:=by
 rcases h1.2 with⟨rfl,_⟩|⟨g,cap,cur,rfl,_,hg,_⟩
 ·exact .inl rfl
 ·right;rcases h2.2 with⟨rfl,_⟩|⟨g',cap',cur',rfl,_,hg',_⟩
  ·simp[Value.ownBlock]
  ·intro e;simp only[Value.ownBlock,Option.some.injEq]at e;subst e;rw[hg]at hg';simp only[Option.some.injEq,Obj.cells.injEq]at hg';exact hne hg'.2.1
variable {c:List Value}
variable {m:Me}
variable {row:Option Nat}
theorem a0j.keep{base:Nat}(h:a0j (fun _=>True) base w c m)(hg:w.grownBy w' row)(hr:∀k,row=some k→k<base):a0j (fun _=>True) base w' c m:=by
 obtain⟨pv,cv,hv,hc,h1,h2,h3,h4⟩:=h
 have key:∀{e s n:Nat} {v:Value} {cs:List Value},w.ownsRow base e s v n cs→v.ownBlock=none∨v.ownBlock≠row:=fun{e s n v cs} ho=>by
  cases row with
  |none=>cases hv:v.ownBlock<;>simp
  |some k=>exact .inr (E9 ho (hr k rfl))
 exact⟨pv,cv,hv,hc,World.ownsRow.kept h1 hg (key h1),World.ownsRow.kept h2 hg (key h2),World.ownsRow.kept h3 hg (key h3),h4⟩
variable {v:Value}
theorem a0j.onto{base:Nat}{s n:Nat}{cs:List Value}(h:a0j (fun _=>True) base w c m)(ho:w.ownsRow b2 102 s v n cs)(hg:w.grownBy w' v.ownBlock):a0j (fun _=>True) base w' c m:=by
 obtain⟨pv,cv,hv,hc,h1,h2,h3,h4⟩:=h;exact⟨pv,cv,hv,hc,World.ownsRow.kept h1 hg (a0u h1 ho (by decide)),World.ownsRow.kept h2 hg (a0u h2 ho (by decide)),World.ownsRow.kept h3 hg (a0u h3 ho (by decide)),h4⟩
def V8(base:Nat)(w:World)(v:Value)(ms:List Me):Prop:=
 ∃css:List (List Value),css.length=ms.length∧w.ownsRow base 102 8 v ms.length css.flatten∧∀(i:Nat) (c:List Value) (m:Me),css[i]? =some c→ms[i]? =some m→a0j (fun _=>True) base w c m
theorem V8.nil(base:Nat)(w:World):V8 base w (.slice none 0 0) []:=⟨[],rfl,World.ownsRow_nil _ _ _ _,fun i c m h=>by simp at h⟩
variable {ms:List Me}
theorem V8.keep{base:Nat}(h:V8 base w v ms)(hg:w.grownBy w' row)(hr:∀k,row=some k→k<base):V8 base w' v ms:=by
 obtain⟨css,h1,h2,h3⟩:=h;refine⟨css,h1,h2.kept hg ?_,fun i c m hc hm=>(h3 i c m hc hm).keep hg hr⟩;cases row with
 |none=>cases hv:v.ownBlock<;>simp
 |some k=>exact .inr (E9 h2 (hr k rfl))
theorem a0j.base(h:a0j (fun _=>True) b1 w c m)(hb:b2≤b1):a0j (fun _=>True) b2 w c m:=by
 obtain⟨pv,cv,hv,hc,h1,h2,h3,h4⟩:=h;exact⟨pv,cv,hv,hc,S0 h1 hb,S0 h2 hb,S0 h3 hb,h4⟩
theorem V8.push{base:Nat}{v':Value}{css:List (List Value)}(hl:css.length=ms.length)(ho:w.ownsRow base 102 8 v ms.length css.flatten)
 (h:∀(i:Nat) (c:List Value) (m:Me),css[i]? =some c→ms[i]? =some m→a0j (fun _=>True) base w c m) (hm:a0j (fun _=>True) base w c m)
 (hown:w'.ownsRow base 102 8 v' (ms.length+1) (css.flatten++c)) (hg:w.grownBy w' v.ownBlock):V8 base w' v' (ms++ [m]):=by
 refine⟨css++ [c],by simp[hl],by simpa using hown,fun i c' m' hc' hm'=> ?_⟩;by_cases hi:i<css.length
 ·rw[List.getElem?_append_left hi]at hc';rw[List.getElem?_append_left (by omega)]at hm';exact(h i c' m' hc' hm').onto ho hg
 ·rw[List.getElem?_append_right (by omega)]at hc' hm'
  have:i=css.length:=by
   have:=(List.getElem?_eq_some_iff.1 hc').1;simp at this;omega
  subst this;simp[hl]at hc' hm';subst hc' hm';exact hm.onto ho hg
set_option maxHeartbeats 400000 in
theorem b3A(w:World)(b:Nat)(f:ByteArray)(pv:Value)(st:St)(d:Nat)(h:Hid (Rd w b f pv st))(hd:d≤2)(hS:Hid (p9 w))(hb0:2<b):
 Calls Tryz.prog 151 #[.pointer (some ⟨b,0,none⟩), .int .i64 d, .func (.func 152) #[.pointer (some ⟨b,0,none⟩)] #[]] w (E7 w b f pv (D5 f d (meth f) st) (V8 w.heap.size)):=by
 have hbl:=h.out.lt;go_enter Tryz.func151,Tryz.ntmps151;go_wp2_with (go_at_call 146;refine E7.bind (Z2 w b f pv st d h (by omega)) (fun er w' hr hg=>⟨rfl, .err (er:=er) (by rw[D5,hr]) rfl rfl hg⟩) ?_;rintro n st1 v w1 HH rfl hR hg)
 have hn:n<65536:=by
  have:=(O6 HH.out).2;have:256^d≤256^2:=Nat.pow_le_pow_right (by omega) hd;omega
 go_loopw [7,11] (fun l i wr=>∃(k:Nat) (xs:List Me) (st2:St),i= .int .i64 k∧o4 (meth f) n st1 k xs st2∧V8 w.heap.size wr l xs∧Rd wr b f pv st2∧w.grownBy wr (some b)) (fun _ i _=>n-(intOf i).toNat)
 case atStart=>exact⟨0,[],st1,rfl, .start _ _ _, .nil _ _,hR.out,hg⟩
 case round=>
  obtain⟨k,xs,st2,rfl,hmid,hrow,hR2,hg2⟩:=hrel;have HM:=A0 hmid;have HR2:=A0 hR2;have HROW:Hid (V8 w.heap.size wr _ xs):=hrow;clear hmid hR2 hrow;by_cases hk:k<n
  ·obtain⟨i,hi,hz0,hz1,hz2⟩:=info_parts b0Z;obtain⟨css,hcl,hco,hcc⟩:=HROW.out;have hne:=E9 hco hbl;have HCO:Hid (wr.ownsRow w.heap.size 102 8 _ xs.length css.flatten):=hco;have HCC:=A0 hcc;have HCL:=A0 hcl;clear hcl hco hcc;have hlen:xs.length<65536:=by have:=HM.out.2.1;omega
   go_wp2_with (first
    |(go_at_call 152
      refine E7.bind (b4y wr b f pv st2 HR2 (hS.out.keep hg2 (by simp;omega)) hb0) (fun er w' hr hg3=>⟨rfl, .err (er:=er) (by rw[D5,HH.out];exact HM.out.fail hk hr) rfl rfl (A1 hg2 hg3)⟩) ?_;rintro x st3 v w3 H3 ⟨c,rfl,hme⟩ hR3 hg3;have HME:=A0 hme;obtain⟨pv',cv',hv',rfl,r1,r2,r3,-⟩:=hme;obtain⟨a1,k1,rfl⟩:=F1 r1;obtain⟨a2,k2,rfl⟩:=F1 r2;obtain⟨a3,k3,rfl⟩:=F1 r3;clear r1 r2 r3;dsimp only)
    |(at_builtin;go_loud (refine wpList_append_own _ rfl _ _ 42 rfl w.heap.size 102 i _ 8 128 Tryz.underlying42 hi hz0 hz1 hz2 rfl (by decide) _ xs.length css.flatten rfl ((World.ownsRow.kept HCO.out hg3 (.inr hne)).alloc _) ⟨w3.heap.size,0,none⟩ 1 1 [.string x.name, .slice a1 x.params.length k1, .int .i64 x.ret.kind, .string x.ret.name, .int .i64 x.stack, .int .i64 x.locals, .slice a2 x.code.length k2, .slice a3 x.handlers.length k3] rfl rfl (O5 w3 _ _) (by simp[Value.oneCell']) (t5 rfl hlen) (by omega) (by have:=hg2.size;have:=hg3.size;simp;omega) ?_)))
   intro v' w4 hown hgrow _;have hR4:=hR3.out.grow (A2 _ _ _) hgrow (by simpa using hne) (fun g hg=>by have:=(K9 HCO.out hg).1;have:=h.out.poolLt this;exact this);have hg4:=C7 (A1 (A1 hg2 hg3) (A2 _ _ _)) hgrow (fun g hg=> .inl (K9 HCO.out hg).1);have HM4:=A0 (HM.out.step hk H3.out)
   have HO4:Hid (V8 w.heap.size w4 v' (xs++ [x])):=by
    refine V8.push HCL.out ((World.ownsRow.kept HCO.out hg3 (.inr hne)).alloc _) (fun i c m hc hm=>((HCC.out i c m hc hm).keep hg3 (fun k e=>by cases e;exact hbl)).keep (A2 _ _ none) (fun _ e=>by cases e)) ?_ hown hgrow;exact(HME.out.base hg2.size).keep (A2 _ _ none) (fun _ e=>by cases e)
   clear hown hgrow;go_wp2
   go_roundw
   case rel=>exact⟨k+1,xs++ [x],st3,by go_num,HM4.out,HO4.out,hR4,hg4⟩
   case measure=>simp[intOf];omega
  ·go_wp2
   go_ret;have hk':k=n:=by have:=HM.out.1;omega
   subst hk';exact .ok (a:=xs) (by rw[D5,HH.out];exact HM.out.done) hg2 HROW.out HR2.out
def a0p(base:Nat)(w:World)(v:Value)(c:Cl):Prop:=
 ∃a1 k1 a2 k2,v= .agg #[.string c.name, .string c.super, .slice a1 c.fields.length k1, .slice a2 c.methods.length k2]∧
  E5 base 129 3 G8 w (.slice a1 c.fields.length k1) c.fields∧V8 base w (.slice a2 c.methods.length k2) c.methods
variable {α:Type}
theorem E5.keep{base:Nat}{enc:α→List Value}{xs:List α}(h:E5 base e size enc w v xs)(hg:w.grownBy w' row)(hr:∀k,row=some k→k<base):E5 base e size enc w' v xs:=by
 refine World.ownsRow.kept h hg ?_;cases row with
 |none=>cases hv:v.ownBlock<;>simp
 |some k=>exact .inr (E9 h (hr k rfl))
theorem E5.base{base:Nat}{enc:α→List Value}{xs:List α}(h:E5 base e size enc w v xs)(hb:base'≤base):E5 base' e size enc w v xs:=S0 h hb
theorem V8.base{base:Nat}(h:V8 base w v ms)(hb:base'≤base):V8 base' w v ms:=by
 obtain⟨css,h1,h2,h3⟩:=h;exact⟨css,h1,S0 h2 hb,fun i c m hc hm=>(h3 i c m hc hm).base hb⟩
theorem V8.slice{base:Nat}(h:V8 base w v ms):∃a c,v= .slice a ms.length c:=by
 obtain⟨css,h1,h2,h3⟩:=h;exact F1 h2
theorem a0p.keep{base:Nat}{c:Cl}(h:a0p base w v c)(hg:w.grownBy w' row)(hr:∀k,row=some k→k<base):a0p base w' v c:=by
 obtain⟨a1,k1,a2,k2,hv,h1,h2⟩:=h;exact⟨a1,k1,a2,k2,hv,h1.keep hg hr,h2.keep hg hr⟩
theorem a0p.base{c:Cl}(h:a0p b1 w v c)(hb:b2≤b1):a0p b2 w v c:=by
 obtain⟨a1,k1,a2,k2,hv,h1,h2⟩:=h;exact⟨a1,k1,a2,k2,hv,h1.base hb,h2.base hb⟩
theorem j3{g:Nat}{i0 i1 i2 i3:Nat}{x0 x1 x2 x3:Value}:
 w.grownBy ((((w.setCell ⟨g,i0,none⟩ x0).setCell ⟨g,i1,none⟩ x1).setCell ⟨g,i2,none⟩ x2).setCell ⟨g,i3,none⟩ x3) (some g):=
 A1 (A1 (A1 (A6 _ ⟨g,i0,none⟩ _) (A6 _ ⟨g,i1,none⟩ _)) (A6 _ ⟨g,i2,none⟩ _)) (A6 _ ⟨g,i3,none⟩ _)
set_option maxHeartbeats 1000000 in
theorem b6q(w:World)(b:Nat)(f:ByteArray)(pv:Value)(st:St)(h:Hid (Rd w b f pv st))(hS:Hid (p9 w))(hb0:2<b):
 Calls Tryz.prog 93 #[.pointer (some ⟨b,0,none⟩)] w (E7 w b f pv (cls f st) (a0p w.heap.size)):=by
 have hbl:=h.out.lt;have hmf:∀(fn:Fn) (first cap:Array Value) (w:World),(Instr.makeFunc fn first cap).run Tryz.prog w= .ok (.func fn first cap) w:=fun _ _ _ _=>rfl
 go_enter Tryz.func93,Tryz.ntmps93
 go_wp2_with (first
  |(go_at_call 148
    refine E7.bind (a3I w1 b f pv st1 hR1) (fun er w' hr hg=>⟨rfl, .err (er:=er) (by simp only[cls,H1.out,hr]) rfl rfl (A1 hg1 hg)⟩) ?_;rintro su st2 v w2 H2 rfl hR2 hg2';have hg2:=A1 hg1 hg2';have hB2:=hB1.keep hg2' (by simp;omega);have s2:=hg2'.size;clear hg2' hB1;dsimp only)
  |(go_at_call 148
    refine E7.bind (a3I _ b f pv st (h.out.keep (A2 _ _ _))) (fun er w' hr hg=>⟨rfl, .err (er:=er) (by simp only[cls,hr]) rfl rfl (A1 (A2 _ _ _) hg)⟩) ?_;rintro n st1 v w1 H1 rfl hR1 hg1';have hg1:=A1 (A2 w _ (some b)) hg1';have hB1:=(A3.new w _ _).keep hg1' (by simp;omega);have s1:w.heap.size<w1.heap.size:=by have:=hB1.lt;omega
    clear hg1';dsimp only)
  |(go_at_call 149
    refine E7.bind (b2L w2 b f pv st2 1 hR2 (by omega) (fun wx sx hgx hx=>a4z wx b f pv sx hx)) (fun er w' hr hg=>⟨rfl, .err (er:=er) (by simp only[cls,H1.out,H2.out,hr]) rfl rfl (A1 hg2 hg)⟩) ?_;rintro fs st3 v3 w3 H3 hv3 hR3 hg3';have hg3:=A1 hg2 hg3';have hB3:=hB2.keep hg3' (by simp;omega);have s3:=hg3'.size;obtain⟨a3,k3,rfl⟩:=F1 hv3;have hL3:=A0 hv3;clear hv3 hg3' hB2;dsimp only)
  |(go_at_call 151
    refine E7.bind (b3A w3 b f pv st3 1 hR3 (by omega) (hS.out.keep hg3 (by simp;omega)) hb0) (fun er w' hr hg=>⟨rfl, .err (er:=er) (by simp only[cls,H1.out,H2.out,H3.out,hr]) rfl rfl (A1 hg3 hg)⟩) ?_;rintro ms st4 v4 w4 H4 hv4 hR4 hg4';have hg4:=A1 hg3 hg4';have hB4:=hB3.keep hg4' (by simp;omega);have s4:=hg4'.size;obtain⟨a4,k4,rfl⟩:=hv4.slice;have hM4:=A0 hv4;have hL4:=A0 (hL3.out.keep hg4' (fun k e=>by cases e;omega));have c0:=hB4.cell 0 _ rfl;have c1:=hB4.cell 1 _ rfl;have c2:=hB4.cell 2 _ rfl;have c3:=hB4.cell 3 _ rfl;have z0:=hB4.frozen 0;have z1:=hB4.frozen 1;have z2:=hB4.frozen 2;have z3:=hB4.frozen 3;clear hv4 hg4' hB3 hL3 hB4;dsimp only))
 refine bodyPost_ret (v:= .agg #[.string n, .string su, .slice a3 fs.length k3, .slice a4 ms.length k4]) (by simp[results,Tryz.results93,go_sem,c0,c1,c2,c3]) rfl ?_;refine .ok (a:=⟨n,su,fs,ms⟩) (st:=st4) ?_ ?_ ?_ ?_
 ·simp only[cls,H1.out,H2.out,H3.out,H4.out]
 ·exact C7 hg4 (j3 (g:=w.heap.size)) (fun k e=> .inl (by cases e;exact Nat.le_refl _))
 ·exact⟨_,_,_,_,rfl,(hL4.out.keep (j3 (g:=w.heap.size)) (fun k e=>by cases e;omega)).base (by omega),(hM4.out.keep (j3 (g:=w.heap.size)) (fun k e=>by cases e;omega)).base (by omega)⟩
 ·exact hR4.out.keepAt (j3 (g:=w.heap.size)) (by omega) (h.out.poolLt (Nat.le_refl _))
set_option maxHeartbeats 400000 in
theorem b8A(w:World)(b:Nat)(f:ByteArray)(pv:Value)(st:St)(h:Hid (Rd w b f pv st)):
 Calls Tryz.prog 94 #[.pointer (some ⟨b,0,none⟩)] w
  (E7 w b f pv (if st.used<st.pool.length then .error (5,f.size)else if st.at_<f.size then .error (6,st.at_)else .ok ((),st)) (fun _ v _=>v= .tuple #[])):=by
 obtain⟨-,ho,c0,c1,c2,c3,-,-,-⟩:=h.out.cells;obtain⟨a,k,rfl⟩:=F1 ho;clear ho;by_cases h1:st.used<st.pool.length
 ·rw[if_pos h1];go_enter Tryz.func94,Tryz.ntmps94;go_wp2
  go_quiet (fail)
  go_wp2
  exact⟨rfl, .err (er:=(5,f.size)) rfl rfl rfl (F0 _ _ _)⟩
 ·rw[if_neg h1];by_cases h2:st.at_<f.size
  ·rw[if_pos h2];go_enter Tryz.func94,Tryz.ntmps94;go_wp2
   go_quiet (fail)
   go_wp2
   go_quiet (fail)
   go_wp2
   exact⟨rfl, .err (er:=(6,st.at_)) rfl rfl rfl (F0 _ _ _)⟩
  ·rw[if_neg h2];go_enter Tryz.func94,Tryz.ntmps94;go_wp2
   go_quiet (fail)
   go_wp2
   go_quiet (fail)
   go_wp2
   go_end0;exact .ok rfl (A1 (F0 _ _ _) (F0 _ _ _)) rfl (h.out.keep (A1 (F0 _ _ _) (F0 _ _ _)))
theorem a6x(c:UInt8):j1 c=decide (97≤c.toNat∧c.toNat≤122∨65≤c.toNat∧c.toNat≤90∨48≤c.toNat∧c.toNat≤57):=by
 rw[Bool.eq_iff_iff];simp[j1,UInt8.le_iff_toNat_le];omega
set_option maxHeartbeats 400000 in
theorem a8A(c:UInt8)(w:World):
 Calls Tryz.prog 288 #[.int .u8 (c.toNat:Int)] w fun e w'=>e= .returned (.bool (j1 c))∧w=w':=by
 rw[a6x];have hc:=c.toNat_lt;generalize c.toNat=a at hc;go_enter Tryz.func288,Tryz.ntmps288;go_wp2
 all_goals
  go_ret;refine⟨congrArg (fun x=>Ending.returned (.bool x)) ?_,rfl⟩;rw[Bool.eq_iff_iff];simp;omega
variable {s:ByteArray}
theorem b4G(h1:1≤s.size)(h2:s.size≤12)(h:∀j (hj:j<s.size),j1 s.data[j]=true):F4 s=true:=by
 simp only[F4,Bool.and_eq_true,decide_eq_true_eq,List.all_eq_true];refine⟨⟨h1,h2⟩,fun c hc=> ?_⟩;obtain⟨j,hj,rfl⟩:=List.getElem_of_mem hc;exact h j (by simpa using hj)
theorem a6J(j:Nat)(hj:j<s.size)(h:j1 s.data[j]=false):F4 s=false:=by
 rw[Bool.eq_false_iff];intro he;simp only[F4,Bool.and_eq_true,decide_eq_true_eq,List.all_eq_true]at he;have:=he.2 s.data[j] (by simp);rw[h]at this;cases this
set_option maxHeartbeats 400000 in
theorem b4F(s:ByteArray)(w:World)(hs:s.size≤2048):
 Calls Tryz.prog 212 #[.string s] w fun e w'=>e= .returned (.bool (F4 s))∧w=w':=by
 by_cases h1:1≤s.size
 ·by_cases h2:s.size≤12
  ·go_enter Tryz.func212,Tryz.ntmps212;go_wp2
   go_loop [14] (fun i=>∃k:Nat,k≤s.size∧i= .int .i64 k∧Hid (∀j (hj:j<s.size),j<k→j1 s.data[j]=true)) (fun i=>s.size-(intOf i).toNat)
   case atStart=>exact⟨0,by omega,rfl,fun j hj h=>by omega⟩
   case round=>
    obtain⟨k,hk,rfl,hall⟩:=hrel;by_cases hlt:k<s.size
    ·cases hb:j1 s.data[k]
     ·have HB:=A0 hb;go_wp2_with (go_at_call 288;refine(a8A s.data[k] _).mono ?_;rintro e w' ⟨rfl,rfl⟩;rw[hb])
      go_ret;exact⟨by rw[a6J k hlt HB.out];rfl,rfl⟩
     ·have HB:=A0 hb;go_wp2_with (go_at_call 288;refine(a8A s.data[k] _).mono ?_;rintro e w' ⟨rfl,rfl⟩;rw[hb])
      go_round
      case rel=>exact⟨k+1,hlt,by go_num,fun j hj h=>by by_cases e:j=k;(subst e;exact HB.out);exact hall.out j hj (by omega)⟩
      case measure=>simp[intOf];omega
    ·go_wp2
     go_ret;exact⟨by rw[b4G h1 h2 (fun j hj=>hall.out j hj (by omega))];rfl,rfl⟩
  ·go_enter Tryz.func212,Tryz.ntmps212;go_wp2
   go_ret;exact⟨by simp[F4,h2],rfl⟩
 ·go_enter Tryz.func212,Tryz.ntmps212;go_wp2
  go_ret;exact⟨by simp[F4,h1],rfl⟩
theorem t8{t:ByteArray}(h:(s.toList==t.toList)=true):s=t:=by
 have h:=eq_of_beq h;rw[ByteArray.toList_eq,ByteArray.toList_eq]at h;cases s;cases t;simpa using h
theorem a6y:LawfulBEq ByteArray where
 eq_of_beq h:=by rw[beq_toListBytes]at h;exact t8 h
 rfl {a}:=by rw[beq_toListBytes];simp
set_option maxHeartbeats 400000 in
theorem b5T(w:World)(base:Nat)(pv:Value)(l:List ByteArray)(s:ByteArray)(h:Hid (w.ownsRow base 9 1 pv l.length (l.map Value.string)))(hl:l.length≤255):
 Calls Tryz.prog 292 #[pv, .string s] w fun e w'=>(∃n:Int,e= .returned (.int .i64 n)∧(decide (0≤n)=l.contains s))∧w=w':=by
 rcases a2X h.out with⟨rfl,rfl⟩|⟨g,cap,rfl,hbg,hcell⟩
 ·go_enter Tryz.func292,Tryz.ntmps292;go_wp2
  go_loop [8] (fun i=>i= .int .i64 0) (fun i=>0)
  case atStart=>rfl
  case round=>
   subst hrel;go_wp2
   go_ret;exact⟨⟨-1,rfl,by simp⟩,rfl⟩
 ·have HC:=A0 hcell;clear hcell;go_enter Tryz.func292,Tryz.ntmps292;go_wp2
  go_loop [8] (fun i=>∃k:Nat,k≤l.length∧i= .int .i64 k∧Hid (∀j,j<k→l.getD j ByteArray.empty≠s)) (fun i=>l.length-(intOf i).toNat)
  case atStart=>exact⟨0,by omega,rfl,fun j h=>by omega⟩
  case round=>
   obtain⟨k,hk,rfl,hall⟩:=hrel;by_cases hlt:k<l.length
   ·have hc:=HC.out k hlt;go_wp2
    ·rename_i he _;have he':=t8 he;go_ret;refine⟨⟨k,rfl,?_⟩,rfl⟩;haveI:=a6y
     have:s∈l:=by rw[he'];exact List.getElem_mem _
     simp[this]
    ·rename_i he;refine⟨⟨k+1,hlt,by go_num,fun j hj=> ?_⟩,by simp[intOf];omega⟩;by_cases e:j=k
     ·subst e;intro e;simp[List.getD,hlt]at e;rw[e]at he;simp at he
     ·exact hall.out j (by omega)
   ·go_wp2
    go_ret;refine⟨⟨-1,rfl,?_⟩,rfl⟩;have hk':k=l.length:=by omega
    subst hk';haveI:=a6y
    have:s∉l:=by
     intro hc;obtain⟨j,hj,e⟩:=List.getElem_of_mem hc;exact hall.out j hj (by simp[List.getD,hj,e])
    simp[this]
set_option maxHeartbeats 400000 in
theorem b2U(w:World)(base:Nat)(pv:Value)(l:List ByteArray)(s:ByteArray)(h:Hid (w.ownsRow base 9 1 pv l.length (l.map Value.string)))(hl:l.length≤255):
 Calls Tryz.prog 222 #[pv, .string s] w fun e w'=>e= .returned (.bool (l.contains s))∧w=w':=by
 obtain⟨a,k,rfl⟩:=F1 h.out;go_enter Tryz.func222,Tryz.ntmps222;go_wp2_with (go_at_call 292;refine(b5T w base _ l s h hl).mono ?_;rintro e w' ⟨⟨n,rfl,hn⟩,rfl⟩)
 go_ret;refine⟨congrArg (fun x=>Ending.returned (.bool x)) ?_,rfl⟩;rw[Bool.eq_iff_iff]at hn⊢
end Go.Proofs.YtdhophglnhcjbaaGreatDoor
