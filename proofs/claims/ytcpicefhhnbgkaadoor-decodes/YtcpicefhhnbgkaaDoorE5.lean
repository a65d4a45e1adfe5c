import Derived.Test.YtcpicefhhnbgkaaDoorE4
namespace Go.Proofs.YtcpicefhhnbgkaaDoor
open Go.RowKit Cf

theorem sign_big {m : Nat} (h : (2147483648 : Int) ≤ m) (hm : m < 256 ^ 4) : wrap64 ((m : Int) - 4294967296) = signed 4 m := by
  have h1 : 2147483648 ≤ m := by omega
  unfold wrap64 signed
  rw [if_pos ⟨rfl, h1⟩]
  omega
theorem sign_small {m : Nat} (h : ¬ (2147483648 : Int) ≤ m) (_ : m < 256 ^ 4) : (m : Int) = signed 4 m := by
  have h1 : ¬ 2147483648 ≤ m := by omega
  unfold signed
  rw [if_neg (fun hh => h1 hh.2)]

set_option maxRecDepth 100000 in
set_option maxHeartbeats 12000000 in
theorem eins_any (w : World) (b : Nat) (f : ByteArray) (pv : Value) (s : Except Er St) (h : Hid (EyS w b f pv s)) :
    Calls Tryd.prog 34 #[.pointer (some ⟨b, 0, none⟩)] w (EyEnds w b f pv (bnd s (ins f)) isIn) := by
  rw [bnd_ins h.out.inv]
  have hbl : b < w.heap.size := h.out.lt
  have hpl : pv.ownBlock ≠ some w.heap.size := h.out.poolLt (Nat.le_refl _)
  go_enter Tryd.func34, Tryd.ntmps34
  go_wp2_with (go_at_call 20; refine EyEnds.bind (enumber_any _ b f pv s 1 (h.out.keep0 (gb_alloc _ _ _)) (by omega)) ?_)
  rintro n v w1 H1 rfl hs1 hg1
  try dsimp only
  have hG1 := (Blk.new w _ _).keep hg1 (by simp; omega)
  have HG1 : Hid (Blk w1 w.heap.size #[.int .i64 0, .int .i64 0, .string ⟨#[]⟩, .string ⟨#[]⟩] 50) := hG1
  have hlt1 : w.heap.size < w1.heap.size := hG1.lt
  have hg01 : Hid (w.grownBy w1 (some b)) := gb_tr (gb_alloc _ _ _) hg1
  have hb1 : b < w1.heap.size := by omega
  have hpl1 : pv.ownBlock ≠ some w1.heap.size := hs1.out.poolLt (Nat.le_refl _)
  clear hG1
  have g0 := HG1.out.cell 0 (.int .i64 0) rfl
  have g1 := HG1.out.cell 1 (.int .i64 0) rfl
  have g2 := HG1.out.cell 2 (.string ⟨#[]⟩) rfl
  have g3 := HG1.out.cell 3 (.string ⟨#[]⟩) rfl
  have z0 := HG1.out.frozen 0
  have z1 := HG1.out.frozen 1
  have z2 := HG1.out.frozen 2
  have z3 := HG1.out.frozen 3
  by_cases h32 : 32 ≤ n
  · rcases hr : bnd s (num f 1) with er | ⟨n', st1⟩
    all_goals
      rw [hr] at H1 hs1
      have HR : Hid (bnd s (num f 1) = _) := hr
      clear hr
    · obtain ⟨c4, ne4⟩ := hs1.out.err
      obtain ⟨a, c1, ha⟩ := hs1.out.errAt
      go_wp2_with (go_at_call 21; refine (failErr_any _ b f pv er _ _ (hs1.out.keep0 (gb_alloc _ _ _))).mono ?_; rintro e w4 ⟨rfl, rfl⟩)
      refine bodyPost_ret (v := .agg #[.int .i64 n, .int .i64 0, .string ⟨#[]⟩, .string ⟨#[]⟩]) (ins_ret _ _ w.heap.size _ _ _ _ _ rfl (((((HG1.out.set 0 _).set 1 _).set 2 _).set 3 _).keep (gb_alloc _ _ none) (by simp))) rfl ?_
      exact .err (er := er) ⟨n, 0, ⟨#[]⟩, ⟨#[]⟩⟩ (by rw [HR.out]; rfl) (gb_tr (gb_new4 hg01.out (Nat.le_refl _)) (gb_alloc _ _ _)) rfl ((hs1.out.keep (gb_sets4 (g := w.heap.size)) (by simp; omega) (.inr hpl)).keep0 (gb_alloc _ _ _))
    · have hn : n' = n := H1.out n' st1 rfl
      subst hn
      have HC := bnd_num_ok HR.out
      have hn256 := HC.1
      obtain ⟨hI, hE⟩ := hs1.out
      have HI : Hid (Cf.Inv f st1) := hI
      obtain ⟨-, c1, -, -, c4, -, -, -, -, -, -⟩ := hE.cells0
      clear hE hI H1
      have HW : Hid (wrap64 ((st1.at_ : Int) - 1) = ((st1.at_ - 1 : Nat) : Int)) := by
        have := HC.2
        have := HI.out.at_
        have := HI.out.fits
        unfold Hid wrap64
        omega
      go_wp2_with fail
      rw [HW.out]
      refine (fail_any _ b f _ _ 3 (st1.at_ - 1) (hs1.out.keep0 (gb_alloc _ _ _)) (by omega)).mono ?_
      rintro e w4 ⟨rfl, hg4, hs4⟩
      have hG4 := (HG1.out.keep (gb_alloc _ _ none) (by simp)).keep hg4 (by simp; omega)
      have HG4 : Hid (Blk w4 w.heap.size #[.int .i64 0, .int .i64 0, .string ⟨#[]⟩, .string ⟨#[]⟩] 50) := hG4
      have hT4 := (Blk.new w1 #[.int .i64 n', .int .i64 0, .string ⟨#[]⟩, .string ⟨#[]⟩] 50).keep hg4 (by simp; omega)
      have g0 := hG4.cell 0 (.int .i64 0) rfl
      have g1 := hG4.cell 1 (.int .i64 0) rfl
      have g2 := hG4.cell 2 (.string ⟨#[]⟩) rfl
      have g3 := hG4.cell 3 (.string ⟨#[]⟩) rfl
      have z0 := hG4.frozen 0
      have z1 := hG4.frozen 1
      have z2 := hG4.frozen 2
      have z3 := hG4.frozen 3
      have t0 := hT4.cell 0 (.int .i64 n') rfl
      have t1 := hT4.cell 1 (.int .i64 0) rfl
      have t2 := hT4.cell 2 (.string ⟨#[]⟩) rfl
      have t3 := hT4.cell 3 (.string ⟨#[]⟩) rfl
      have hg5 := gb_tr (gb_tr hg01.out (gb_alloc _ _ _)) hg4
      clear hG4 hT4 hg4
      go_wp2_with fail
      refine bodyPost_ret (v := .agg #[.int .i64 n', .int .i64 0, .string ⟨#[]⟩, .string ⟨#[]⟩]) (ins_ret _ _ w.heap.size _ _ _ _ _ rfl ((((HG4.out.set 0 _).set 1 _).set 2 _).set 3 _)) rfl ?_
      exact .err (er := (3, st1.at_ - 1)) ⟨n', 0, ⟨#[]⟩, ⟨#[]⟩⟩ (by rw [HR.out]; simp [then_, h32]) (gb_new4 hg5 (Nat.le_refl _)) rfl (EyS.keep hs4 (gb_sets4 (g := w.heap.size)) (by simp; omega) (.inr hpl))
  · obtain ⟨L, hL⟩ : ∃ L, L = letStr n := ⟨_, rfl⟩
    have HL : Hid (L = letStr n) := hL
    have HLL : Hid (L.data.toList = lets n) := by unfold Hid; rw [hL]; rfl
    have hLsz : Hid (L.size = (lets n).length) := by unfold Hid; rw [hL]; rfl
    clear hL
    go_wp2_with (go_at_call 41; refine (operands_any n _).mono ?_; rintro e w4 ⟨rfl, rfl⟩; rw [← HL.out])
    have hls := lets_in n
    have HLS : Hid _ := hls
    clear hls
    go_loopw [5] (fun i wr => ∃ (k : Nat) (x : In) (s2 : Except Er St), k ≤ L.size ∧ i = .int .i64 k ∧ x.op = n ∧ Blk wr w1.heap.size #[.int .i64 n, .int .i64 x.a, .string x.cls, .string x.mem] 50 ∧
      Blk wr w.heap.size #[.int .i64 0, .int .i64 0, .string ⟨#[]⟩, .string ⟨#[]⟩] 50 ∧ EyS wr b f pv s2 ∧ w.grownBy wr (some b) ∧
      Tot f (bnd s (num f 1)) n k x s2) (fun i _ => L.size - (intOf i).toNat)
    case atStart =>
      refine ⟨0, ⟨n, 0, ⟨#[]⟩, ⟨#[]⟩⟩, stateOf (bnd s (num f 1)), Nat.zero_le _, rfl, rfl, Blk.new _ _ _, HG1.out.keep (gb_alloc _ _ none) (by simp), hs1.out.keep0 (gb_alloc _ _ _), gb_tr hg01.out (gb_alloc _ _ _), ?_⟩
      exact Tot.start H1.out h32
    case round =>
      obtain ⟨k, x, s2, hk, rfl, hxn, hT, hG, hs2, hgr, htot⟩ := hrel
      have HT : Hid (Blk wr w1.heap.size #[.int .i64 n, .int .i64 x.a, .string x.cls, .string x.mem] 50) := hT
      have HG : Hid (Blk wr w.heap.size #[.int .i64 0, .int .i64 0, .string ⟨#[]⟩, .string ⟨#[]⟩] 50) := hG
      have HXN : Hid (x.op = n) := hxn
      have hL2 : L.size ≤ 2 := by have := hLsz.out; have := lets_len n; omega
      have HS : Hid (EyS wr b f pv s2) := hs2
      have hg : Hid (w.grownBy wr (some b)) := hgr
      have HR : Hid (Tot f (bnd s (num f 1)) n k x s2) := htot
      have hT0 := HT.out.cell 0 (.int .i64 n) rfl
      clear hT hG hxn hs2 hgr htot g0 g1 g2 g3 z0 z1 z2 z3
      have hend : s2 = s2 := rfl
      cases s2 with
      | error er =>
        obtain ⟨c4, ne4⟩ := HS.out.err
        have g0 := HG.out.cell 0 (.int .i64 0) rfl
        have g1 := HG.out.cell 1 (.int .i64 0) rfl
        have g2 := HG.out.cell 2 (.string ⟨#[]⟩) rfl
        have g3 := HG.out.cell 3 (.string ⟨#[]⟩) rfl
        have z0 := HG.out.frozen 0
        have z1 := HG.out.frozen 1
        have z2 := HG.out.frozen 2
        have z3 := HG.out.frozen 3
        have t1 := HT.out.cell 1 (.int .i64 x.a) rfl
        have t2 := HT.out.cell 2 (.string x.cls) rfl
        have t3 := HT.out.cell 3 (.string x.mem) rfl
        go_wp2_with fail
        all_goals
          refine bodyPost_ret (v := .agg #[.int .i64 n, .int .i64 x.a, .string x.cls, .string x.mem]) (ins_ret _ _ w.heap.size _ _ _ _ _ rfl ((((HG.out.set 0 _).set 1 _).set 2 _).set 3 _)) rfl ?_
          exact .err (er := er) ⟨n, x.a, x.cls, x.mem⟩ HR.out (gb_new4 hg.out (Nat.le_refl _)) rfl (EyS.keep HS.out (gb_sets4 (g := w.heap.size)) (by simp; omega) (.inr hpl))
      | ok st2 =>
        have c4 : wr.cell? ⟨b, 4, none⟩ = some (.int .i64 0) := HS.out.2.cells0.2.2.2.2.1
        by_cases hlt : k < L.size
        · have HCL := HLS.out (L.data[k]) (by rw [← HLL.out]; simp)
          have hLk : (L[k]'hlt) = L.data[k] := rfl
          have hcs : (L[k]'hlt).toNat = (L.data[k]).toNat := rfl
          rcases HCL with hc | hc | hc | hc | hc
          all_goals
            rw [hc] at hcs
            have HC : Hid (L.data[k] = _) := hc
            simp only [UInt8.reduceToNat] at hcs
            clear hc hLk
          · go_wp2_with (go_at_call 20; refine EyEnds.bind (enumber_any wr b f pv (.ok st2) 1 HS (by omega)) ?_)
            rintro m v w4 H4 rfl hs4 hg4
            try dsimp only
            have hT4 := HT.out.keep hg4 (by simp; omega)
            have HT4 : Hid (Blk w4 w1.heap.size #[.int .i64 n, .int .i64 x.a, .string x.cls, .string x.mem] 50) := hT4
            have HG4 : Hid (Blk w4 w.heap.size #[.int .i64 0, .int .i64 0, .string ⟨#[]⟩, .string ⟨#[]⟩] 50) := HG.out.keep hg4 (by simp; omega)
            have t1 := hT4.cell 1 (.int .i64 x.a) rfl
            have y1 := hT4.frozen 1
            have hg5 : Hid (w.grownBy w4 (some b)) := gb_tr hg.out hg4
            clear hT4 hg4
            go_wp2_with fail
            go_roundw
            case rel => exact ⟨k + 1, { x with a := m }, stateOf (num f 1 st2), hlt, by go_num, HXN.out, HT4.out.set 1 _, HG4.out.keep (gb_set _ ⟨w1.heap.size, 1, none⟩ _) (by simp; omega), hs4.out.keep (gb_set _ ⟨w1.heap.size, 1, none⟩ _) (by simp; omega) (.inr hpl1), gb_newSet hg5.out (by omega) 1 _, opers_step HLL hlt HC.out HR.out (oper_98 H4.out)⟩
            case measure => simp [intOf]; omega
          · go_wp2_with (go_at_call 20; refine EyEnds.bind (enumber_any wr b f pv (.ok st2) 2 HS (by omega)) ?_)
            rintro m v w4 H4 rfl hs4 hg4
            try dsimp only
            have hT4 := HT.out.keep hg4 (by simp; omega)
            have HT4 : Hid (Blk w4 w1.heap.size #[.int .i64 n, .int .i64 x.a, .string x.cls, .string x.mem] 50) := hT4
            have HG4 : Hid (Blk w4 w.heap.size #[.int .i64 0, .int .i64 0, .string ⟨#[]⟩, .string ⟨#[]⟩] 50) := HG.out.keep hg4 (by simp; omega)
            have t1 := hT4.cell 1 (.int .i64 x.a) rfl
            have y1 := hT4.frozen 1
            have hg5 : Hid (w.grownBy w4 (some b)) := gb_tr hg.out hg4
            clear hT4 hg4
            go_wp2_with fail
            go_roundw
            case rel => exact ⟨k + 1, { x with a := m }, stateOf (num f 2 st2), hlt, by go_num, HXN.out, HT4.out.set 1 _, HG4.out.keep (gb_set _ ⟨w1.heap.size, 1, none⟩ _) (by simp; omega), hs4.out.keep (gb_set _ ⟨w1.heap.size, 1, none⟩ _) (by simp; omega) (.inr hpl1), gb_newSet hg5.out (by omega) 1 _, opers_step HLL hlt HC.out HR.out (oper_115 H4.out)⟩
            case measure => simp [intOf]; omega
          · go_wp2_with (go_at_call 20; refine EyEnds.bind (enumber_any wr b f pv (.ok st2) 4 HS (by omega)) ?_)
            rintro m v w4 H4 rfl hs4 hg4
            try dsimp only
            have hT4 := HT.out.keep hg4 (by simp; omega)
            have HT4 : Hid (Blk w4 w1.heap.size #[.int .i64 n, .int .i64 x.a, .string x.cls, .string x.mem] 50) := hT4
            have HG4 : Hid (Blk w4 w.heap.size #[.int .i64 0, .int .i64 0, .string ⟨#[]⟩, .string ⟨#[]⟩] 50) := HG.out.keep hg4 (by simp; omega)
            have t1 := hT4.cell 1 (.int .i64 x.a) rfl
            have y1 := hT4.frozen 1
            have hg5 : Hid (w.grownBy w4 (some b)) := gb_tr hg.out hg4
            clear hT4 hg4
            by_cases hbig : (2147483648 : Int) ≤ m
            · go_wp2_with fail
              go_roundw
              case rel => exact ⟨k + 1, { x with a := wrap64 ((m : Int) - 4294967296) }, stateOf (num f 4 st2), hlt, by go_num, HXN.out, (HT4.out.set 1 _).set 1 _, (HG4.out.keep (gb_set _ ⟨w1.heap.size, 1, none⟩ _) (by simp; omega)).keep (gb_set _ ⟨w1.heap.size, 1, none⟩ _) (by simp; omega), (hs4.out.keep (gb_set _ ⟨w1.heap.size, 1, none⟩ _) (by simp; omega) (.inr hpl1)).keep (gb_set _ ⟨w1.heap.size, 1, none⟩ _) (by simp; omega) (.inr hpl1), gb_newSet (gb_newSet hg5.out (by omega) 1 _) (by omega) 1 _, opers_step HLL hlt HC.out HR.out (oper_108 H4.out (sign_big hbig))⟩
              case measure => simp [intOf]; omega
            · go_wp2_with fail
              go_roundw
              case rel => exact ⟨k + 1, { x with a := m }, stateOf (num f 4 st2), hlt, by go_num, HXN.out, HT4.out.set 1 _, HG4.out.keep (gb_set _ ⟨w1.heap.size, 1, none⟩ _) (by simp; omega), hs4.out.keep (gb_set _ ⟨w1.heap.size, 1, none⟩ _) (by simp; omega) (.inr hpl1), gb_newSet hg5.out (by omega) 1 _, opers_step HLL hlt HC.out HR.out (oper_108 H4.out (sign_small hbig))⟩
              case measure => simp [intOf]; omega
          · go_wp2_with (go_at_call 23; refine EyEnds.bind (ename_any wr b f pv (.ok st2) HS) ?_)
            rintro m v w4 H4 rfl hs4 hg4
            try dsimp only
            have hT4 := HT.out.keep hg4 (by simp; omega)
            have HT4 : Hid (Blk w4 w1.heap.size #[.int .i64 n, .int .i64 x.a, .string x.cls, .string x.mem] 50) := hT4
            have HG4 : Hid (Blk w4 w.heap.size #[.int .i64 0, .int .i64 0, .string ⟨#[]⟩, .string ⟨#[]⟩] 50) := HG.out.keep hg4 (by simp; omega)
            have t1 := hT4.cell 2 (.string x.cls) rfl
            have y1 := hT4.frozen 2
            have hg5 : Hid (w.grownBy w4 (some b)) := gb_tr hg.out hg4
            clear hT4 hg4
            go_wp2_with fail
            go_roundw
            case rel => exact ⟨k + 1, { x with cls := m }, stateOf (name f st2), hlt, by go_num, HXN.out, HT4.out.set 2 _, HG4.out.keep (gb_set _ ⟨w1.heap.size, 2, none⟩ _) (by simp; omega), hs4.out.keep (gb_set _ ⟨w1.heap.size, 2, none⟩ _) (by simp; omega) (.inr hpl1), gb_newSet hg5.out (by omega) 2 _, opers_step HLL hlt HC.out HR.out (oper_99 H4.out)⟩
            case measure => simp [intOf]; omega
          · go_wp2_with (go_at_call 23; refine EyEnds.bind (ename_any wr b f pv (.ok st2) HS) ?_)
            rintro m v w4 H4 rfl hs4 hg4
            try dsimp only
            have hT4 := HT.out.keep hg4 (by simp; omega)
            have HT4 : Hid (Blk w4 w1.heap.size #[.int .i64 n, .int .i64 x.a, .string x.cls, .string x.mem] 50) := hT4
            have HG4 : Hid (Blk w4 w.heap.size #[.int .i64 0, .int .i64 0, .string ⟨#[]⟩, .string ⟨#[]⟩] 50) := HG.out.keep hg4 (by simp; omega)
            have t1 := hT4.cell 3 (.string x.mem) rfl
            have y1 := hT4.frozen 3
            have hg5 : Hid (w.grownBy w4 (some b)) := gb_tr hg.out hg4
            clear hT4 hg4
            go_wp2_with fail
            go_roundw
            case rel => exact ⟨k + 1, { x with mem := m }, stateOf (name f st2), hlt, by go_num, HXN.out, HT4.out.set 3 _, HG4.out.keep (gb_set _ ⟨w1.heap.size, 3, none⟩ _) (by simp; omega), hs4.out.keep (gb_set _ ⟨w1.heap.size, 3, none⟩ _) (by simp; omega) (.inr hpl1), gb_newSet hg5.out (by omega) 3 _, opers_step HLL hlt HC.out HR.out (oper_109 H4.out)⟩
            case measure => simp [intOf]; omega
        · have g0 := HG.out.cell 0 (.int .i64 0) rfl
          have g1 := HG.out.cell 1 (.int .i64 0) rfl
          have g2 := HG.out.cell 2 (.string ⟨#[]⟩) rfl
          have g3 := HG.out.cell 3 (.string ⟨#[]⟩) rfl
          have z0 := HG.out.frozen 0
          have z1 := HG.out.frozen 1
          have z2 := HG.out.frozen 2
          have z3 := HG.out.frozen 3
          have t1 := HT.out.cell 1 (.int .i64 x.a) rfl
          have t2 := HT.out.cell 2 (.string x.cls) rfl
          have t3 := HT.out.cell 3 (.string x.mem) rfl
          go_wp2_with fail
          refine bodyPost_ret (v := .agg #[.int .i64 n, .int .i64 x.a, .string x.cls, .string x.mem]) (ins_ret _ _ w.heap.size _ _ _ _ _ rfl ((((HG.out.set 0 _).set 1 _).set 2 _).set 3 _)) rfl ?_
          have hk' : k = (lets n).length := by have := hLsz.out; omega
          exact .ok ⟨n, x.a, x.cls, x.mem⟩ (st := st2) (Tot.done HR.out hk' HXN.out) (gb_new4 hg.out (Nat.le_refl _)) rfl (EyS.keep HS.out (gb_sets4 (g := w.heap.size)) (by simp; omega) (.inr hpl))
end Go.Proofs.YtcpicefhhnbgkaaDoor
