/- Contracts of the functions that the law goes through: a part of the proof that the last text tells. -/
import Derived.Test.YtdhophglnhcjbaaDoorGD
set_option linter.unusedVariables false
set_option linter.unusedSimpArgs false
namespace Go.Proofs.YtdhophglnhcjbaaDoor
open Go.RowKit Cf

set_option maxRecDepth 100000 in
set_option maxHeartbeats 2000000 in
theorem emethod_any (w : World) (b : Nat) (f : ByteArray) (pv : Value) (s : Except Er St) (h : Hid (EyS w b f pv s)) :
    Calls Tryd.prog 25 #[.pointer (some ⟨b, 0, none⟩)] w (EyEnds w b f pv (bnd s (meth f)) (isMe w.heap.size)) := by
  have hbl : b < w.heap.size := h.out.lt
  have hpl : pv.ownBlock ≠ some w.heap.size := h.out.poolLt (Nat.le_refl _)
  go_enter Tryd.func25, Tryd.ntmps25
  go_wp2_with (go_at_call 23; refine EyEnds.bind (ename_any _ b f pv s (h.out.keep0 (gb_alloc _ _ _))) ?_)
  rintro nm v w1 H1 rfl hs1 hg1
  have hG1 : Hid (Blk w1 w.heap.size #[.string ⟨#[]⟩, .slice none 0 0, .int .i64 0, .string ⟨#[]⟩, .int .i64 0, .int .i64 0, .slice none 0 0, .slice none 0 0] 48) := (Blk.new w _ _).keep hg1 (by simp; omega)
  have hlt1 : w.heap.size < w1.heap.size := hG1.out.lt
  have hg01 : Hid (w.grownBy w1 (some b)) := gb_tr (gb_alloc _ _ _) hg1
  have hb1 : b < w1.heap.size := by omega
  have S1 : Hid (Seen s (name f) nm (stateOf (bnd s (name f)))) := ⟨H1.out, rfl⟩
  generalize stateOf (bnd s (name f)) = s1 at hs1 S1
  clear H1 hg1
  go_wp2_with (go_at_call 20; refine EyEnds.bind (enumber_any _ b f pv s1 1 (hs1.out.keep0 (gb_alloc _ _ _)) (by omega)) ?_)
  rintro n1 v w2 H2 rfl hs2 hg2
  have hB2 : Hid (Blk w2 w1.heap.size #[.string nm, .slice none 0 0, .int .i64 0, .string ⟨#[]⟩, .int .i64 0, .int .i64 0, .slice none 0 0, .slice none 0 0] 48) := (Blk.new w1 _ _).keep hg2 (by simp; omega)
  have hG2 : Hid (Blk w2 w.heap.size #[.string ⟨#[]⟩, .slice none 0 0, .int .i64 0, .string ⟨#[]⟩, .int .i64 0, .int .i64 0, .slice none 0 0, .slice none 0 0] 48) := (hG1.out.keep (gb_alloc _ _ none) (by simp)).keep hg2 (by simp; omega)
  have hlt2 : w1.heap.size < w2.heap.size := hB2.out.lt
  have hg02 : Hid (w.grownBy w2 (some b)) := gb_tr (gb_tr hg01.out (gb_alloc _ _ _)) hg2
  have M2 : Hid (MidE f 1 (kind f) s1 n1 0 [] (stateOf (bnd s1 (num f 1)))) := MidE.start H2.out
  generalize stateOf (bnd s1 (num f 1)) = s2 at hs2 M2
  have hpl1' : pv.ownBlock ≠ some w1.heap.size := hs1.out.poolLt (Nat.le_refl _)
  have HPL : Hid (∀ k, w1.heap.size ≤ k → pv.ownBlock ≠ some k) := fun k hk => hs1.out.poolLt hk
  clear hg2 hG1 hs1
  go_wp2_with fail
  have hbl1 : b < w1.heap.size := hb1
  have hpl1 : pv.ownBlock ≠ some w1.heap.size := by
    exact hpl1'
  refine wp_join (J := MeJ b w.heap.size w1.heap.size (fun wr => ∃ (ps : List Ty) (s3 : Except Er St) (l : Value), Seen s1 (list f 1 (kind f)) ps s3 ∧
    MS w b w.heap.size w1.heap.size f pv #[.string nm, l, .int .i64 0, .string ⟨#[]⟩, .int .i64 0, .int .i64 0, .slice none 0 0, .slice none 0 0] s3 wr ∧ IsRow (w1.heap.size + 1) 41 2 encTy wr l ps)) ?_ ?_
  · rintro a wr ⟨⟨ps, s3, l, hsn3, hms, hrow⟩, t, rfl⟩
    clear hs2 hB2 hG2 M2 H2 hlt2 hg02
    obtain ⟨al, kl, rfl⟩ := own_slice hrow
    have S3 : Hid (Seen s1 (list f 1 (kind f)) ps s3) := hsn3
    have HM3 : Hid (MS w b w.heap.size w1.heap.size f pv #[.string nm, .slice al ps.length kl, .int .i64 0, .string ⟨#[]⟩, .int .i64 0, .int .i64 0, .slice none 0 0, .slice none 0 0] s3 wr) := hms
    have HR3 : Hid (IsRow (w1.heap.size + 1) 41 2 encTy wr (.slice al ps.length kl) ps) := hrow
    have hbB : b ≠ w1.heap.size := by omega
    have hbG : b ≠ w.heap.size := by omega
    have hGB : w.heap.size ≠ w1.heap.size := by omega
    have hle : w.heap.size ≤ w1.heap.size := by omega
    clear hms hrow hsn3
    dsimp only [meFr]
    go_wp2_with (first
      | (go_at_call 20
         have HM6a : Hid (MS w b w.heap.size w1.heap.size f pv #[.string nm, .slice al ps.length kl, .int .i64 rt.kind, .string rt.name, .int .i64 so, .int .i64 lo, .slice none 0 0, .slice none 0 0] s6 (w6.setCell ⟨w1.heap.size, 5, none⟩ (.int .i64 lo))) := HM6.out.setB hbB hGB hpl1 hle 5 _
         have HR6a : Hid (IsRow (w1.heap.size + 1) 41 2 encTy (w6.setCell ⟨w1.heap.size, 5, none⟩ (.int .i64 lo)) (.slice al ps.length kl) ps) := row_keep HR6.out (gb_set _ ⟨w1.heap.size, 5, none⟩ _) (Nat.lt_succ_self _)
         refine EyEnds.bind (enumber_any _ b f pv s6 2 HM6a.out.eye (by omega)) ?_
         rintro n2 v w7 H7 rfl hs7 hg7
         have HM7 : Hid (MS w b w.heap.size w1.heap.size f pv #[.string nm, .slice al ps.length kl, .int .i64 rt.kind, .string rt.name, .int .i64 so, .int .i64 lo, .slice none 0 0, .slice none 0 0] (stateOf (bnd s6 (num f 2))) w7) := HM6a.out.step hg7 hs7.out hbB hbG
         have HR7 : Hid (IsRow (w1.heap.size + 1) 41 2 encTy w7 (.slice al ps.length kl) ps) := row_keep HR6a.out hg7 (by omega)
         clear hs7 hg7 HM6a HR6a HM6 HR6
         try dsimp only)
      | (go_at_call 20
         have HM5a : Hid (MS w b w.heap.size w1.heap.size f pv #[.string nm, .slice al ps.length kl, .int .i64 rt.kind, .string rt.name, .int .i64 so, .int .i64 0, .slice none 0 0, .slice none 0 0] s5 (w5.setCell ⟨w1.heap.size, 4, none⟩ (.int .i64 so))) := HM5.out.setB hbB hGB hpl1 hle 4 _
         have HR5a : Hid (IsRow (w1.heap.size + 1) 41 2 encTy (w5.setCell ⟨w1.heap.size, 4, none⟩ (.int .i64 so)) (.slice al ps.length kl) ps) := row_keep HR5.out (gb_set _ ⟨w1.heap.size, 4, none⟩ _) (Nat.lt_succ_self _)
         refine EyEnds.bind (enumber_any _ b f pv s5 1 HM5a.out.eye (by omega)) ?_
         rintro lo v w6 H6 rfl hs6 hg6
         obtain ⟨s6, hs6e⟩ : ∃ s6, s6 = stateOf (bnd s5 (num f 1)) := ⟨_, rfl⟩
         rw [← hs6e] at hs6
         have S6 : Hid (Seen s5 (num f 1) lo s6) := ⟨H6.out, hs6e.symm⟩
         have HM6 : Hid (MS w b w.heap.size w1.heap.size f pv #[.string nm, .slice al ps.length kl, .int .i64 rt.kind, .string rt.name, .int .i64 so, .int .i64 0, .slice none 0 0, .slice none 0 0] s6 w6) := HM5a.out.step hg6 hs6.out hbB hbG
         have HR6 : Hid (IsRow (w1.heap.size + 1) 41 2 encTy w6 (.slice al ps.length kl) ps) := row_keep HR5a.out hg6 (by omega)
         have z5 := HM6.out.me.frozen 5
         have d5 := HM6.out.me.cell 5 _ rfl
         clear hs6e hs6 hg6 HM5a HR5a HM5 HR5 H6
         try dsimp only)
      | (go_at_call 20
         have HM4a : Hid (MS w b w.heap.size w1.heap.size f pv #[.string nm, .slice al ps.length kl, .int .i64 rt.kind, .string rt.name, .int .i64 0, .int .i64 0, .slice none 0 0, .slice none 0 0] s4 ((w4.setCell ⟨w1.heap.size, 2, none⟩ (.int .i64 rt.kind)).setCell ⟨w1.heap.size, 3, none⟩ (.string rt.name))) := (HM4.out.setB hbB hGB hpl1 hle 2 _).setB hbB hGB hpl1 hle 3 _
         have HR4a : Hid (IsRow (w1.heap.size + 1) 41 2 encTy ((w4.setCell ⟨w1.heap.size, 2, none⟩ (.int .i64 rt.kind)).setCell ⟨w1.heap.size, 3, none⟩ (.string rt.name)) (.slice al ps.length kl) ps) := row_keep (row_keep HR4.out (gb_set _ ⟨w1.heap.size, 2, none⟩ _) (Nat.lt_succ_self _)) (gb_set _ ⟨w1.heap.size, 3, none⟩ _) (Nat.lt_succ_self _)
         refine EyEnds.bind (enumber_any _ b f pv s4 1 HM4a.out.eye (by omega)) ?_
         rintro so v w5 H5 rfl hs5 hg5
         obtain ⟨s5, hs5e⟩ : ∃ s5, s5 = stateOf (bnd s4 (num f 1)) := ⟨_, rfl⟩
         rw [← hs5e] at hs5
         have S5 : Hid (Seen s4 (num f 1) so s5) := ⟨H5.out, hs5e.symm⟩
         have HM5 : Hid (MS w b w.heap.size w1.heap.size f pv #[.string nm, .slice al ps.length kl, .int .i64 rt.kind, .string rt.name, .int .i64 0, .int .i64 0, .slice none 0 0, .slice none 0 0] s5 w5) := HM4a.out.step hg5 hs5.out hbB hbG
         have HR5 : Hid (IsRow (w1.heap.size + 1) 41 2 encTy w5 (.slice al ps.length kl) ps) := row_keep HR4a.out hg5 (by omega)
         have z4 := HM5.out.me.frozen 4
         have d4 := HM5.out.me.cell 4 _ rfl
         clear hs5e hs5 hg5 HM4a HR4a HM4 HR4 H5
         try dsimp only)
      | (go_at_call 24
         refine EyEnds.bind (ekind_any wr b f pv s3 HM3.out.eye) ?_
         rintro rt v w4 H4 rfl hs4 hg4
         obtain ⟨s4, hs4e⟩ : ∃ s4, s4 = stateOf (bnd s3 (kind f)) := ⟨_, rfl⟩
         rw [← hs4e] at hs4
         have S4 : Hid (Seen s3 (kind f) rt s4) := ⟨H4.out, hs4e.symm⟩
         have HM4 : Hid (MS w b w.heap.size w1.heap.size f pv #[.string nm, .slice al ps.length kl, .int .i64 0, .string ⟨#[]⟩, .int .i64 0, .int .i64 0, .slice none 0 0, .slice none 0 0] s4 w4) := HM3.out.step hg4 hs4.out hbB hbG
         have HR4 : Hid (IsRow (w1.heap.size + 1) 41 2 encTy w4 (.slice al ps.length kl) ps) := row_keep HR3.out hg4 (by omega)
         have z2 := HM4.out.me.frozen 2
         have z3 := HM4.out.me.frozen 3
         have d2 := HM4.out.me.cell 2 _ rfl
         have d3 := HM4.out.me.cell 3 _ rfl
         clear hs4e hs4 hg4 HM3 HR3 H4
         try dsimp only))
    have HM7' : Hid (MidE f 2 (ins f) s6 n2 0 [] (stateOf (bnd s6 (num f 2)))) := MidE.start H7.out
    obtain ⟨s7, hs7e⟩ : ∃ s7, s7 = stateOf (bnd s6 (num f 2)) := ⟨_, rfl⟩
    rw [← hs7e] at HM7 HM7'
    clear hs7e H7 z2 z3 d2 d3 z4 d4 z5 d5
    refine wp_join (J := MeJ b w.heap.size w1.heap.size (fun wr => ∃ (is : List In) (s3 : Except Er St) (l : Value), Seen s6 (list f 2 (ins f)) is s3 ∧
      MS w b w.heap.size w1.heap.size f pv #[.string nm, .slice al ps.length kl, .int .i64 rt.kind, .string rt.name, .int .i64 so, .int .i64 lo, l, .slice none 0 0] s3 wr ∧ IsRow (w1.heap.size + 1) 50 4 encIn wr (l) is ∧ IsRow (w1.heap.size + 1) 41 2 encTy wr (.slice al ps.length kl) ps)) ?_ ?_
    · rintro a wr ⟨⟨is, s8, lc0, hsn8, hms, hrc, hrp⟩, t, rfl⟩
      clear HM7 HM7' HR7
      obtain ⟨ac, kc, rfl⟩ := own_slice hrc
      have S8 : Hid (Seen s6 (list f 2 (ins f)) is s8) := hsn8
      have HM8 : Hid (ML w b w.heap.size w1.heap.size f pv #[.string nm, .slice al ps.length kl, .int .i64 rt.kind, .string rt.name, .int .i64 so, .int .i64 lo, .slice ac is.length kc, .slice none 0 0] ps is [] (.slice al ps.length kl) (.slice ac is.length kc) (.slice none 0 0) s8 wr) := ⟨hms, hrp, hrc, World.ownsRow_nil _ _ _ _⟩
      clear hms hrc hrp hsn8
      dsimp only [meFr]
      go_wp2_with (go_at_call 20; refine EyEnds.bind (enumber_any _ b f pv s8 1 HM8.out.ms.eye (by omega)) ?_; rintro n3 v w9 H9 rfl hs9 hg9; have HM9 : Hid (ML w b w.heap.size w1.heap.size f pv #[.string nm, .slice al ps.length kl, .int .i64 rt.kind, .string rt.name, .int .i64 so, .int .i64 lo, .slice ac is.length kc, .slice none 0 0] ps is [] (.slice al ps.length kl) (.slice ac is.length kc) (.slice none 0 0) (stateOf (bnd s8 (num f 1))) w9) := HM8.out.step hg9 hs9.out hb1 hbG; have M9 : Hid (MidE f 1 (handler f) s8 n3 0 [] (stateOf (bnd s8 (num f 1)))) := MidE.start H9.out; clear hs9 hg9 H9 HM8; try dsimp only)
      obtain ⟨s9, hs9e⟩ : ∃ s9, s9 = stateOf (bnd s8 (num f 1)) := ⟨_, rfl⟩
      rw [← hs9e] at HM9 M9
      clear hs9e
      refine wp_join (J := MeJ b w.heap.size w1.heap.size (fun wr => ∃ (hs : List Hd) (s3 : Except Er St) (l : Value), Seen s8 (list f 1 (handler f)) hs s3 ∧ ML w b w.heap.size w1.heap.size f pv #[.string nm, .slice al ps.length kl, .int .i64 rt.kind, .string rt.name, .int .i64 so, .int .i64 lo, .slice ac is.length kc, l] ps is hs (.slice al ps.length kl) (.slice ac is.length kc) (l) s3 wr)) ?_ ?_
      · rintro a wr ⟨⟨hs, s11, lh, hsn11, hml⟩, t, rfl⟩
        clear M9 HM9
        obtain ⟨ah, kh, rfl⟩ := own_slice hml.rh
        have S11 : Hid (Seen s8 (list f 1 (handler f)) hs s11) := hsn11
        have HS : Hid (ML w b w.heap.size w1.heap.size f pv #[.string nm, .slice al ps.length kl, .int .i64 rt.kind, .string rt.name, .int .i64 so, .int .i64 lo, .slice ac is.length kc, .slice ah hs.length kh] ps is hs (.slice al ps.length kl) (.slice ac is.length kc) (.slice ah hs.length kh) s11 wr) := hml
        clear hml hsn11
        dsimp only [meFr]
        have d0 := HS.out.ms.me.cell 0 _ rfl
        have d1 := HS.out.ms.me.cell 1 _ rfl
        have d2 := HS.out.ms.me.cell 2 _ rfl
        have d3 := HS.out.ms.me.cell 3 _ rfl
        have d4 := HS.out.ms.me.cell 4 _ rfl
        have d5 := HS.out.ms.me.cell 5 _ rfl
        have d6 := HS.out.ms.me.cell 6 _ rfl
        have d7 := HS.out.ms.me.cell 7 _ rfl
        have g0 := HS.out.ms.out.cell 0 _ rfl
        have g1 := HS.out.ms.out.cell 1 _ rfl
        have g2 := HS.out.ms.out.cell 2 _ rfl
        have g3 := HS.out.ms.out.cell 3 _ rfl
        have g4 := HS.out.ms.out.cell 4 _ rfl
        have g5 := HS.out.ms.out.cell 5 _ rfl
        have g6 := HS.out.ms.out.cell 6 _ rfl
        have g7 := HS.out.ms.out.cell 7 _ rfl
        have z0 := HS.out.ms.out.frozen 0
        have z1 := HS.out.ms.out.frozen 1
        have z2 := HS.out.ms.out.frozen 2
        have z3 := HS.out.ms.out.frozen 3
        have z4 := HS.out.ms.out.frozen 4
        have z5 := HS.out.ms.out.frozen 5
        have z6 := HS.out.ms.out.frozen 6
        have z7 := HS.out.ms.out.frozen 7
        go_wp2_with fail
        refine bodyPost_ret (v := .agg #[.string nm, .slice al ps.length kl, .int .i64 rt.kind, .string rt.name, .int .i64 so, .int .i64 lo, .slice ac is.length kc, .slice ah hs.length kh]) (meth_ret _ _ w.heap.size _ _ _ _ _ _ _ _ _ rfl ((((((((HS.out.ms.out.set 0 _).set 1 _).set 2 _).set 3 _).set 4 _).set 5 _).set 6 _).set 7 _)) rfl ?_
        have hfin : Seen s (meth f) ⟨nm, ps, rt, so, lo, is, hs⟩ s11 := seen_meth S1.out S3.out S4.out S5.out S6.out S8.out S11.out
        refine hfin.ends (gb_eight HS.out.ms.grown (Nat.le_refl _)) ⟨_, rfl, _, _, _, rfl, ?_, ?_, ?_, fun _ _ => trivial⟩ ?_
        · exact own_base (World.ownsRow.kept HS.out.rp (gb_sets8 (g := w.heap.size)) (.inr (own_ne HS.out.rp (by omega)))) (by omega)
        · exact own_base (World.ownsRow.kept HS.out.rc (gb_sets8 (g := w.heap.size)) (.inr (own_ne HS.out.rc (by omega)))) (by omega)
        · exact own_base (World.ownsRow.kept HS.out.rh (gb_sets8 (g := w.heap.size)) (.inr (own_ne HS.out.rh (by omega)))) (by omega)
        · exact HS.out.ms.eye.keep (gb_sets8 (g := w.heap.size)) (by simp; omega) (.inr hpl)
      · go_loopw [9] (fun i wr => ∃ (k : Nat) (hs : List Hd) (s3 : Except Er St) (l : Value), i = .int .i64 k ∧ k ≤ n3 ∧ hs.length = k ∧ MidE f 1 (handler f) s8 n3 k hs s3 ∧ ML w b w.heap.size w1.heap.size f pv #[.string nm, .slice al ps.length kl, .int .i64 rt.kind, .string rt.name, .int .i64 so, .int .i64 lo, .slice ac is.length kc, l] ps is hs (.slice al ps.length kl) (.slice ac is.length kc) (l) s3 wr) (fun i _ => n3 - (intOf i).toNat)
        case atStart => exact ⟨0, [], s9, _, rfl, Nat.zero_le _, rfl, M9.out, HM9.out⟩
        case round =>
          clear M9 HM9
          obtain ⟨k, hs, s10, l, rfl, hk, hlen, hmid, hml⟩ := hrel
          have HM : Hid (MidE f 1 (handler f) s8 n3 k hs s10) := hmid
          have HS : Hid (ML w b w.heap.size w1.heap.size f pv #[.string nm, .slice al ps.length kl, .int .i64 rt.kind, .string rt.name, .int .i64 so, .int .i64 lo, .slice ac is.length kc, l] ps is hs (.slice al ps.length kl) (.slice ac is.length kc) (l) s10 wr) := hml
          have HL : Hid (hs.length = k) := hlen
          clear hmid hml hlen
          cases s10 with
          | error er =>
            obtain ⟨c4, ne4⟩ := HS.out.ms.eye.err
            go_wp2_with fail
            all_goals exact MeJ.of _ rfl ⟨hs, _, l, HM.out.err, HS.out⟩
          | ok st3 =>
            have c4 : wr.cell? ⟨b, 4, none⟩ = some (.int .i64 0) := HS.out.ms.eye.2.cells0.2.2.2.2.1
            by_cases hlt : k < n3
            · obtain ⟨i, hi, hz0, hz1, hz2⟩ := info_parts info_Hd
              have hn : n3 < 256 := by obtain ⟨st1, h1, -⟩ := HM.out; exact (bnd_num_ok h1).1
              have hll : hs.length < 65536 := by have := HL.out; omega
              have hx := HS.out.lies (Nat.le_refl _) HPL.out
              have HX : Hid _ := hx
              have hBL : w1.heap.size < wr.heap.size := hx.1
              clear hx
              go_wp2_with (first
                 | (go_at_call 23
                    have HA3 : Hid (ML w b w.heap.size w1.heap.size f pv #[.string nm, .slice al ps.length kl, .int .i64 rt.kind, .string rt.name, .int .i64 so, .int .i64 lo, .slice ac is.length kc, l] ps is hs (.slice al ps.length kl) (.slice ac is.length kc) (l) t3 (w12.setCell ⟨wr.heap.size, 2, none⟩ (.int .i64 z))) := HS12.out.beside (g := wr.heap.size) (gb_set _ ⟨wr.heap.size, 2, none⟩ _) (by omega) (by omega) (by omega) HX.out.2.1 HX.out.2.2.1 HX.out.2.2.2.1 HX.out.2.2.2.2 (by omega)
                    have HU3 : Hid (Blk (w12.setCell ⟨wr.heap.size, 2, none⟩ (.int .i64 z)) wr.heap.size #[.int .i64 x, .int .i64 y, .int .i64 z, .string ⟨#[]⟩] 52) := HT12.out.set 2 _
                    refine EyEnds.bind (ename_any _ b f pv t3 HA3.out.ms.eye) ?_
                    rintro d v w13 H13 rfl hs13 hg13
                    obtain ⟨t4, ht4⟩ : ∃ t4, t4 = stateOf (bnd t3 (name f)) := ⟨_, rfl⟩
                    have hs13a : EyS w13 b f pv t4 := by rw [ht4]; exact hs13.out
                    have Q4 : Hid (Seen t3 (name f) d t4) := ⟨H13.out, ht4.symm⟩
                    have HS13 : Hid (ML w b w.heap.size w1.heap.size f pv #[.string nm, .slice al ps.length kl, .int .i64 rt.kind, .string rt.name, .int .i64 so, .int .i64 lo, .slice ac is.length kc, l] ps is hs (.slice al ps.length kl) (.slice ac is.length kc) (l) t4 w13) := HA3.out.step hg13 hs13a hb1 hbG
                    have HT13 : Hid (Blk w13 wr.heap.size #[.int .i64 x, .int .i64 y, .int .i64 z, .string ⟨#[]⟩] 52) := HU3.out.keep hg13 (by simp; omega)
                    have e0 := HT13.out.cell 0 _ rfl
                    have e1 := HT13.out.cell 1 _ rfl
                    have e2 := HT13.out.cell 2 _ rfl
                    have e3 := HT13.out.cell 3 _ rfl
                    have y3 := HT13.out.frozen 3
                    have d1 := HS13.out.ms.me.cell 7 l rfl
                    have z1 := HS13.out.ms.me.frozen 7
                    have hlt3 : wr.heap.size < w13.heap.size := HT13.out.lt
                    have HA4 : Hid (ML w b w.heap.size w1.heap.size f pv #[.string nm, .slice al ps.length kl, .int .i64 rt.kind, .string rt.name, .int .i64 so, .int .i64 lo, .slice ac is.length kc, l] ps is hs (.slice al ps.length kl) (.slice ac is.length kc) (l) t4 (w13.setCell ⟨wr.heap.size, 3, none⟩ (.string d))) := HS13.out.beside (g := wr.heap.size) (gb_set _ ⟨wr.heap.size, 3, none⟩ _) (by omega) (by omega) (by omega) HX.out.2.1 HX.out.2.2.1 HX.out.2.2.2.1 HX.out.2.2.2.2 (by omega)
                    have NC : Hid (∀ j u, (encHd ⟨x, y, z, d⟩)[j]? = some u → ((w13.setCell ⟨wr.heap.size, 3, none⟩ (.string d)).alloc (.cells (encHd ⟨x, y, z, d⟩).toArray 52)).cell? ((⟨w13.heap.size, 0, none⟩ : Addr).add j) = some u) := by
                      have := new_cells (w13.setCell ⟨wr.heap.size, 3, none⟩ (.string d)) (encHd ⟨x, y, z, d⟩) 52
                      unfold Hid; simpa using this
                    clear hg13 hs13 hs13a ht4 H13 HA3 HU3
                    try dsimp only)
                 | (go_at_call 20
                    have HA2 : Hid (ML w b w.heap.size w1.heap.size f pv #[.string nm, .slice al ps.length kl, .int .i64 rt.kind, .string rt.name, .int .i64 so, .int .i64 lo, .slice ac is.length kc, l] ps is hs (.slice al ps.length kl) (.slice ac is.length kc) (l) t2 (w11.setCell ⟨wr.heap.size, 1, none⟩ (.int .i64 y))) := HS11.out.beside (g := wr.heap.size) (gb_set _ ⟨wr.heap.size, 1, none⟩ _) (by omega) (by omega) (by omega) HX.out.2.1 HX.out.2.2.1 HX.out.2.2.2.1 HX.out.2.2.2.2 (by omega)
                    have HU2 : Hid (Blk (w11.setCell ⟨wr.heap.size, 1, none⟩ (.int .i64 y)) wr.heap.size #[.int .i64 x, .int .i64 y, .int .i64 0, .string ⟨#[]⟩] 52) := HT11.out.set 1 _
                    refine EyEnds.bind (enumber_any _ b f pv t2 2 HA2.out.ms.eye (by omega)) ?_
                    rintro z v w12 H12 rfl hs12 hg12
                    obtain ⟨t3, ht3⟩ : ∃ t3, t3 = stateOf (bnd t2 (num f 2)) := ⟨_, rfl⟩
                    have hs12a : EyS w12 b f pv t3 := by rw [ht3]; exact hs12.out
                    have Q3 : Hid (Seen t2 (num f 2) z t3) := ⟨H12.out, ht3.symm⟩
                    have HS12 : Hid (ML w b w.heap.size w1.heap.size f pv #[.string nm, .slice al ps.length kl, .int .i64 rt.kind, .string rt.name, .int .i64 so, .int .i64 lo, .slice ac is.length kc, l] ps is hs (.slice al ps.length kl) (.slice ac is.length kc) (l) t3 w12) := HA2.out.step hg12 hs12a hb1 hbG
                    have HT12 : Hid (Blk w12 wr.heap.size #[.int .i64 x, .int .i64 y, .int .i64 0, .string ⟨#[]⟩] 52) := HU2.out.keep hg12 (by simp; omega)
                    have e2 := HT12.out.cell 2 _ rfl
                    have y2 := HT12.out.frozen 2
                    clear hg12 hs12 hs12a ht3 H12 HA2 HU2
                    try dsimp only)
                 | (go_at_call 20
                    have HA1 : Hid (ML w b w.heap.size w1.heap.size f pv #[.string nm, .slice al ps.length kl, .int .i64 rt.kind, .string rt.name, .int .i64 so, .int .i64 lo, .slice ac is.length kc, l] ps is hs (.slice al ps.length kl) (.slice ac is.length kc) (l) t1 (w10.setCell ⟨wr.heap.size, 0, none⟩ (.int .i64 x))) := HS10.out.beside (g := wr.heap.size) (gb_set _ ⟨wr.heap.size, 0, none⟩ _) (by omega) (by omega) (by omega) HX.out.2.1 HX.out.2.2.1 HX.out.2.2.2.1 HX.out.2.2.2.2 (by omega)
                    have HU1 : Hid (Blk (w10.setCell ⟨wr.heap.size, 0, none⟩ (.int .i64 x)) wr.heap.size #[.int .i64 x, .int .i64 0, .int .i64 0, .string ⟨#[]⟩] 52) := HT10.out.set 0 _
                    refine EyEnds.bind (enumber_any _ b f pv t1 2 HA1.out.ms.eye (by omega)) ?_
                    rintro y v w11 H11 rfl hs11 hg11
                    obtain ⟨t2, ht2⟩ : ∃ t2, t2 = stateOf (bnd t1 (num f 2)) := ⟨_, rfl⟩
                    have hs11a : EyS w11 b f pv t2 := by rw [ht2]; exact hs11.out
                    have Q2 : Hid (Seen t1 (num f 2) y t2) := ⟨H11.out, ht2.symm⟩
                    have HS11 : Hid (ML w b w.heap.size w1.heap.size f pv #[.string nm, .slice al ps.length kl, .int .i64 rt.kind, .string rt.name, .int .i64 so, .int .i64 lo, .slice ac is.length kc, l] ps is hs (.slice al ps.length kl) (.slice ac is.length kc) (l) t2 w11) := HA1.out.step hg11 hs11a hb1 hbG
                    have HT11 : Hid (Blk w11 wr.heap.size #[.int .i64 x, .int .i64 0, .int .i64 0, .string ⟨#[]⟩] 52) := HU1.out.keep hg11 (by simp; omega)
                    have e1 := HT11.out.cell 1 _ rfl
                    have y1 := HT11.out.frozen 1
                    clear hg11 hs11 hs11a ht2 H11 HA1 HU1
                    try dsimp only)
                 | (go_at_call 20
                    have HA0 : Hid (ML w b w.heap.size w1.heap.size f pv #[.string nm, .slice al ps.length kl, .int .i64 rt.kind, .string rt.name, .int .i64 so, .int .i64 lo, .slice ac is.length kc, l] ps is hs (.slice al ps.length kl) (.slice ac is.length kc) (l) (.ok st3) (wr.alloc (.cells #[.int .i64 0, .int .i64 0, .int .i64 0, .string ⟨#[]⟩] 52))) := HS.out.fresh (gb_alloc _ _ none)
                    have HU0 : Hid (Blk (wr.alloc (.cells #[.int .i64 0, .int .i64 0, .int .i64 0, .string ⟨#[]⟩] 52)) wr.heap.size #[.int .i64 0, .int .i64 0, .int .i64 0, .string ⟨#[]⟩] 52) := Blk.new _ _ _
                    refine EyEnds.bind (enumber_any _ b f pv (.ok st3) 2 HA0.out.ms.eye (by omega)) ?_
                    rintro x v w10 H10 rfl hs10 hg10
                    obtain ⟨t1, ht1⟩ : ∃ t1, t1 = stateOf (bnd (.ok st3) (num f 2)) := ⟨_, rfl⟩
                    have hs10a : EyS w10 b f pv t1 := by rw [ht1]; exact hs10.out
                    have Q1 : Hid (Seen (.ok st3) (num f 2) x t1) := ⟨H10.out, ht1.symm⟩
                    have HS10 : Hid (ML w b w.heap.size w1.heap.size f pv #[.string nm, .slice al ps.length kl, .int .i64 rt.kind, .string rt.name, .int .i64 so, .int .i64 lo, .slice ac is.length kc, l] ps is hs (.slice al ps.length kl) (.slice ac is.length kc) (l) t1 w10) := HA0.out.step hg10 hs10a hb1 hbG
                    have HT10 : Hid (Blk w10 wr.heap.size #[.int .i64 0, .int .i64 0, .int .i64 0, .string ⟨#[]⟩] 52) := HU0.out.keep hg10 (by simp; omega)
                    have e0 := HT10.out.cell 0 _ rfl
                    have y0 := HT10.out.frozen 0
                    clear hg10 hs10 hs10a ht1 H10 HA0 HU0
                    try dsimp only)
                 | (at_builtin
                    go_loud (refine wpList_append_own _ rfl _ _ 46 rfl (w1.heap.size + 1) 52 i _ 4 40 Tryd.underlying46 hi hz0 hz1 hz2 rfl (by decide) _ hs.length (hs.flatMap encHd) rfl (World.ownsRow.alloc HA4.out.rh _) ⟨w13.heap.size, 0, none⟩ 1 1 (encHd ⟨x, y, z, d⟩) rfl rfl NC.out (by simp [encHd, Value.oneCell']) (len_small rfl hll) (by omega) (by simp; omega) ?_)))
              intro v' w14 hown hgrow _
              obtain ⟨a5, k5, rfl⟩ := own_slice hown
              have hgA := gb_tr (gb_alloc (w13.setCell ⟨wr.heap.size, 3, none⟩ (.string d)) (.cells (encHd ⟨x, y, z, d⟩).toArray 52) _) hgrow
              have HO14 : Hid (IsRow (w1.heap.size + 1) 52 4 encHd w14 (.slice a5 (hs.length + 1) k5) (hs ++ [⟨x, y, z, d⟩])) := by
                unfold IsRow Hid
                rw [List.length_append, ← flat_snoc]
                exact hown
              have HS14 : Hid (ML w b w.heap.size w1.heap.size f pv #[.string nm, .slice al ps.length kl, .int .i64 rt.kind, .string rt.name, .int .i64 so, .int .i64 lo, .slice ac is.length kc, l] ps is (hs ++ [⟨x, y, z, d⟩]) (.slice al ps.length kl) (.slice ac is.length kc) (.slice a5 (hs.length + 1) k5) t4 w14) := HA4.out.turn hgA HO14.out hb1 hlt1 hle HPL.out
              have z1' : w14.frozen? ⟨w1.heap.size, 7, none⟩ = false := HS14.out.ms.me.frozen 7
              have d1' : w14.cell? ⟨w1.heap.size, 7, none⟩ = some l := HS14.out.ms.me.cell 7 l rfl
              clear hown hgrow hgA d1 z1 HA4 HO14 e0 e1 e2 e3 y0 y1 y2 y3
              go_wp2_with fail
              go_roundw
              case rel =>
                have hsn : (hs ++ [(⟨x, y, z, d⟩ : Hd)]).length = k + 1 := by have := HL.out; simp; omega
                exact ⟨k + 1, hs ++ [(⟨x, y, z, d⟩ : Hd)], t4, .slice a5 (hs.length + 1) k5, by go_num, hlt, hsn, MidE.step HM.out hlt (seen_handler Q1.out Q2.out Q3.out Q4.out), HS14.out.setB hbB hGB hpl1 hle 7 (.slice a5 (hs.length + 1) k5)⟩
              case measure => simp [intOf]; omega
            · go_wp2_with fail
              have hk' : k = n3 := by omega
              subst hk'
              exact MeJ.of _ rfl ⟨hs, _, l, MidE.done HM.out, HS.out⟩
    · go_loopw [7] (fun i wr => ∃ (k : Nat) (is : List In) (s3 : Except Er St) (l : Value), i = .int .i64 k ∧ k ≤ n2 ∧ is.length = k ∧ MidE f 2 (ins f) s6 n2 k is s3 ∧
        MS w b w.heap.size w1.heap.size f pv #[.string nm, .slice al ps.length kl, .int .i64 rt.kind, .string rt.name, .int .i64 so, .int .i64 lo, l, .slice none 0 0] s3 wr ∧ IsRow (w1.heap.size + 1) 50 4 encIn wr (l) is ∧ IsRow (w1.heap.size + 1) 41 2 encTy wr (.slice al ps.length kl) ps) (fun i _ => n2 - (intOf i).toNat)
      case atStart => exact ⟨0, [], s7, _, rfl, Nat.zero_le _, rfl, HM7'.out, HM7.out, World.ownsRow_nil _ _ _ _, HR7.out⟩
      case round =>
        clear HM7' HM7 HR7
        obtain ⟨k, is, s8, l, rfl, hk, hlen, hmid, hms, hrow, hrp⟩ := hrel
        have HM : Hid (MidE f 2 (ins f) s6 n2 k is s8) := hmid
        have HS : Hid (MS w b w.heap.size w1.heap.size f pv #[.string nm, .slice al ps.length kl, .int .i64 rt.kind, .string rt.name, .int .i64 so, .int .i64 lo, l, .slice none 0 0] s8 wr) := hms
        have HO : Hid (IsRow (w1.heap.size + 1) 50 4 encIn wr (l) is) := hrow
        have HP : Hid (IsRow (w1.heap.size + 1) 41 2 encTy wr (.slice al ps.length kl) ps) := hrp
        have HL : Hid (is.length = k) := hlen
        clear hmid hms hrow hlen hrp
        cases s8 with
        | error er =>
          obtain ⟨c4, ne4⟩ := HS.out.eye.err
          go_wp2_with fail
          all_goals exact MeJ.of _ rfl ⟨is, _, l, HM.out.err, HS.out, HO.out, HP.out⟩
        | ok st3 =>
          have c4 : wr.cell? ⟨b, 4, none⟩ = some (.int .i64 0) := HS.out.eye.2.cells0.2.2.2.2.1
          by_cases hlt : k < n2
          · obtain ⟨i, hi, hz0, hz1, hz2⟩ := info_parts info_In
            have hn : n2 < 65536 := by obtain ⟨st1, h1, -⟩ := HM.out; exact (bnd_num_ok h1).1
            have hne : l.ownBlock ≠ some b := own_ne HO.out (by omega)
            have hneB : l.ownBlock ≠ some w1.heap.size := own_ne HO.out (by omega)
            have hneG : l.ownBlock ≠ some w.heap.size := own_ne HO.out (by omega)
            have hll : is.length < 65536 := by have := HL.out; omega
            go_wp2_with (first
              | (go_at_call 34
                 refine EyEnds.bind (eins_any wr b f pv (.ok st3) HS.out.eye) ?_
                 rintro x v w8 H8 rfl hs8 hg8
                 have HS8 : Hid (MS w b w.heap.size w1.heap.size f pv #[.string nm, .slice al ps.length kl, .int .i64 rt.kind, .string rt.name, .int .i64 so, .int .i64 lo, l, .slice none 0 0] (stateOf (bnd (.ok st3) (ins f))) w8) := HS.out.step hg8 hs8.out hbB hbG
                 have HO8 : Hid (IsRow (w1.heap.size + 1) 50 4 encIn w8 (l) is) := row_keep HO.out hg8 (by omega)
                 have HP8 : Hid (IsRow (w1.heap.size + 1) 41 2 encTy w8 (.slice al ps.length kl) ps) := row_keep HP.out hg8 (by omega)
                 have d1 := HS8.out.me.cell 6 l rfl
                 have z1 := HS8.out.me.frozen 6
                 have hlt3 : w1.heap.size < w8.heap.size := HS8.out.me.lt
                 have NC : Hid (∀ j u, (encIn x)[j]? = some u → ((w8.alloc (.cells (encIn x).toArray 50)).alloc (.cells (encIn x).toArray 50)).cell? ((⟨w8.heap.size + 1, 0, none⟩ : Addr).add j) = some u) := by
                   have := new_cells (w8.alloc (.cells (encIn x).toArray 50)) (encIn x) 50
                   unfold Hid; simpa using this
                 clear hg8 hs8
                 try dsimp only)
              | (at_builtin
                 go_loud (refine wpList_append_own _ rfl _ _ 45 rfl (w1.heap.size + 1) 50 i _ 4 48 Tryd.underlying45 hi hz0 hz1 hz2 rfl (by decide) _ is.length (is.flatMap encIn) rfl ((World.ownsRow.alloc HO8.out _).alloc _) ⟨w8.heap.size + 1, 0, none⟩ 1 1 (encIn x) rfl rfl NC.out (by simp [encIn, Value.oneCell']) (len_small rfl hll) (by omega) (by simp; omega) ?_)))
            intro v' w9 hown hgrow _
            obtain ⟨a5, k5, rfl⟩ := own_slice hown
            have hgA := gb_tr (gb_tr (gb_alloc w8 (.cells (encIn x).toArray 50) _) (gb_alloc _ (.cells (encIn x).toArray 50) _)) hgrow
            have HS9 : Hid (MS w b w.heap.size w1.heap.size f pv #[.string nm, .slice al ps.length kl, .int .i64 rt.kind, .string rt.name, .int .i64 so, .int .i64 lo, l, .slice none 0 0] (stateOf (bnd (.ok st3) (ins f))) w9) :=
              ⟨HS8.out.eye.keep hgA (fun e => hne e.symm) (pool_apart HPL.out HO8.out (by omega)), HS8.out.me.keep hgA (fun e => hneB e.symm), HS8.out.out.keep hgA (fun e => hneG e.symm), gb_trans HS8.out.grown hgA (fun g hg => .inl (by have := (own_some HO8.out hg).1; omega))⟩
            have HO9 : Hid (IsRow (w1.heap.size + 1) 50 4 encIn w9 (.slice a5 (is.length + 1) k5) (is ++ [x])) := by
              unfold IsRow Hid
              rw [List.length_append, ← flat_snoc]
              exact hown
            have HP9 : Hid (IsRow (w1.heap.size + 1) 41 2 encTy w9 (.slice al ps.length kl) ps) := World.ownsRow.kept HP8.out hgA (own_kinds HP8.out HO8.out (by decide))
            have z1' : w9.frozen? ⟨w1.heap.size, 6, none⟩ = false := HS9.out.me.frozen 6
            have d1' : w9.cell? ⟨w1.heap.size, 6, none⟩ = some l := HS9.out.me.cell 6 l rfl
            clear hown hgrow hgA d1 z1 HS8 HO8 HP8
            go_wp2_with fail
            go_roundw
            case rel =>
              have hsn : (is ++ [x]).length = k + 1 := by have := HL.out; simp; omega
              exact ⟨k + 1, is ++ [x], _, _, by go_num, hlt, hsn, MidE.step HM.out hlt ⟨H8.out, rfl⟩, HS9.out.setB hbB hGB hpl1 hle 6 _, row_keep HO9.out (gb_set _ ⟨w1.heap.size, 6, none⟩ _) (Nat.lt_succ_self _), row_keep HP9.out (gb_set _ ⟨w1.heap.size, 6, none⟩ _) (Nat.lt_succ_self _)⟩
            case measure => simp [intOf]; omega
          · go_wp2_with fail
            have hk' : k = n2 := by omega
            subst hk'
            exact MeJ.of _ rfl ⟨is, _, l, MidE.done HM.out, HS.out, HO.out, HP.out⟩
  · go_loopw [5] (fun i wr => ∃ (k : Nat) (ps : List Ty) (s3 : Except Er St) (l : Value), i = .int .i64 k ∧ k ≤ n1 ∧ ps.length = k ∧ MidE f 1 (kind f) s1 n1 k ps s3 ∧
      MS w b w.heap.size w1.heap.size f pv #[.string nm, l, .int .i64 0, .string ⟨#[]⟩, .int .i64 0, .int .i64 0, .slice none 0 0, .slice none 0 0] s3 wr ∧ IsRow (w1.heap.size + 1) 41 2 encTy wr l ps) (fun i _ => n1 - (intOf i).toNat)
    case atStart => exact ⟨0, [], s2, _, rfl, Nat.zero_le _, rfl, M2.out, ⟨hs2.out, hB2.out, hG2.out, hg02.out⟩, World.ownsRow_nil _ _ _ _⟩
    case round =>
      clear hs2 hB2 hG2 M2
      obtain ⟨k, ps, s3, l, rfl, hk, hlen, hmid, hms, hrow⟩ := hrel
      have HM : Hid (MidE f 1 (kind f) s1 n1 k ps s3) := hmid
      have HE : Hid (EyS wr b f pv s3) := hms.eye
      have HB : Hid (Blk wr w1.heap.size #[.string nm, l, .int .i64 0, .string ⟨#[]⟩, .int .i64 0, .int .i64 0, .slice none 0 0, .slice none 0 0] 48) := hms.me
      have HG : Hid (Blk wr w.heap.size #[.string ⟨#[]⟩, .slice none 0 0, .int .i64 0, .string ⟨#[]⟩, .int .i64 0, .int .i64 0, .slice none 0 0, .slice none 0 0] 48) := hms.out
      have hgr : Hid (w.grownBy wr (some b)) := hms.grown
      have HO : Hid (IsRow (w1.heap.size + 1) 41 2 encTy wr l ps) := hrow
      have HL : Hid (ps.length = k) := hlen
      clear hmid hms hrow hlen
      cases s3 with
      | error er =>
        obtain ⟨c4, ne4⟩ := HE.out.err
        go_wp2_with fail
        all_goals exact MeJ.of _ rfl ⟨ps, _, l, HM.out.err, ⟨HE.out, HB.out, HG.out, hgr.out⟩, HO.out⟩
      | ok st3 =>
        have c4 : wr.cell? ⟨b, 4, none⟩ = some (.int .i64 0) := HE.out.2.cells0.2.2.2.2.1
        by_cases hlt : k < n1
        · obtain ⟨i, hi, hz0, hz1, hz2⟩ := info_parts info_Ty
          have hn : n1 < 256 := by obtain ⟨st1, h1, -⟩ := HM.out; exact (bnd_num_ok h1).1
          have hne : l.ownBlock ≠ some b := own_ne HO.out (by omega)
          have hneB : l.ownBlock ≠ some w1.heap.size := own_ne HO.out (by omega)
          have hneG : l.ownBlock ≠ some w.heap.size := own_ne HO.out (by omega)
          have hll : ps.length < 65536 := by have := HL.out; omega
          go_wp2_with (first
            | (go_at_call 24
               refine EyEnds.bind (ekind_any wr b f pv (.ok st3) HE) ?_
               rintro x v w3 H3 rfl hs4 hg4
               have hB4 := HB.out.keep hg4 (by simp; omega)
               have HB4 : Hid (Blk w3 w1.heap.size #[.string nm, l, .int .i64 0, .string ⟨#[]⟩, .int .i64 0, .int .i64 0, .slice none 0 0, .slice none 0 0] 48) := hB4
               have HG4 : Hid (Blk w3 w.heap.size #[.string ⟨#[]⟩, .slice none 0 0, .int .i64 0, .string ⟨#[]⟩, .int .i64 0, .int .i64 0, .slice none 0 0, .slice none 0 0] 48) := HG.out.keep hg4 (by simp; omega)
               have HO4 : Hid (IsRow (w1.heap.size + 1) 41 2 encTy w3 l ps) := World.ownsRow.kept HO.out hg4 (.inr hne)
               have d1 := hB4.cell 1 l rfl
               have z1 := hB4.frozen 1
               have hlt3 : w1.heap.size < w3.heap.size := hB4.lt
               have HG5 : Hid (w.grownBy w3 (some b)) := gb_tr hgr.out hg4
               have NC : Hid (∀ j u, (encTy x)[j]? = some u → ((w3.alloc (.cells (encTy x).toArray 41)).alloc (.cells (encTy x).toArray 41)).cell? ((⟨w3.heap.size + 1, 0, none⟩ : Addr).add j) = some u) := by
                 have := new_cells (w3.alloc (.cells (encTy x).toArray 41)) (encTy x) 41
                 unfold Hid; simpa using this
               clear hB4 hg4
               try dsimp only)
            | (at_builtin
               go_loud (refine wpList_append_own _ rfl _ _ 44 rfl (w1.heap.size + 1) 41 i _ 2 24 Tryd.underlying44 hi hz0 hz1 hz2 rfl (by decide) _ ps.length (ps.flatMap encTy) rfl ((World.ownsRow.alloc HO4.out _).alloc _) ⟨w3.heap.size + 1, 0, none⟩ 1 1 (encTy x) rfl rfl NC.out (by simp [encTy, Value.oneCell']) (len_small rfl hll) (by omega) (by simp; omega) ?_)))
          intro v' w4 hown hgrow _
          obtain ⟨a5, k5, rfl⟩ := own_slice hown
          have hgA := gb_tr (gb_tr (gb_alloc w3 (.cells (encTy x).toArray 41) _) (gb_alloc _ (.cells (encTy x).toArray 41) _)) hgrow
          have HB5 : Hid (Blk w4 w1.heap.size #[.string nm, l, .int .i64 0, .string ⟨#[]⟩, .int .i64 0, .int .i64 0, .slice none 0 0, .slice none 0 0] 48) := HB4.out.keep hgA (fun e => hneB e.symm)
          have HG6 : Hid (Blk w4 w.heap.size #[.string ⟨#[]⟩, .slice none 0 0, .int .i64 0, .string ⟨#[]⟩, .int .i64 0, .int .i64 0, .slice none 0 0, .slice none 0 0] 48) := HG4.out.keep hgA (fun e => hneG e.symm)
          have HE5 : Hid (EyS w4 b f pv (stateOf (bnd (.ok st3) (kind f)))) := hs4.out.keep hgA (fun e => hne e.symm) (pool_apart HPL.out HO4.out (by omega))
          have HO5 : Hid (IsRow (w1.heap.size + 1) 41 2 encTy w4 (.slice a5 (ps.length + 1) k5) (ps ++ [x])) := by
            unfold IsRow Hid
            rw [List.length_append, ← flat_snoc]
            exact hown
          have HG7 : Hid (w.grownBy w4 (some b)) := gb_trans HG5.out hgA (fun g hg => .inl (by have := (own_some HO4.out hg).1; omega))
          have z1' : w4.frozen? ⟨w1.heap.size, 1, none⟩ = false := HB5.out.frozen 1
          have d1' : w4.cell? ⟨w1.heap.size, 1, none⟩ = some l := HB5.out.cell 1 l rfl
          clear hown hgrow hgA d1 z1
          go_wp2_with fail
          go_roundw
          case rel =>
            have hsn : (ps ++ [x]).length = k + 1 := by have := HL.out; simp; omega
            refine ⟨k + 1, ps ++ [x], _, _, by go_num, hlt, hsn, MidE.step HM.out hlt ⟨H3.out, rfl⟩, ⟨HE5.out.keep (gb_set _ ⟨w1.heap.size, 1, none⟩ _) (by simp; omega) (.inr hpl1), HB5.out.set 1 _, HG6.out.keep (gb_set _ ⟨w1.heap.size, 1, none⟩ _) (by simp; omega), gb_newSet HG7.out (by omega) 1 _⟩, World.ownsRow.kept HO5.out (gb_set _ ⟨w1.heap.size, 1, none⟩ _) (.inr (own_ne HO5.out (Nat.lt_succ_self _)))⟩
          case measure => simp [intOf]; omega
        · go_wp2_with fail
          have hk' : k = n1 := by omega
          subst hk'
          exact MeJ.of _ rfl ⟨ps, _, l, MidE.done HM.out, ⟨HE.out, HB.out, HG.out, hgr.out⟩, HO.out⟩
end Go.Proofs.YtdhophglnhcjbaaDoor

namespace Go.Proofs.YtdhophglnhcjbaaDoor
open Go.RowKit Cf

theorem name_yes {s : ByteArray} {k : Nat} (hk : k < s.size) {a : Nat} (ha : (s[k]'hk).toNat = a) (h : 97 ≤ a ∧ a ≤ 122 ∨ 65 ≤ a ∧ a ≤ 90 ∨ 48 ≤ a ∧ a ≤ 57) : nameByte s.data[k] = true := by
  rw [nameByte_eq, decide_eq_true_eq]
  have e : s.data[k].toNat = a := ha
  rw [e]
  exact h
theorem name_no {s : ByteArray} {k : Nat} (hk : k < s.size) {a : Nat} (ha : (s[k]'hk).toNat = a) (h : ¬ (97 ≤ a ∧ a ≤ 122 ∨ 65 ≤ a ∧ a ≤ 90 ∨ 48 ≤ a ∧ a ≤ 57)) : nameByte s.data[k] = false := by
  rw [nameByte_eq, decide_eq_false_iff_not]
  have e : s.data[k].toNat = a := ha
  rw [e]
  exact h

set_option maxHeartbeats 400000 in
theorem eisName_any (s : ByteArray) (w : World) (hs : s.size ≤ 2048) :
    Calls Tryd.prog 28 #[.string s] w fun e w' => e = .returned (.bool (isName s)) ∧ w = w' := by
  go_enter Tryd.func28, Tryd.ntmps28
  go_wp2_with fail
  go_loop [3] (fun i => ∃ k : Nat, k ≤ s.size ∧ i = .int .i64 k ∧ Hid (∀ j (hj : j < s.size), j < k → nameByte s.data[j] = true)) (fun i => s.size - (intOf i).toNat)
  case atStart => exact ⟨0, by omega, rfl, fun j hj h => by omega⟩
  case round =>
    obtain ⟨k, hk, rfl, hall⟩ := hrel
    by_cases hlt : k < s.size
    · obtain ⟨a, ha⟩ : ∃ a, (s[k]'hlt).toNat = a := ⟨_, rfl⟩
      have HA : Hid ((s[k]'hlt).toNat = a) := ha
      have hkey : Hid ((97 ≤ a ∧ a ≤ 122 ∨ 65 ≤ a ∧ a ≤ 90 ∨ 48 ≤ a ∧ a ≤ 57) → ∀ j (hj : j < s.size), j < k + 1 → nameByte s.data[j] = true) := by
        intro h j hj hk
        by_cases e : j = k
        · subst e; exact name_yes _ HA.out h
        · exact hall.out j hj (by omega)
      have hend : Hid (s.size - (intOf (Value.int IntKind.i64 ((k : Int) + 1))).toNat < s.size - (intOf (Value.int IntKind.i64 (k : Int))).toNat) := by unfold Hid; simp [intOf]; omega
      by_cases hyes : 97 ≤ a ∧ a ≤ 122 ∨ 65 ≤ a ∧ a ≤ 90 ∨ 48 ≤ a ∧ a ≤ 57
      · have HY : Hid (97 ≤ a ∧ a ≤ 122 ∨ 65 ≤ a ∧ a ≤ 90 ∨ 48 ≤ a ∧ a ≤ 57) := hyes
        clear hyes
        go_wp2_with fail
        all_goals first
          | exact ⟨⟨k + 1, hlt, by go_num, hkey.out HY.out⟩, hend.out⟩
          | (exfalso; have := HY.out; try simp only [Bool.not_eq_true', decide_eq_false_iff_not] at *
             omega)
      · have HN : Hid (¬ (97 ≤ a ∧ a ≤ 122 ∨ 65 ≤ a ∧ a ≤ 90 ∨ 48 ≤ a ∧ a ≤ 57)) := hyes
        clear hyes
        go_wp2_with fail
        all_goals first
          | (go_ret; exact ⟨by rw [isName_not k hlt (name_no _ HA.out HN.out)]; rfl, rfl⟩)
          | (exfalso; have := HN.out; try simp only [Bool.not_eq_false', decide_eq_true_eq] at *
             omega)
    · go_wp2_with fail
      all_goals
        go_ret
        refine ⟨congrArg (fun x => Ending.returned (.bool x)) ?_, rfl⟩
        have hA : s.data.toList.all nameByte = true := by
          simp only [List.all_eq_true]
          intro c hc
          obtain ⟨j, hj, rfl⟩ := List.getElem_of_mem hc
          exact hall.out j (by simpa using hj) (by simp at hj; have : s.data.size = s.size := rfl; omega)
        simp only [isName, hA, Bool.and_true]
        by_cases q1 : 1 ≤ s.size <;> by_cases q2 : s.size ≤ 12 <;> simp [q1, q2] <;> omega
end Go.Proofs.YtdhophglnhcjbaaDoor

namespace Go.Proofs.YtdhophglnhcjbaaDoor
open Go.RowKit Cf

/-- how the call ends that fills the eye's pool -/
def EPool (w : World) (b : Nat) (f : ByteArray) (r : R (List Unit)) (e : Ending) (w' : World) : Prop :=
  e = .returned (.tuple #[]) ∧ w.grownBy w' (some b) ∧ ∃ pv, EyS w' b f pv (stateOf r)
/-- the names so far -/
def NamesAt (w wr : World) (pv : Value) (k : Nat) (s : Except Er St) : Prop := ∀ st, s = .ok st → st.pool.length = k ∧ wr.ownsRow w.heap.size 9 1 pv st.pool.length (st.pool.map Value.string)

theorem take_step {l : List ByteArray} {j : Nat} (hj : j < l.length) {o0 : Bool} {nm : ByteArray} : (o0 && !(l.take (j + 1)).contains nm) = ((o0 && !(l.take j).contains nm) && !(l[j].toList == nm.toList)) := by
  haveI := lawfulBytes
  rw [List.take_succ_eq_append_getElem hj, Bool.eq_iff_iff]
  have : (l[j].toList == nm.toList) = true ↔ l[j] = nm := ⟨bytes_eq, fun e => by rw [e]; simp⟩
  simp only [Bool.and_eq_true, Bool.not_eq_true', ← Bool.not_eq_true, List.contains_iff_mem, List.mem_append, List.mem_singleton, this, eq_comm (a := nm)]
  rw [not_or, and_assoc]

/-- the names' slice turns -/
theorem Ey.setNames {w w1 w2 : World} {b base : Nat} {f : ByteArray} {pv pv' : Value} {a e p : Nat} {names l : List ByteArray} {t : Int} {row : Option Nat} (h : Ey w b f pv a names t e p) (h1 : w.grownBy w1 none) (h2 : w1.grownBy w2 row) (hr : row ≠ some b)
    (ho : w2.ownsRow base 9 1 pv' l.length (l.map Value.string)) (hb : b < base) (hl : l.length ≤ 255) : Ey (w2.setCell ⟨b, 2, none⟩ pv') b f pv' a l t e p :=
  ⟨((h.blk.keep h1 (by simp)).keep h2 (fun e => hr e.symm)).set 2 _, (own_base ho (by omega)).kept (gb_set w2 ⟨b, 2, none⟩ pv') (.inr (own_ne ho hb)), h.fits, h.at_, hl, h.lo, h.hi⟩

set_option maxRecDepth 100000 in
set_option maxHeartbeats 1000000 in
theorem epool_any (w : World) (b : Nat) (f : ByteArray) (st : St) (h : Hid (EyS w b f (.slice none 0 0) (.ok st))) (h0 : st.pool = []) :
    Calls Tryd.prog 22 #[.pointer (some ⟨b, 0, none⟩)] w (EPool w b f (list f 1 (pushName f) st)) := by
  have hbl : b < w.heap.size := h.out.lt
  have H0 : Hid (st.pool = []) := h0
  clear h0
  go_enter Tryd.func22, Tryd.ntmps22
  go_wp2_with (go_at_call 20; refine EyEnds.bind (enumber_any w b f _ (.ok st) 1 h (by omega)) ?_)
  rintro n v w1 H1 rfl hs1 hg1
  have M1 : Hid (MidE f 1 (pushName f) (.ok st) n 0 [] (stateOf (bnd (.ok st) (num f 1)))) := MidE.start H1.out
  have HG1 : Hid (w.grownBy w1 (some b)) := hg1
  have HN : Hid (NamesAt w w1 (.slice none 0 0) 0 (stateOf (bnd (.ok st) (num f 1)))) := by
    intro st1 e
    have hp : st1.pool = [] := by
      cases hr : num f 1 st with
      | error er => rw [show bnd (Except.ok st) (num f 1) = .error er from hr] at e; cases e
      | ok q =>
        obtain ⟨a, st2⟩ := q
        rw [show bnd (Except.ok st) (num f 1) = .ok (a, st2) from hr] at e
        cases e
        rw [(num_lt hr).1]
        exact H0.out
    rw [hp]
    exact ⟨rfl, World.ownsRow_nil _ _ _ _⟩
  obtain ⟨s1, hs1e⟩ : ∃ s1, s1 = stateOf (bnd (.ok st) (num f 1)) := ⟨_, rfl⟩
  rw [← hs1e] at hs1 M1 HN
  clear hs1e hg1 H1
  go_wp2_with fail
  go_loopw [3] (fun i wr => ∃ (k : Nat) (xs : List Unit) (s2 : Except Er St) (pv : Value), i = .int .i64 k ∧ k ≤ n ∧ MidE f 1 (pushName f) (.ok st) n k xs s2 ∧ EyS wr b f pv s2 ∧ NamesAt w wr pv k s2 ∧ w.grownBy wr (some b)) (fun i _ => n - (intOf i).toNat)
  case atStart => exact ⟨0, [], s1, _, rfl, Nat.zero_le _, M1.out, hs1.out, HN.out, HG1.out⟩
  case round =>
    clear hs1 M1 HN HG1
    obtain ⟨k, xs, s2, pv, rfl, hk, hmid, hey, hna, hgr⟩ := hrel
    have HM : Hid (MidE f 1 (pushName f) (.ok st) n k xs s2) := hmid
    have HE : Hid (EyS wr b f pv s2) := hey
    have HN : Hid (NamesAt w wr pv k s2) := hna
    have HG : Hid (w.grownBy wr (some b)) := hgr
    clear hmid hey hna hgr
    cases s2 with
    | error er =>
      obtain ⟨c4, ne4⟩ := HE.out.err
      go_wp2_with fail
      all_goals
        go_end0
        exact ⟨rfl, HG.out, pv, by rw [show list f 1 (pushName f) st = .error er from HM.out]; exact HE.out⟩
    | ok st2 =>
      obtain ⟨-, c1, -, -, c4, -, -, -, -, -, -⟩ := HE.out.2.cells0
      by_cases hlt : k < n
      · have hn : n < 256 := by obtain ⟨st1, h1, -⟩ := HM.out; exact (bnd_num_ok h1).1
        go_wp2_with (go_at_call 20; refine EyEnds.bind (enumber_any wr b f pv (.ok st2) 1 HE (by omega)) ?_)
        rintro m v w3 H3 rfl hs3 hg3
        try dsimp only
        have HG3 : Hid (w.grownBy w3 (some b)) := gb_tr HG.out hg3
        have HN3 : Hid (NamesAt w w3 pv k (.ok st2)) := by
          intro st' e
          obtain ⟨h1, h2⟩ := HN.out st' e
          exact ⟨h1, World.ownsRow.kept h2 hg3 (.inr (own_ne h2 hbl))⟩
        clear hg3 c1 c4 HG HN HE
        cases hr : num f 1 st2 with
        | error er =>
          have HS3 : Hid (EyS w3 b f pv (.error er)) := by
            have := hs3.out
            rw [show bnd (Except.ok st2) (num f 1) = .error er from hr] at this
            exact this
          have HME : Hid (MidE f 1 (pushName f) (.ok st) n (k + 1) (xs ++ [()]) (.error er)) := HM.out.step hlt (by
            have e : bnd (Except.ok st2) (pushName f) = .error er := push_e (by simp only [newName, hr])
            unfold Seen
            rw [e]
            exact ⟨(fun _ _ e => by cases e), rfl⟩)
          clear hr hs3 H3
          obtain ⟨c4, ne4⟩ := HS3.out.err
          obtain ⟨c1, c0⟩ : (∃ a : Nat, w3.cell? ⟨b, 1, none⟩ = some (.int .i64 a)) ∧ w3.cell? ⟨b, 0, none⟩ = some (.string f) := by
            obtain ⟨h1, a, names, t, h2⟩ := HS3.out
            exact ⟨⟨a, h2.cells.2.1⟩, h2.cells.1⟩
          obtain ⟨a1, c1⟩ := c1
          have ne5 : ((er.1 : Int) == 0) = false := by simpa using ne4
          go_wp2_with fail
          go_quiet (fail)
          have HS3' : Hid (EyS (w3.drewN nq) b f pv (.error er)) := HS3.out.keep0 (gb_drewN _ _ _)
          go_wp2_with fail
          all_goals
            go_end0
            exact ⟨rfl, gb_tr HG3.out (gb_drewN _ _ _), pv, by rw [show list f 1 (pushName f) st = .error er from HME.out]; exact HS3'.out⟩
        | ok q =>
          obtain ⟨m', st3⟩ := q
          have hm : m' = m := H3.out m' st3 hr
          subst hm
          have HR : Hid (num f 1 st2 = .ok (m', st3)) := hr
          have HS3 : Hid (EyS w3 b f pv (.ok st3)) := by
            have := hs3.out
            rw [show bnd (Except.ok st2) (num f 1) = .ok (m', st3) from hr] at this
            exact this
          have hm256 : m' < 256 := (num_lt hr).2
          have hp23 : Hid (st3.pool = st2.pool) := by unfold Hid; rw [(num_lt hr).1]
          have hat : st3.at_ ≤ f.size := HS3.out.1.at_
          have hfz : f.size ≤ 2048 := HS3.out.1.fits
          clear hr hs3 H3
          obtain ⟨c0, c1, c2, -, c4, -, f1, f2, -, -, -⟩ := HS3.out.2.cells0
          by_cases hfit : st3.at_ + m' ≤ f.size
          · go_wp2_with fail
            go_quiet (fail)
            have HS4 : Hid (EyS (w3.drewN nq) b f pv (.ok st3)) := HS3.out.keep0 (gb_drewN _ _ _)
            have HG4 : Hid (w.grownBy (w3.drewN nq) (some b)) := gb_tr HG3.out (gb_drewN _ _ _)
            have HN4 : Hid (NamesAt w (w3.drewN nq) pv k (.ok st2)) := fun st' e => ⟨(HN3.out st' e).1, World.ownsRow.kept (HN3.out st' e).2 (gb_drewN _ _ none) (by cases pv.ownBlock <;> simp)⟩
            generalize w3.drewN nq = w4 at HS4 HG4 HN4 ⊢
            clear HS3 HG3 HN3 c0 c1 c2 c4 f1 f2
            obtain ⟨c0, c1, c2, -, c4, -, f1, f2, -, -, -⟩ := HS4.out.2.cells0
            go_wp2_with fail
            go_quiet (fail)
            have HS5 : Hid (EyS (w4.drewN nq) b f pv (.ok st3)) := HS4.out.keep0 (gb_drewN _ _ _)
            have HG5 : Hid (w.grownBy (w4.drewN nq) (some b)) := gb_tr HG4.out (gb_drewN _ _ _)
            have HN5 : Hid (NamesAt w (w4.drewN nq) pv k (.ok st2)) := fun st' e => ⟨(HN4.out st' e).1, World.ownsRow.kept (HN4.out st' e).2 (gb_drewN _ _ none) (by cases pv.ownBlock <;> simp)⟩
            generalize w4.drewN nq = w5 at HS5 HG5 HN5 ⊢
            clear HS4 HG4 HN4 c0 c1 c2 c4 f1 f2
            obtain ⟨c0, c1, c2, -, c4, -, f1, f2, -, -, -⟩ := HS5.out.2.cells0
            obtain ⟨nm, hnm⟩ : ∃ nm, nm = f.extract st3.at_ (st3.at_ + m') := ⟨_, rfl⟩
            rw [← hnm]
            have HNM : Hid (nm = f.extract st3.at_ (st3.at_ + m')) := hnm
            have hnl : nm.size ≤ 2048 := by rw [hnm]; simp; omega
            clear hnm
            go_wp2_with (go_at_call 28; refine (eisName_any nm _ hnl).mono ?_)
            rintro e w6 ⟨rfl, hw6⟩
            try dsimp only
            rw [show ((st3.at_ : Int) + (m' : Int)) = ((st3.at_ + m' : Nat) : Int) by omega] at hw6
            have HS6 : Hid (EyS w6 b f pv (.ok { st3 with at_ := st3.at_ + m' })) := by
              rw [← hw6]
              exact ⟨⟨HS5.out.1.fits, hfit, HS5.out.1.used, HS5.out.1.pool⟩, HS5.out.2.setAt _ hfit⟩
            have HG6 : Hid (w.grownBy w6 (some b)) := by rw [← hw6]; exact gb_tr HG5.out (gb_set _ ⟨b, 1, none⟩ _)
            have HL : Hid (st2.pool.length = k) := (HN5.out st2 rfl).1
            have HO6 : Hid (w6.ownsRow w.heap.size 9 1 pv st2.pool.length (st2.pool.map Value.string)) := by
              rw [← hw6]
              have := (HN5.out st2 rfl).2
              exact this.kept (gb_set _ ⟨b, 1, none⟩ _) (.inr (own_ne this hbl))
            clear HS5 HG5 HN5 hw6 c0 c1 c2 c4 f1 f2
            obtain ⟨-, -, c2, -, -, -, -, f2, -, -, -⟩ := HS6.out.2.cells0
            obtain ⟨a0, k0, rfl⟩ := own_slice HO6.out
            have HC : Hid (∀ j, j < st2.pool.length → ∃ g, a0 = some ⟨g, 0, none⟩ ∧ w6.cell? ⟨g, j, none⟩ = some (.string (st2.pool.getD j ByteArray.empty))) := by
              intro j hj
              rcases own_strs HO6.out with ⟨-, h2⟩ | ⟨g, cap, h1, -, hc⟩
              · rw [h2] at hj; cases hj
              · exact ⟨g, by injection h1, hc j hj⟩
            have hlb : st2.pool.length < 256 := by have := HL.out; omega
            obtain ⟨o0, ho0⟩ : ∃ o0, o0 = isName nm := ⟨_, rfl⟩
            rw [← ho0]
            have HO0 : Hid (o0 = isName nm) := ho0
            clear ho0
            go_wp2_with fail
            go_loopw [7, 8] (fun o i wr => ∃ j : Nat, j ≤ st2.pool.length ∧ i = .int .i64 j ∧ o = .bool (o0 && !(st2.pool.take j).contains nm) ∧ w6.grownBy wr none) (fun _ i _ => st2.pool.length - (intOf i).toNat)
            case atStart => exact ⟨0, Nat.zero_le _, rfl, by simp, gb_refl _ _⟩
            case round =>
              obtain ⟨j, hj, rfl, rfl, hgw⟩ := hrel
              have HW : Hid (w6.grownBy wr none) := hgw
              have HS7 : Hid (EyS wr b f (.slice a0 st2.pool.length k0) (.ok { st3 with at_ := st3.at_ + m' })) := HS6.out.keep0 hgw
              have HO7 : Hid (wr.ownsRow w.heap.size 9 1 (.slice a0 st2.pool.length k0) st2.pool.length (st2.pool.map Value.string)) := World.ownsRow.kept HO6.out hgw (by cases (Value.slice a0 st2.pool.length k0).ownBlock <;> simp)
              clear hgw c2 f2
              obtain ⟨-, -, c2, -, -, -, -, f2, -, -, -⟩ := HS7.out.2.cells0
              by_cases hjl : j < st2.pool.length
              · obtain ⟨g, rfl, -⟩ := HC.out j hjl
                have hcj : wr.cell? ⟨g, j, none⟩ = some (.string (st2.pool.getD j ByteArray.empty)) := by
                  rcases own_strs HO7.out with ⟨h2, -⟩ | ⟨g', cap, h1, -, hc⟩
                  · cases h2
                  · cases h1; exact hc j hjl
                obtain ⟨o1, ho1⟩ : ∃ o1, o1 = (o0 && !(st2.pool.take j).contains nm) := ⟨_, rfl⟩
                rw [← ho1]
                have HO1 : Hid (o1 = (o0 && !(st2.pool.take j).contains nm)) := ho1
                clear ho1
                cases o1
                · go_wp2_with fail
                  exact ⟨⟨j + 1, hjl, by go_num, by rw [take_step hjl, ← HO1.out]; rfl, HW.out⟩, by simp [intOf]; omega⟩
                · go_wp2_with fail
                  exact ⟨⟨j + 1, hjl, by go_num, by rw [take_step hjl, ← HO1.out]; rfl, HW.out⟩, by simp [intOf]; omega⟩
              · have hje : j = st2.pool.length := by omega
                obtain ⟨o1, ho1⟩ : ∃ o1, o1 = (o0 && !(st2.pool.take j).contains nm) := ⟨_, rfl⟩
                rw [← ho1]
                have HO1 : Hid (o1 = (isName nm && !st2.pool.contains nm)) := by
                  unfold Hid
                  rw [ho1, hje, List.take_length, HO0.out]
                clear ho1 hje
                obtain ⟨i, hi, hz0, hz1, hz2⟩ := info_parts info_Str
                have hne : (Value.slice a0 st2.pool.length k0).ownBlock ≠ some b := own_ne HO7.out hbl
                have hbr : b < wr.heap.size := HS7.out.lt
                have hwr : Hid (w.grownBy wr (some b)) := gb_tn HG6.out HW.out
                have hsw : w.heap.size ≤ wr.heap.size := hwr.out.size
                cases o1
                · go_wp2_with (first
                    | (go_at_call 21
                       refine (fail_any _ b f _ _ 4 st2.at_ HS7 (by omega)).mono ?_
                       rintro e w7 ⟨rfl, hg7, hs7⟩
                       have HO8 : Hid (w7.ownsRow w.heap.size 9 1 (.slice a0 st2.pool.length k0) st2.pool.length (st2.pool.map Value.string)) := World.ownsRow.kept HO7.out hg7 (.inr hne)
                       have HG7 : Hid (w.grownBy w7 (some b)) := gb_tr hwr.out hg7
                       have HE7 : Hid (∃ a names t, Ey w7 b f (.slice a0 st2.pool.length k0) a names t (4 : Nat) st2.at_) := hs7.2
                       have hb7 : b < w7.heap.size := EyS.lt hs7
                       have hs7w : w.heap.size ≤ w7.heap.size := HG7.out.size
                       have d2 : w7.cell? ⟨b, 2, none⟩ = some (.slice a0 st2.pool.length k0) := by obtain ⟨a, names, t, hE⟩ := hs7.2; exact hE.cells.2.2.1
                       have e2 : w7.frozen? ⟨b, 2, none⟩ = false := by obtain ⟨a, names, t, hE⟩ := hs7.2; exact hE.blk.frozen 2
                       clear hs7 hg7
                       try dsimp only)
                    | (at_builtin
                       go_loud (refine wpList_append_own _ rfl _ _ 54 rfl w.heap.size 9 i _ 1 16 Tryd.underlying54 hi hz0 hz1 hz2 rfl (by decide) _ st2.pool.length (st2.pool.map Value.string) rfl (World.ownsRow.alloc HO8.out _) ⟨w7.heap.size, 0, none⟩ 1 1 [.string nm] rfl rfl (new_cells w7 [.string nm] 9) (by simp [Value.oneCell']) (len_small rfl (by omega)) (by omega) (by simp; omega) ?_)))
                  intro v' w8 hown hgrow _
                  obtain ⟨a5, k5, rfl⟩ := own_slice hown
                  have hgA := gb_tr (gb_alloc w7 (.cells #[.string nm] 9) _) hgrow
                  have hown' : w8.ownsRow w.heap.size 9 1 (.slice a5 (st2.pool.length + 1) k5) (st2.pool ++ [nm]).length ((st2.pool ++ [nm]).map Value.string) := by
                    simpa using hown
                  have hl255 : (st2.pool ++ [nm]).length ≤ 255 := by have := HL.out; simp; omega
                  have HS8 : Hid (EyS (w8.setCell ⟨b, 2, none⟩ (.slice a5 (st2.pool.length + 1) k5)) b f (.slice a5 (st2.pool.length + 1) k5) (.error (4, st2.at_))) := by
                    obtain ⟨a, names, t, hE⟩ := HE7.out
                    exact ⟨by simp, a, _, t, hE.setNames (gb_alloc _ _ _) hgrow hne hown' hbl hl255⟩
                  have HG8 : Hid (w.grownBy w8 (some b)) := gb_trans HG7.out hgA (fun g hg => .inl (own_some HO8.out hg).1)
                  have HN8 : Hid (NamesAt w (w8.setCell ⟨b, 2, none⟩ (.slice a5 (st2.pool.length + 1) k5)) (.slice a5 (st2.pool.length + 1) k5) (k + 1) (.error (4, st2.at_))) := fun st' e => by cases e
                  have HM8 : Hid (MidE f 1 (pushName f) (.ok st) n (k + 1) (xs ++ [()]) (.error (4, st2.at_))) := HM.out.step hlt (by
                    have e : bnd (Except.ok st2) (pushName f) = .error (4, st2.at_) := push_e (by simp only [newName, HR.out, hfit, if_true, ← HNM.out, ← HO1.out, Bool.false_eq_true, if_false])
                    unfold Seen
                    rw [e]
                    exact ⟨(fun _ _ e => by cases e), rfl⟩)
                  have c2' : w8.cell? ⟨b, 2, none⟩ = some (.slice a0 st2.pool.length k0) := (hgA.cell_far ⟨b, 2, none⟩ (by simp; omega) (fun e => hne e.symm)).trans d2
                  have f2' : w8.frozen? ⟨b, 2, none⟩ = false := (hgA.frozen_far ⟨b, 2, none⟩ (by simp; omega) (fun e => hne e.symm)).trans e2
                  clear hown hown' hgrow hgA c2 f2 hl255 d2 e2
                  go_wp2_with fail
                  go_roundw
                  case rel => exact ⟨k + 1, xs ++ [()], _, _, by go_num, hlt, HM8.out, HS8.out, HN8.out, gb_tr HG8.out (gb_set _ ⟨b, 2, none⟩ _)⟩
                  case measure => simp [intOf]; omega
                · go_wp2_with (at_builtin; go_loud (refine wpList_append_own _ rfl _ _ 54 rfl w.heap.size 9 i _ 1 16 Tryd.underlying54 hi hz0 hz1 hz2 rfl (by decide) _ st2.pool.length (st2.pool.map Value.string) rfl (World.ownsRow.alloc HO7.out _) ⟨wr.heap.size, 0, none⟩ 1 1 [.string nm] rfl rfl (new_cells wr [.string nm] 9) (by simp [Value.oneCell']) (len_small rfl (by omega)) (by omega) (by simp; omega) ?_))
                  intro v' w8 hown hgrow _
                  obtain ⟨a5, k5, rfl⟩ := own_slice hown
                  have hgA := gb_tr (gb_alloc wr (.cells #[.string nm] 9) _) hgrow
                  have hown' : w8.ownsRow w.heap.size 9 1 (.slice a5 (st2.pool.length + 1) k5) (st3.pool ++ [nm]).length ((st3.pool ++ [nm]).map Value.string) := by
                    rw [hp23.out]
                    simpa using hown
                  have hpl : st3.pool.length = k := by rw [hp23.out]; exact HL.out
                  have hl255 : (st3.pool ++ [nm]).length ≤ 255 := by rw [hp23.out]; have := HL.out; simp; omega
                  have HS8 : Hid (EyS (w8.setCell ⟨b, 2, none⟩ (.slice a5 (st2.pool.length + 1) k5)) b f (.slice a5 (st2.pool.length + 1) k5) (.ok { st3 with at_ := st3.at_ + m', pool := st3.pool ++ [nm] })) :=
                    ⟨⟨HS7.out.1.fits, hfit, by have : st3.used ≤ st3.pool.length := HS7.out.1.used; simp; omega, by simp; omega⟩, HS7.out.2.setNames (gb_alloc _ _ _) hgrow hne hown' hbl hl255⟩
                  have HG8 : Hid (w.grownBy w8 (some b)) := gb_trans hwr.out hgA (fun g hg => .inl (own_some HO7.out hg).1)
                  have HN8 : Hid (NamesAt w (w8.setCell ⟨b, 2, none⟩ (.slice a5 (st2.pool.length + 1) k5)) (.slice a5 (st2.pool.length + 1) k5) (k + 1) (.ok { st3 with at_ := st3.at_ + m', pool := st3.pool ++ [nm] })) := by
                    intro st' e
                    cases e
                    exact ⟨by simp; omega, hown'.kept (gb_set w8 ⟨b, 2, none⟩ _) (.inr (own_ne hown' hbl))⟩
                  have HM8 : Hid (MidE f 1 (pushName f) (.ok st) n (k + 1) (xs ++ [()]) (.ok { st3 with at_ := st3.at_ + m', pool := st3.pool ++ [nm] })) := HM.out.step hlt (by
                    have e : bnd (Except.ok st2) (pushName f) = .ok ((), { st3 with at_ := st3.at_ + m', pool := st3.pool ++ [nm] }) := push_ok (st1 := { st3 with at_ := st3.at_ + m' }) (by simp only [newName, HR.out, hfit, if_true, ← HNM.out, ← HO1.out])
                    unfold Seen
                    rw [e]
                    exact ⟨(fun _ _ e => by cases e; rfl), rfl⟩)
                  have c2' : w8.cell? ⟨b, 2, none⟩ = some (.slice a0 st2.pool.length k0) := (hgA.cell_far ⟨b, 2, none⟩ (by simp; omega) (fun e => hne e.symm)).trans c2
                  have f2' : w8.frozen? ⟨b, 2, none⟩ = false := (hgA.frozen_far ⟨b, 2, none⟩ (by simp; omega) (fun e => hne e.symm)).trans f2
                  clear hown hown' hgrow hgA c2 f2 hl255 hpl
                  go_wp2_with fail
                  go_roundw
                  case rel => exact ⟨k + 1, xs ++ [()], _, _, by go_num, hlt, HM8.out, HS8.out, HN8.out, gb_tr HG8.out (gb_set _ ⟨b, 2, none⟩ _)⟩
                  case measure => simp [intOf]; omega
          · go_wp2_with fail
            go_quiet (fail)
            have HS4 : Hid (EyS (w3.drewN nq) b f pv (.ok st3)) := HS3.out.keep0 (gb_drewN _ _ _)
            go_wp2_with (go_at_call 21; refine (fail_any _ b f pv _ 2 f.size HS4 (by omega)).mono ?_)
            rintro e w4 ⟨rfl, hg4, hs4⟩
            try dsimp only
            have HS5 : Hid (EyS w4 b f pv (.error (2, f.size))) := hs4
            have HG5 : Hid (w.grownBy w4 (some b)) := gb_tr (gb_tr HG3.out (gb_drewN _ _ _)) hg4
            have HME : Hid (MidE f 1 (pushName f) (.ok st) n (k + 1) (xs ++ [()]) (.error (2, f.size))) := HM.out.step hlt (by
              have e : bnd (Except.ok st2) (pushName f) = .error (2, f.size) := push_e (by simp only [newName, HR.out, hfit, if_false])
              unfold Seen
              rw [e]
              exact ⟨(fun _ _ e => by cases e), rfl⟩)
            obtain ⟨c4', -⟩ := hs4.err
            clear hg4 hs4 c0 c1 c2 c4 f1 f2
            go_wp2_with fail
            go_end0
            exact ⟨rfl, HG5.out, pv, by rw [show list f 1 (pushName f) st = .error (2, f.size) from HME.out]; exact HS5.out⟩
      · go_wp2_with fail
        go_end0
        have hk' : k = n := by omega
        subst hk'
        have := (MidE.done HM.out).2
        exact ⟨rfl, HG.out, pv, by rw [show stateOf (list f 1 (pushName f) st) = .ok st2 from this]; exact HE.out⟩
end Go.Proofs.YtdhophglnhcjbaaDoor
