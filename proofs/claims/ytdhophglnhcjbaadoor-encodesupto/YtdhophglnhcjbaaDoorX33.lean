/- Contracts of the functions that the law goes through: a part of the proof that the last text tells. -/
import Derived.Test.YtdhophglnhcjbaaDoorXG
import Derived.Deep.CutRange
set_option linter.unusedVariables false
set_option linter.unusedSimpArgs false
namespace Go.Proofs.YtdhophglnhcjbaaDoor
open Go.RowKit Cf

def mineM : List Value := [.string mineB, .slice none 0 0, .int .i64 0, .string ⟨#[]⟩, .int .i64 0, .int .i64 0, .slice none 0 0, .slice none 0 0]
/-- what was copied, as the call hands it back -/
def Copied (w w' : World) (c : XCl) (fa ma : Option Addr) (v : Value) : Prop :=
  ∃ (base : Nat) (fa' ma' : Option Addr) (fk' mk' : Nat), v = .agg #[.string c.name, .string c.super, .slice fa' c.fields.length fk', .slice ma' c.methods.length mk'] ∧ w.heap.size ≤ base ∧ base ≤ w'.heap.size ∧ Spare w' base 43 3 xFld mineF fa' fk' c.fields ∧ (fa' = none ↔ fa = none) ∧
    ((ma = none ∧ ma' = none ∧ mk' = 0 ∧ c.methods = []) ∨ ∃ (g : Nat) (css : List (List Value)), ma ≠ none ∧ ma' = some ⟨g, 0, none⟩ ∧ css.length = c.methods.length ∧ w'.ownsRow base 48 8 (.slice (some ⟨g, 0, none⟩) (c.methods.length + 1) mk') (c.methods.length + 1) (css.flatten ++ mineM) ∧ ∀ j (hj : j < c.methods.length) (h3 : j < css.length), CopMe w' base c.methods[j] css[j])

set_option maxRecDepth 100000 in
set_option maxHeartbeats 12000000 in
theorem copied_any (w : World) (lim : Nat) (c : XCl) (fa ma : Option Addr) (fk mk : Nat) (hl : lim ≤ w.heap.size) (hc : costCl c ≤ 2 ^ 40) (hrf : Hid (RdRow w lim 3 xFld fa c.fields)) (hrm : Hid (RdMesN w lim ma c.methods)) (hfn : fa = none → c.fields = [] ∧ fk = 0) (hmn : ma = none → c.methods = [] ∧ mk = 0) :
    Calls Tryd.prog 5 #[.agg #[.string c.name, .string c.super, .slice fa c.fields.length fk, .slice ma c.methods.length mk]] w fun e w' => ∃ v, e = .returned v ∧ w.grownBy w' none ∧ Copied w w' c fa ma v := by
  have hcl : 10 + 5 * c.fields.length + costMes c.methods ≤ 1099511627776 := by unfold costCl at hc; omega
  have hlf : c.fields.length ≤ 1099511627776 := by omega
  have hlm : c.methods.length ≤ 1099511627770 := by have := costMes_len c.methods; omega
  have hcj : Hid (∀ j (hj : j < c.methods.length), c.methods[j].params.length ≤ 1099511627776 ∧ c.methods[j].code.length ≤ 1099511627776 ∧ c.methods[j].handlers.length ≤ 1099511627776) := fun j hj => by
    have := costMes_each c.methods j hj
    unfold costMe at this
    omega
  clear hc hcl
  have HFN : Hid (fa = none → c.fields = [] ∧ fk = 0) := hfn
  have HMN : Hid (ma = none → c.methods = [] ∧ mk = 0) := hmn
  clear hfn hmn
  obtain ⟨fi, fhi, fz0, fz1, fz2⟩ := info_parts info_Fld
  obtain ⟨ti, thi, tz0, tz1, tz2⟩ := info_parts info_Ty
  obtain ⟨ni, nhi, nz0, nz1, nz2⟩ := info_parts info_In
  obtain ⟨di, dhi, dz0, dz1, dz2⟩ := info_parts info_Hd
  obtain ⟨mi, mhi, mz0, mz1, mz2⟩ := info_parts info_Me
  go_enter Tryd.func5, Tryd.ntmps5
  obtain ⟨D, hD⟩ : ∃ D, D = w.heap.size + 1 + 1 := ⟨_, rfl⟩
  go_upto_if 10 with (fail)
  obtain ⟨W, hW⟩ : ∃ W, W = ((w.alloc (.cells #[.string c.name, .string c.super, .slice fa c.fields.length fk, .slice ma c.methods.length mk] 25)).alloc (.cells #[.string ⟨#[]⟩, .string ⟨#[]⟩, .slice none 0 0, .slice none 0 0] 25)).alloc (.cells #[.string c.name, .string c.super, .slice fa c.fields.length fk, .slice ma c.methods.length mk] 25) := ⟨_, rfl⟩
  have HG : Hid (w.grownBy W none) := by unfold Hid; rw [hW]; exact gb_tr (gb_tr (gb_alloc _ _ _) (gb_alloc _ _ _)) (gb_alloc _ _ _)
  have HA : Hid (Blk W w.heap.size #[.string c.name, .string c.super, .slice fa c.fields.length fk, .slice ma c.methods.length mk] 25) := by unfold Hid; rw [hW]; exact ((Blk.new w _ _).keep (gb_alloc _ _ none) (by simp)).keep (gb_alloc _ _ none) (by simp)
  have HR : Hid (Blk W (w.heap.size + 1) #[.string ⟨#[]⟩, .string ⟨#[]⟩, .slice none 0 0, .slice none 0 0] 25) := by
    have := Blk.new (w.alloc (.cells #[.string c.name, .string c.super, .slice fa c.fields.length fk, .slice ma c.methods.length mk] 25)) #[.string ⟨#[]⟩, .string ⟨#[]⟩, .slice none 0 0, .slice none 0 0] 25
    rw [size_alloc] at this
    unfold Hid; rw [hW]; exact this.keep (gb_alloc _ _ none) (by simp)
  have HD : Hid (Blk W D #[.string c.name, .string c.super, .slice fa c.fields.length fk, .slice ma c.methods.length mk] 25) := by
    have := Blk.new ((w.alloc (.cells #[.string c.name, .string c.super, .slice fa c.fields.length fk, .slice ma c.methods.length mk] 25)).alloc (.cells #[.string ⟨#[]⟩, .string ⟨#[]⟩, .slice none 0 0, .slice none 0 0] 25)) #[.string c.name, .string c.super, .slice fa c.fields.length fk, .slice ma c.methods.length mk] 25
    rw [size_alloc, size_alloc, ← hD] at this
    unfold Hid; rw [hW]; exact this
  rw [← hW, ← hD]
  clear hW
  have HDL : Hid (w.heap.size + 1 < D ∧ D < W.heap.size) := ⟨by omega, HD.out.lt⟩
  clear hD
  go_cut [] from 11 (fun wx => ∃ (fa' : Option Addr) (fk' : Nat), Blk wx D #[.string c.name, .string c.super, .slice fa' c.fields.length fk', .slice ma c.methods.length mk] 25 ∧ Spare wx (D + 1) 43 3 xFld mineF fa' fk' c.fields ∧ (fa' = none ↔ fa = none) ∧ w.grownBy wx none ∧ Blk wx w.heap.size #[.string c.name, .string c.super, .slice fa c.fields.length fk, .slice ma c.methods.length mk] 25 ∧ Blk wx (w.heap.size + 1) #[.string ⟨#[]⟩, .string ⟨#[]⟩, .slice none 0 0, .slice none 0 0] 25)
  case first =>
    clear hrm
    cases fa with
    | none =>
      obtain ⟨hx, rfl⟩ := HFN.out rfl
      have HX : Hid (c.fields = []) := hx
      clear hx
      go_wp2_with fail
      go_meet
      case rel => exact ⟨none, 0, HD.out, .inl ⟨rfl, rfl, HX.out⟩, by simp, HG.out, HA.out, HR.out⟩
    | some p =>
      have HRF : Hid (RdRow W lim 3 xFld (some p) c.fields) := hrf.out.keep HG.out
      have c2 := HA.out.cell 2 _ rfl
      have d2 := HD.out.cell 2 _ rfl
      have z2 := HD.out.frozen 2
      have hDW : D < W.heap.size := HDL.out.2
      have hDn : ¬ D = w.heap.size := by have := HDL.out.1; omega
      have hDn2 : ¬ w.heap.size = D := by have := HDL.out.1; omega
      by_cases hn : 0 < c.fields.length
      · go_wp2_with fail
        go_region_held_law (fun w' => w'.cell? ⟨w.heap.size, 2, none⟩ = some (.slice (some p) c.fields.length fk)) (go_keep) (first
          | (refine step_append_copy _ rfl _ _ 22 rfl (D + 1) 43 fi _ 3 40 Tryd.underlying22 fhi fz0 fz1 fz2 rfl (by decide) rfl p c.fields.length fk (c.fields.flatMap xFld) rfl (flat_len (enc := xFld) (fun _ => rfl) _) (rd_flat (enc := xFld) (fun _ => rfl) (HRF.out.keep (by first | exact gb_drew _ _ | exact gb_tr (gb_drew _ _) (gb_alloc _ _ _)))) (one_fld _) hn (by unfold maxLen; omega) (by omega) (by first | omega | (simp; omega)) ?_
             intro g2 k2 w2 hown2 hgrow2 hat2 hlt2
             have HO2 : Hid (w2.ownsRow (D + 1) 43 3 (.slice (some ⟨g2, 0, none⟩) c.fields.length k2) c.fields.length (c.fields.flatMap xFld)) := hown2
             have hgA : W.grownBy w2 none := by first | exact gb_tr (gb_drew _ _) hgrow2 | exact gb_tr (gb_tr (gb_drew _ _) (gb_alloc _ _ _)) hgrow2
             have x2 := hgA.cell c2 (by simp)
             have hs2 := hgA.size
             have hge2 : W.heap.size ≤ g2 := by rw [hat2]; simp
             clear hat2)
          | (refine step_append_lies _ rfl _ _ 22 rfl (D + 1) 43 fi _ 3 40 Tryd.underlying22 fhi fz0 fz1 fz2 rfl (by decide) (.slice (some ⟨g2, 0, none⟩) c.fields.length k2) c.fields.length (c.fields.flatMap xFld) rfl (World.ownsRow.alloc HO2.out _) ⟨w2.heap.size, 0, none⟩ 1 1 mineF rfl rfl (new_cells w2 mineF 43) (by simp [mineF, Value.oneCell']) (by omega) (by unfold maxLen; omega) (by omega) (by first | omega | (simp; omega)) _ rfl ?_
             intro g3 k3 w3 hown3 hgrow3 hat3 hlt3
             have hgB : W.grownBy w3 none := gb_trans (gb_tr hgA (gb_alloc _ _ _)) hgrow3 (fun k e => .inl (by simp only [Value.ownBlock, Option.some.injEq] at e; omega))
             have hge3 : W.heap.size ≤ g3 := by
               rcases hat3 with e | e
               · simp only [Value.ownBlock, Option.some.injEq] at e; omega
               · first | (rw [World.size_alloc] at e; omega) | omega
             have x3 := hgB.cell c2 (by simp)
             have y3 := hgB.cell d2 (by simp)
             have z3 : w3.frozen? ⟨D, 2, none⟩ = false := (hgB.frozen_far ⟨D, 2, none⟩ hDW (by simp)).trans z2
             have hcap := own_cap hown3
             have hcap2 : c.fields.length ≤ k3 := by omega)
          | (refine step_append_lies _ rfl _ _ 22 rfl (D + 1) 43 fi _ 3 40 Tryd.underlying22 fhi fz0 fz1 fz2 rfl (by decide) (.slice (some ⟨g2, 0, none⟩) c.fields.length k2) c.fields.length (c.fields.flatMap xFld) rfl (HO2.out) ⟨W.heap.size, 0, none⟩ 1 1 mineF rfl rfl (fun j u hu => hgrow2.cell (new_cells W.drew mineF 43 j u hu) (by simp)) (by simp [mineF, Value.oneCell']) (by omega) (by unfold maxLen; omega) (by omega) (by first | omega | (simp; omega)) _ rfl ?_
             intro g3 k3 w3 hown3 hgrow3 hat3 hlt3
             have hgB : W.grownBy w3 none := gb_trans (hgA) hgrow3 (fun k e => .inl (by simp only [Value.ownBlock, Option.some.injEq] at e; omega))
             have hge3 : W.heap.size ≤ g3 := by
               rcases hat3 with e | e
               · simp only [Value.ownBlock, Option.some.injEq] at e; omega
               · first | (rw [World.size_alloc] at e; omega) | omega
             have x3 := hgB.cell c2 (by simp)
             have y3 := hgB.cell d2 (by simp)
             have z3 : w3.frozen? ⟨D, 2, none⟩ = false := (hgB.frozen_far ⟨D, 2, none⟩ hDW (by simp)).trans z2
             have hcap := own_cap hown3
             have hcap2 : c.fields.length ≤ k3 := by omega))
        all_goals
          go_wp2_with fail
          go_meet
          case rel =>
            exact ⟨some ⟨g3, 0, none⟩, k3, (HD.out.keep hgB (by simp)).set 2 _, .inr ⟨g3, rfl, hown3.kept (gb_set w3 ⟨D, 2, none⟩ _) (.inr (by simp only [Value.ownBlock, ne_eq, Option.some.injEq]; omega))⟩, by simp, gb_newSet (gb_tr HG.out hgB) (by have := HDL.out.1; omega) 2 _, (HA.out.keep hgB (by simp)).keep (gb_set w3 ⟨D, 2, none⟩ _) (by simp; omega), (HR.out.keep hgB (by simp)).keep (gb_set w3 ⟨D, 2, none⟩ _) (by simp; have := HDL.out.1; omega)⟩
      · have hx0 : c.fields = [] := List.eq_nil_of_length_eq_zero (by omega)
        have HX0 : Hid (c.fields = []) := hx0
        have HL0 : Hid (c.fields.length = 0) := by unfold Hid; rw [hx0]; rfl
        clear hx0
        go_wp2_with fail
        go_region_held_law (fun w' => w'.cell? ⟨w.heap.size, 2, none⟩ = some (.slice (some p) c.fields.length fk)) (go_keep) (first
          | (refine step_append_none _ rfl _ _ 22 rfl 43 fi _ 3 40 Tryd.underlying22 fhi fz0 fz1 fz2 rfl (by decide) rfl p c.fields.length fk rfl HL0.out ?_
             intro w2 hgrow2
             have hgA : W.grownBy w2 none := by first | exact gb_tr (gb_drew _ _) hgrow2 | exact gb_tr (gb_tr (gb_drew _ _) (gb_alloc _ _ _)) hgrow2
             have x2 := hgA.cell c2 (by simp)
             have hs2 := hgA.size)
          | (refine step_append_copy _ rfl _ _ 22 rfl (D + 1) 43 fi _ 3 40 Tryd.underlying22 fhi fz0 fz1 fz2 rfl (by decide) rfl ⟨w2.heap.size, 0, none⟩ 1 1 mineF rfl rfl (new_cells w2 mineF 43) (by simp [mineF, Value.oneCell']) (by omega) (by unfold maxLen; omega) (by omega) (by first | omega | (simp; omega)) ?_
             intro g3 k3 w3 hown3 hgrow3 hat3 hlt3
             have hgB : W.grownBy w3 none := gb_tr (gb_tr hgA (gb_alloc _ _ _)) hgrow3
             have x3 := hgB.cell c2 (by simp)
             have y3 := hgB.cell d2 (by simp)
             have z3 : w3.frozen? ⟨D, 2, none⟩ = false := (hgB.frozen_far ⟨D, 2, none⟩ hDW (by simp)).trans z2
             have hcap : c.fields.length + 1 ≤ k3 := by rw [HL0.out]; exact own_cap hown3
             have hcap2 : c.fields.length ≤ k3 := by omega
             have hge3 : W.heap.size ≤ g3 := by first | omega | (rw [hat3, World.size_alloc]; omega)
             clear hat3)
          | (refine step_append_copy _ rfl _ _ 22 rfl (D + 1) 43 fi _ 3 40 Tryd.underlying22 fhi fz0 fz1 fz2 rfl (by decide) rfl ⟨W.heap.size, 0, none⟩ 1 1 mineF rfl rfl (fun j u hu => hgrow2.cell (new_cells W.drew mineF 43 j u hu) (by simp)) (by simp [mineF, Value.oneCell']) (by omega) (by unfold maxLen; omega) (by omega) (by first | omega | (simp; omega)) ?_
             intro g3 k3 w3 hown3 hgrow3 hat3 hlt3
             have hgB : W.grownBy w3 none := gb_tr (hgA) hgrow3
             have x3 := hgB.cell c2 (by simp)
             have y3 := hgB.cell d2 (by simp)
             have z3 : w3.frozen? ⟨D, 2, none⟩ = false := (hgB.frozen_far ⟨D, 2, none⟩ hDW (by simp)).trans z2
             have hcap : c.fields.length + 1 ≤ k3 := by rw [HL0.out]; exact own_cap hown3
             have hcap2 : c.fields.length ≤ k3 := by omega
             have hge3 : W.heap.size ≤ g3 := by first | omega | (rw [hat3, World.size_alloc]; omega)
             clear hat3))
        all_goals
          go_wp2_with fail
          go_meet
          case rel =>
            refine ⟨some ⟨g3, 0, none⟩, k3, (HD.out.keep hgB (by simp)).set 2 _, .inr ⟨g3, rfl, ?_⟩, by simp, gb_newSet (gb_tr HG.out hgB) (by have := HDL.out.1; omega) 2 _, (HA.out.keep hgB (by simp)).keep (gb_set w3 ⟨D, 2, none⟩ _) (by simp; omega), (HR.out.keep hgB (by simp)).keep (gb_set w3 ⟨D, 2, none⟩ _) (by simp; have := HDL.out.1; omega)⟩
            have := hown3.kept (gb_set w3 ⟨D, 2, none⟩ (.slice (some ⟨g3, 0, none⟩) c.fields.length k3)) (.inr (by simp only [Value.ownBlock, ne_eq, Option.some.injEq]; omega))
            rw [HX0.out]
            rw [HX0.out] at this
            exact this
  case rest =>
    obtain ⟨fa', fk', hd, hsp, hiff, hg, ha, hr⟩ := hcut
    have HDb : w.heap.size + 1 < D := HDL.out.1
    clear HD HA HR HG HDL hrf
    have HD : Hid (Blk wc D #[.string c.name, .string c.super, .slice fa' c.fields.length fk', .slice ma c.methods.length mk] 25) := hd
    have HSP : Hid (Spare wc (D + 1) 43 3 xFld mineF fa' fk' c.fields) := hsp
    have HIF : Hid (fa' = none ↔ fa = none) := hiff
    have HG : Hid (w.grownBy wc none) := hg
    have HA : Hid (Blk wc w.heap.size #[.string c.name, .string c.super, .slice fa c.fields.length fk, .slice ma c.methods.length mk] 25) := ha
    have HR : Hid (Blk wc (w.heap.size + 1) #[.string ⟨#[]⟩, .string ⟨#[]⟩, .slice none 0 0, .slice none 0 0] 25) := hr
    clear hd hsp hiff hg ha hr
    have a3 := HA.out.cell 3 _ rfl
    cases ma with
    | none =>
      obtain ⟨hx, rfl⟩ := HMN.out rfl
      have HX : Hid (c.methods = []) := hx
      have hl0 : c.methods.length = 0 := by rw [hx]; rfl
      clear hx
      have d0 := HD.out.cell 0 _ rfl
      have d1 := HD.out.cell 1 _ rfl
      have d2 := HD.out.cell 2 _ rfl
      have d3 := HD.out.cell 3 _ rfl
      have r0 := HR.out.cell 0 _ rfl
      have r1 := HR.out.cell 1 _ rfl
      have r2 := HR.out.cell 2 _ rfl
      have r3 := HR.out.cell 3 _ rfl
      have s0 := HR.out.frozen 0
      have s1 := HR.out.frozen 1
      have s2 := HR.out.frozen 2
      have s3 := HR.out.frozen 3
      have heq : ∀ w, (binOp .eql 23 (.slice none 0 0) (.slice none 0 0)).run Tryd.prog w = .ok (.bool true) w := by intro w; kernel_rfl
      go_wp2_with fail
      obtain ⟨W2, hW2⟩ : ∃ W2, W2 = (((wc.setCell ⟨w.heap.size + 1, 0, none⟩ (.string c.name)).setCell ⟨w.heap.size + 1, 1, none⟩ (.string c.super)).setCell ⟨w.heap.size + 1, 2, none⟩ (.slice fa' c.fields.length fk')).setCell ⟨w.heap.size + 1, 3, none⟩ (.slice none 0 0) := ⟨_, rfl⟩
      have HB : Blk W2 (w.heap.size + 1) #[.string c.name, .string c.super, .slice fa' c.fields.length fk', .slice none 0 0] 25 := by rw [hW2]; exact (((HR.out.set 0 _).set 1 _).set 2 _).set 3 _
      have hg2 : wc.grownBy W2 (some (w.heap.size + 1)) := by rw [hW2]; exact gb_tr (gb_tr (gb_tr (gb_set wc ⟨w.heap.size + 1, 0, none⟩ _) (gb_set _ ⟨w.heap.size + 1, 1, none⟩ _)) (gb_set _ ⟨w.heap.size + 1, 2, none⟩ _)) (gb_set _ ⟨w.heap.size + 1, 3, none⟩ _)
      rw [← hW2]
      clear hW2
      clear r0 r1 r2 r3
      have r0 := HB.cell 0 _ rfl
      have r1 := HB.cell 1 _ rfl
      have r2 := HB.cell 2 _ rfl
      have r3 := HB.cell 3 _ rfl
      refine bodyPost_ret (v := .agg #[.string c.name, .string c.super, .slice fa' c.fields.length fk', .slice none 0 0]) (by simp [results, Tryd.results5, go_sem, r0, r1, r2, r3]) rfl ?_
      refine ⟨_, rfl, gb_trans HG.out hg2 (fun k e => .inl (by simp only [Option.some.injEq] at e; omega)), D + 1, fa', none, fk', 0, by rw [hl0], by omega, ?_, HSP.out.keepAt hg2 (by omega), HIF.out, .inl ⟨rfl, rfl, rfl, HX.out⟩⟩
      have := HD.out.lt
      have := hg2.size
      omega
    | some p =>
      have heq : ∀ n k w, (binOp .eql 23 (.slice (some p) n k) (.slice none 0 0)).run Tryd.prog w = .ok (.bool false) w := by intro n k w; kernel_rfl
      clear HFN HMN
      go_wp2_with fail
      clear heq a3
      go_loopw [4, 5] (fun l i wr => ∃ j : Nat, j ≤ c.methods.length ∧ i = .int .i64 j ∧ CopL wr (D + 1) l c.methods j ∧ Spare wr (D + 1) 43 3 xFld mineF fa' fk' c.fields ∧ Blk wr D #[.string c.name, .string c.super, .slice fa' c.fields.length fk', .slice (some p) c.methods.length mk] 25 ∧ w.grownBy wr none ∧ Blk wr w.heap.size #[.string c.name, .string c.super, .slice fa c.fields.length fk, .slice (some p) c.methods.length mk] 25 ∧ Blk wr (w.heap.size + 1) #[.string ⟨#[]⟩, .string ⟨#[]⟩, .slice none 0 0, .slice none 0 0] 25) (fun _ i _ => c.methods.length - (intOf i).toNat)
      case atStart => exact ⟨0, Nat.zero_le _, rfl, ⟨[], rfl, World.ownsRow_nil _ _ _ _, fun j hj => by omega⟩, HSP.out, HD.out, HG.out, HA.out, HR.out⟩
      case round =>
        clear HSP HD HG HA HR
        obtain ⟨j, hj, rfl, hcl, hsp, hd, hg, ha, hr⟩ := hrel
        have HCL : Hid (CopL wr (D + 1) _ c.methods j) := hcl
        have HSP : Hid (Spare wr (D + 1) 43 3 xFld mineF fa' fk' c.fields) := hsp
        have HD : Hid (Blk wr D #[.string c.name, .string c.super, .slice fa' c.fields.length fk', .slice (some p) c.methods.length mk] 25) := hd
        have HG : Hid (w.grownBy wr none) := hg
        have HA : Hid (Blk wr w.heap.size #[.string c.name, .string c.super, .slice fa c.fields.length fk, .slice (some p) c.methods.length mk] 25) := ha
        have HR : Hid (Blk wr (w.heap.size + 1) #[.string ⟨#[]⟩, .string ⟨#[]⟩, .slice none 0 0, .slice none 0 0] 25) := hr
        clear hcl hsp hd hg ha hr
        have a3 := HA.out.cell 3 _ rfl
        by_cases hlt : j < c.methods.length
        · obtain ⟨p', pa, ca, ha, pk, ck, hk, hpm, -, hrp, hrc, hrh, np, nc, nh, hcm⟩ := hrm.out.keep HG.out j hlt
          injection hpm with hpm
          subst hpm
          obtain ⟨m, hm⟩ : ∃ m, m = c.methods[j] := ⟨_, rfl⟩
          have hsm := hcj.out j hlt
          rw [← hm] at hrp hrc hrh np nc nh hcm hsm
          have HM : Hid (m = c.methods[j]) := hm
          have HL1 : m.params.length ≤ 1099511627776 := hsm.1
          have HL2 : m.code.length ≤ 1099511627776 := hsm.2.1
          have HL3 : m.handlers.length ≤ 1099511627776 := hsm.2.2
          have HRP : Hid (RdRow wr lim 2 xTy pa m.params) := hrp
          have HRC : Hid (RdRow wr lim 4 xIn ca m.code) := hrc
          have HRH : Hid (RdRow wr lim 4 xHd ha m.handlers) := hrh
          have NP : Hid (pa = none → m.params = [] ∧ pk = 0) := np
          have NC : Hid (ca = none → m.code = [] ∧ ck = 0) := nc
          have NH : Hid (ha = none → m.handlers = [] ∧ hk = 0) := nh
          have f0 : wr.cell? (p.add (j * 8)) = some (.string m.name) := hcm 0 _ rfl
          have f1 : wr.cell? ⟨(p.add (j * 8)).block, (p.add (j * 8)).off + 1, none⟩ = some (.slice pa m.params.length pk) := by rw [add_at p (j * 8) 0]; exact hcm 1 _ rfl
          have f2 : wr.cell? ⟨(p.add (j * 8)).block, (p.add (j * 8)).off + 2, none⟩ = some (.int .i64 m.ret.kind) := by rw [add_at p (j * 8) 1]; exact hcm 2 _ rfl
          have f3 : wr.cell? ⟨(p.add (j * 8)).block, (p.add (j * 8)).off + 3, none⟩ = some (.string m.ret.name) := by rw [add_at p (j * 8) 2]; exact hcm 3 _ rfl
          have f4 : wr.cell? ⟨(p.add (j * 8)).block, (p.add (j * 8)).off + 4, none⟩ = some (.int .i64 m.stack) := by rw [add_at p (j * 8) 3]; exact hcm 4 _ rfl
          have f5 : wr.cell? ⟨(p.add (j * 8)).block, (p.add (j * 8)).off + 5, none⟩ = some (.int .i64 m.locals) := by rw [add_at p (j * 8) 4]; exact hcm 5 _ rfl
          have f6 : wr.cell? ⟨(p.add (j * 8)).block, (p.add (j * 8)).off + 6, none⟩ = some (.slice ca m.code.length ck) := by rw [add_at p (j * 8) 5]; exact hcm 6 _ rfl
          have f7 : wr.cell? ⟨(p.add (j * 8)).block, (p.add (j * 8)).off + 7, none⟩ = some (.slice ha m.handlers.length hk) := by rw [add_at p (j * 8) 6]; exact hcm 7 _ rfl
          clear hrp hrc hrh np nc nh hcm hsm hm
          go_upto_if 40 with (fail)
          have HDr : D < wr.heap.size := HD.out.lt
          obtain ⟨W, hW⟩ : ∃ W, W = wr.alloc (.cells #[.string m.name, .slice pa m.params.length pk, .int .i64 m.ret.kind, .string m.ret.name, .int .i64 m.stack, .int .i64 m.locals, .slice ca m.code.length ck, .slice ha m.handlers.length hk] 48) := ⟨_, rfl⟩
          have HGW : Hid (wr.grownBy W none) := by unfold Hid; rw [hW]; exact gb_alloc _ _ _
          have HMB : Hid (Blk W wr.heap.size #[.string m.name, .slice pa m.params.length pk, .int .i64 m.ret.kind, .string m.ret.name, .int .i64 m.stack, .int .i64 m.locals, .slice ca m.code.length ck, .slice ha m.handlers.length hk] 48) := by unfold Hid; rw [hW]; exact Blk.new _ _ _
          rw [← hW]
          clear hW f0 f1 f2 f3 f4 f5 f6 f7 a3
          go_cut [] from 41 to 83 (fun wx => ∃ (pa' : Option Addr) (pk' : Nat), Blk wx wr.heap.size #[.string m.name, .slice pa' m.params.length pk', .int .i64 m.ret.kind, .string m.ret.name, .int .i64 m.stack, .int .i64 m.locals, .slice ca m.code.length ck, .slice ha m.handlers.length hk] 48 ∧ Spare wx (D + 1) 41 2 xTy mineT pa' pk' m.params ∧ wr.grownBy wx none)
          case first =>
            clear fhi fz0 fz1 fz2 fi nhi nz0 nz1 nz2 ni dhi dz0 dz1 dz2 di mhi mz0 mz1 mz2 mi HCL HSP HD HA HR HG hcj hrm hlf hlm HIF HM HRC HRH NC NH HL2 HL3
            cases pa with
            | none =>
              obtain ⟨hx, rfl⟩ := NP.out rfl
              have HX : Hid (m.params = []) := hx
              clear hx
              go_wp2_with fail
              go_meet
              case rel => exact ⟨none, 0, HMB.out, .inl ⟨rfl, rfl, HX.out⟩, HGW.out⟩
            | some q =>
              have HRF : Hid (RdRow W lim 2 xTy (some q) m.params) := HRP.out.keep HGW.out
              have c2 := HMB.out.cell 1 _ rfl
              have d2 := HMB.out.cell 1 _ rfl
              have z2 := HMB.out.frozen 1
              have hDW : wr.heap.size < W.heap.size := HMB.out.lt
              have hbW : D + 1 ≤ W.heap.size := by omega
              by_cases hn : 0 < m.params.length
              · have cA : ∀ o, (W.drew.alloc o).cell? ⟨wr.heap.size, 1, none⟩ = some (.slice (some q) m.params.length pk) := fun o => (gb_tr (gb_drew _ _) (gb_alloc _ _ none)).cell c2 (by simp)
                go_wp2_with fail
                go_region_law (first
                  | (refine step_append_copy _ rfl _ _ 44 rfl (D + 1) 41 ti _ 2 24 Tryd.underlying44 thi tz0 tz1 tz2 rfl (by decide) rfl q m.params.length pk (m.params.flatMap xTy) rfl (flat_len (enc := xTy) (fun _ => rfl) _) (rd_flat (enc := xTy) (fun _ => rfl) (HRF.out.keep (by first | exact gb_drew _ _ | exact gb_tr (gb_drew _ _) (gb_alloc _ _ _)))) (one_ty _) hn (by unfold maxLen; omega) (by omega) (by first | omega | (simp; omega)) ?_
                     intro g2 k2 w2 hown2 hgrow2 hat2 hlt2
                     have HO2 : Hid (w2.ownsRow (D + 1) 41 2 (.slice (some ⟨g2, 0, none⟩) m.params.length k2) m.params.length (m.params.flatMap xTy)) := hown2
                     have hgA : W.grownBy w2 none := by first | exact gb_tr (gb_drew _ _) hgrow2 | exact gb_tr (gb_tr (gb_drew _ _) (gb_alloc _ _ _)) hgrow2
                     have x2 := hgA.cell c2 (by simp)
                     have hs2 := hgA.size
                     have x2a : ∀ o, (w2.alloc o).cell? ⟨wr.heap.size, 1, none⟩ = some (.slice (some q) m.params.length pk) := fun o => (gb_tr hgA (gb_alloc _ _ _)).cell c2 (by simp)
                     have hge2 : W.heap.size ≤ g2 := by rw [hat2]; simp
                     clear hat2)
                  | (refine step_append_lies _ rfl _ _ 44 rfl (D + 1) 41 ti _ 2 24 Tryd.underlying44 thi tz0 tz1 tz2 rfl (by decide) (.slice (some ⟨g2, 0, none⟩) m.params.length k2) m.params.length (m.params.flatMap xTy) rfl (World.ownsRow.alloc HO2.out _) ⟨w2.heap.size, 0, none⟩ 1 1 mineT rfl rfl (new_cells w2 mineT 41) (by simp [mineT, Value.oneCell']) (by omega) (by unfold maxLen; omega) (by omega) (by first | omega | (simp; omega)) _ rfl ?_
                     intro g3 k3 w3 hown3 hgrow3 hat3 hlt3
                     have hgB : W.grownBy w3 none := gb_trans (gb_tr hgA (gb_alloc _ _ _)) hgrow3 (fun k e => .inl (by simp only [Value.ownBlock, Option.some.injEq] at e; omega))
                     have hge3 : W.heap.size ≤ g3 := by
                       rcases hat3 with e | e
                       · simp only [Value.ownBlock, Option.some.injEq] at e; omega
                       · first | (rw [World.size_alloc] at e; omega) | omega
                     have x3 := hgB.cell c2 (by simp)
                     have y3 := hgB.cell d2 (by simp)
                     have z3 : w3.frozen? ⟨wr.heap.size, 1, none⟩ = false := (hgB.frozen_far ⟨wr.heap.size, 1, none⟩ hDW (by simp)).trans z2
                     have hcap := own_cap hown3
                     have hcap2 : m.params.length ≤ k3 := by omega)
                  | (refine step_append_lies _ rfl _ _ 44 rfl (D + 1) 41 ti _ 2 24 Tryd.underlying44 thi tz0 tz1 tz2 rfl (by decide) (.slice (some ⟨g2, 0, none⟩) m.params.length k2) m.params.length (m.params.flatMap xTy) rfl (HO2.out) ⟨W.heap.size, 0, none⟩ 1 1 mineT rfl rfl (fun j u hu => hgrow2.cell (new_cells W.drew mineT 41 j u hu) (by simp)) (by simp [mineT, Value.oneCell']) (by omega) (by unfold maxLen; omega) (by omega) (by first | omega | (simp; omega)) _ rfl ?_
                     intro g3 k3 w3 hown3 hgrow3 hat3 hlt3
                     have hgB : W.grownBy w3 none := gb_trans (hgA) hgrow3 (fun k e => .inl (by simp only [Value.ownBlock, Option.some.injEq] at e; omega))
                     have hge3 : W.heap.size ≤ g3 := by
                       rcases hat3 with e | e
                       · simp only [Value.ownBlock, Option.some.injEq] at e; omega
                       · first | (rw [World.size_alloc] at e; omega) | omega
                     have x3 := hgB.cell c2 (by simp)
                     have y3 := hgB.cell d2 (by simp)
                     have z3 : w3.frozen? ⟨wr.heap.size, 1, none⟩ = false := (hgB.frozen_far ⟨wr.heap.size, 1, none⟩ hDW (by simp)).trans z2
                     have hcap := own_cap hown3
                     have hcap2 : m.params.length ≤ k3 := by omega))
                all_goals
                  go_wp2_with fail
                  go_meet
                  case rel =>
                    exact ⟨some ⟨g3, 0, none⟩, k3, (HMB.out.keep hgB (by simp)).set 1 _, .inr ⟨g3, rfl, hown3.kept (gb_set w3 ⟨wr.heap.size, 1, none⟩ _) (.inr (by simp only [Value.ownBlock, ne_eq, Option.some.injEq]; omega))⟩, gb_newSet (gb_tr HGW.out hgB) (Nat.le_refl _) 1 _⟩
              · have hx0 : m.params = [] := List.eq_nil_of_length_eq_zero (by omega)
                have HX0 : Hid (m.params = []) := hx0
                have HL0 : Hid (m.params.length = 0) := by unfold Hid; rw [hx0]; rfl
                clear hx0
                have cA : ∀ o, (W.drew.alloc o).cell? ⟨wr.heap.size, 1, none⟩ = some (.slice (some q) m.params.length pk) := fun o => (gb_tr (gb_drew _ _) (gb_alloc _ _ none)).cell c2 (by simp)
                go_wp2_with fail
                go_region_law (first
                  | (refine step_append_none _ rfl _ _ 44 rfl 41 ti _ 2 24 Tryd.underlying44 thi tz0 tz1 tz2 rfl (by decide) rfl q m.params.length pk rfl HL0.out ?_
                     intro w2 hgrow2
                     have hgA : W.grownBy w2 none := by first | exact gb_tr (gb_drew _ _) hgrow2 | exact gb_tr (gb_tr (gb_drew _ _) (gb_alloc _ _ _)) hgrow2
                     have x2 := hgA.cell c2 (by simp)
                     have x2a : ∀ o, (w2.alloc o).cell? ⟨wr.heap.size, 1, none⟩ = some (.slice (some q) m.params.length pk) := fun o => (gb_tr hgA (gb_alloc _ _ _)).cell c2 (by simp)
                     have hs2 := hgA.size)
                  | (refine step_append_copy _ rfl _ _ 44 rfl (D + 1) 41 ti _ 2 24 Tryd.underlying44 thi tz0 tz1 tz2 rfl (by decide) rfl ⟨w2.heap.size, 0, none⟩ 1 1 mineT rfl rfl (new_cells w2 mineT 41) (by simp [mineT, Value.oneCell']) (by omega) (by unfold maxLen; omega) (by omega) (by first | omega | (simp; omega)) ?_
                     intro g3 k3 w3 hown3 hgrow3 hat3 hlt3
                     have hgB : W.grownBy w3 none := gb_tr (gb_tr hgA (gb_alloc _ _ _)) hgrow3
                     have x3 := hgB.cell c2 (by simp)
                     have y3 := hgB.cell d2 (by simp)
                     have z3 : w3.frozen? ⟨wr.heap.size, 1, none⟩ = false := (hgB.frozen_far ⟨wr.heap.size, 1, none⟩ hDW (by simp)).trans z2
                     have hcap : m.params.length + 1 ≤ k3 := by rw [HL0.out]; exact own_cap hown3
                     have hcap2 : m.params.length ≤ k3 := by omega
                     have hge3 : W.heap.size ≤ g3 := by first | omega | (rw [hat3, World.size_alloc]; omega)
                     clear hat3)
                  | (refine step_append_copy _ rfl _ _ 44 rfl (D + 1) 41 ti _ 2 24 Tryd.underlying44 thi tz0 tz1 tz2 rfl (by decide) rfl ⟨W.heap.size, 0, none⟩ 1 1 mineT rfl rfl (fun j u hu => hgrow2.cell (new_cells W.drew mineT 41 j u hu) (by simp)) (by simp [mineT, Value.oneCell']) (by omega) (by unfold maxLen; omega) (by omega) (by first | omega | (simp; omega)) ?_
                     intro g3 k3 w3 hown3 hgrow3 hat3 hlt3
                     have hgB : W.grownBy w3 none := gb_tr (hgA) hgrow3
                     have x3 := hgB.cell c2 (by simp)
                     have y3 := hgB.cell d2 (by simp)
                     have z3 : w3.frozen? ⟨wr.heap.size, 1, none⟩ = false := (hgB.frozen_far ⟨wr.heap.size, 1, none⟩ hDW (by simp)).trans z2
                     have hcap : m.params.length + 1 ≤ k3 := by rw [HL0.out]; exact own_cap hown3
                     have hcap2 : m.params.length ≤ k3 := by omega
                     have hge3 : W.heap.size ≤ g3 := by first | omega | (rw [hat3, World.size_alloc]; omega)
                     clear hat3))
                all_goals
                  go_wp2_with fail
                  go_meet
                  case rel =>
                    refine ⟨some ⟨g3, 0, none⟩, k3, (HMB.out.keep hgB (by simp)).set 1 _, .inr ⟨g3, rfl, ?_⟩, gb_newSet (gb_tr HGW.out hgB) (Nat.le_refl _) 1 _⟩
                    have := hown3.kept (gb_set w3 ⟨wr.heap.size, 1, none⟩ (.slice (some ⟨g3, 0, none⟩) m.params.length k3)) (.inr (by simp only [Value.ownBlock, ne_eq, Option.some.injEq]; omega))
                    rw [HX0.out]
                    rw [HX0.out] at this
                    exact this
          case rest =>
            obtain ⟨pa', pk', hmb, hs1, hg1⟩ := hcut
            clear HMB HGW HRP NP
            have HMB : Hid (Blk wc wr.heap.size #[.string m.name, .slice pa' m.params.length pk', .int .i64 m.ret.kind, .string m.ret.name, .int .i64 m.stack, .int .i64 m.locals, .slice ca m.code.length ck, .slice ha m.handlers.length hk] 48) := hmb
            have HS1 : Hid (Spare wc (D + 1) 41 2 xTy mineT pa' pk' m.params) := hs1
            have HGW : Hid (wr.grownBy wc none) := hg1
            clear hmb hs1 hg1
            have m5 := HMB.out.cell 6 _ rfl
            go_upto_if 54 with (fail)
            clear m5
            go_cut [] from 55 to 83 (fun wx => ∃ (ca' : Option Addr) (ck' : Nat), Blk wx wr.heap.size #[.string m.name, .slice pa' m.params.length pk', .int .i64 m.ret.kind, .string m.ret.name, .int .i64 m.stack, .int .i64 m.locals, .slice ca' m.code.length ck', .slice ha m.handlers.length hk] 48 ∧ Spare wx (D + 1) 41 2 xTy mineT pa' pk' m.params ∧ Spare wx (D + 1) 50 4 xIn mineI ca' ck' m.code ∧ wr.grownBy wx none)
            case first =>
              clear fhi fz0 fz1 fz2 fi thi tz0 tz1 tz2 ti dhi dz0 dz1 dz2 di mhi mz0 mz1 mz2 mi HCL HSP HD HA HR HG hcj hrm hlf hlm HIF HM HRH NH HL1 HL3
              cases ca with
              | none =>
                obtain ⟨hx, rfl⟩ := NC.out rfl
                have HX : Hid (m.code = []) := hx
                clear hx
                go_wp2_with fail
                go_meet
                case rel => exact ⟨none, 0, HMB.out, HS1.out, .inl ⟨rfl, rfl, HX.out⟩, HGW.out⟩
              | some q =>
                have HRF : Hid (RdRow wc lim 4 xIn (some q) m.code) := HRC.out.keep HGW.out
                have c2 := HMB.out.cell 6 _ rfl
                have d2 := HMB.out.cell 6 _ rfl
                have z2 := HMB.out.frozen 6
                have hDW : wr.heap.size < wc.heap.size := HMB.out.lt
                have hbW : D + 1 ≤ wc.heap.size := by omega
                by_cases hn : 0 < m.code.length
                · have cA : ∀ o, (wc.drew.alloc o).cell? ⟨wr.heap.size, 6, none⟩ = some (.slice (some q) m.code.length ck) := fun o => (gb_tr (gb_drew _ _) (gb_alloc _ _ none)).cell c2 (by simp)
                  go_wp2_with fail
                  go_region_law (first
                    | (refine step_append_copy _ rfl _ _ 45 rfl (D + 1) 50 ni _ 4 48 Tryd.underlying45 nhi nz0 nz1 nz2 rfl (by decide) rfl q m.code.length ck (m.code.flatMap xIn) rfl (flat_len (enc := xIn) (fun _ => rfl) _) (rd_flat (enc := xIn) (fun _ => rfl) (HRF.out.keep (by first | exact gb_drew _ _ | exact gb_tr (gb_drew _ _) (gb_alloc _ _ _)))) (one_in _) hn (by unfold maxLen; omega) (by omega) (by first | omega | (simp; omega)) ?_
                       intro g2 k2 w2 hown2 hgrow2 hat2 hlt2
                       have HO2 : Hid (w2.ownsRow (D + 1) 50 4 (.slice (some ⟨g2, 0, none⟩) m.code.length k2) m.code.length (m.code.flatMap xIn)) := hown2
                       have hgA : wc.grownBy w2 none := by first | exact gb_tr (gb_drew _ _) hgrow2 | exact gb_tr (gb_tr (gb_drew _ _) (gb_alloc _ _ _)) hgrow2
                       have x2 := hgA.cell c2 (by simp)
                       have hs2 := hgA.size
                       have x2a : ∀ o, (w2.alloc o).cell? ⟨wr.heap.size, 6, none⟩ = some (.slice (some q) m.code.length ck) := fun o => (gb_tr hgA (gb_alloc _ _ _)).cell c2 (by simp)
                       have hge2 : wc.heap.size ≤ g2 := by rw [hat2]; simp
                       clear hat2)
                    | (refine step_append_lies _ rfl _ _ 45 rfl (D + 1) 50 ni _ 4 48 Tryd.underlying45 nhi nz0 nz1 nz2 rfl (by decide) (.slice (some ⟨g2, 0, none⟩) m.code.length k2) m.code.length (m.code.flatMap xIn) rfl (World.ownsRow.alloc HO2.out _) ⟨w2.heap.size, 0, none⟩ 1 1 mineI rfl rfl (new_cells w2 mineI 50) (by simp [mineI, Value.oneCell']) (by omega) (by unfold maxLen; omega) (by omega) (by first | omega | (simp; omega)) _ rfl ?_
                       intro g3 k3 w3 hown3 hgrow3 hat3 hlt3
                       have hgB : wc.grownBy w3 none := gb_trans (gb_tr hgA (gb_alloc _ _ _)) hgrow3 (fun k e => .inl (by simp only [Value.ownBlock, Option.some.injEq] at e; omega))
                       have hge3 : wc.heap.size ≤ g3 := by
                         rcases hat3 with e | e
                         · simp only [Value.ownBlock, Option.some.injEq] at e; omega
                         · first | (rw [World.size_alloc] at e; omega) | omega
                       have x3 := hgB.cell c2 (by simp)
                       have y3 := hgB.cell d2 (by simp)
                       have z3 : w3.frozen? ⟨wr.heap.size, 6, none⟩ = false := (hgB.frozen_far ⟨wr.heap.size, 6, none⟩ hDW (by simp)).trans z2
                       have hcap := own_cap hown3
                       have hcap2 : m.code.length ≤ k3 := by omega)
                    | (refine step_append_lies _ rfl _ _ 45 rfl (D + 1) 50 ni _ 4 48 Tryd.underlying45 nhi nz0 nz1 nz2 rfl (by decide) (.slice (some ⟨g2, 0, none⟩) m.code.length k2) m.code.length (m.code.flatMap xIn) rfl (HO2.out) ⟨wc.heap.size, 0, none⟩ 1 1 mineI rfl rfl (fun j u hu => hgrow2.cell (new_cells wc.drew mineI 50 j u hu) (by simp)) (by simp [mineI, Value.oneCell']) (by omega) (by unfold maxLen; omega) (by omega) (by first | omega | (simp; omega)) _ rfl ?_
                       intro g3 k3 w3 hown3 hgrow3 hat3 hlt3
                       have hgB : wc.grownBy w3 none := gb_trans (hgA) hgrow3 (fun k e => .inl (by simp only [Value.ownBlock, Option.some.injEq] at e; omega))
                       have hge3 : wc.heap.size ≤ g3 := by
                         rcases hat3 with e | e
                         · simp only [Value.ownBlock, Option.some.injEq] at e; omega
                         · first | (rw [World.size_alloc] at e; omega) | omega
                       have x3 := hgB.cell c2 (by simp)
                       have y3 := hgB.cell d2 (by simp)
                       have z3 : w3.frozen? ⟨wr.heap.size, 6, none⟩ = false := (hgB.frozen_far ⟨wr.heap.size, 6, none⟩ hDW (by simp)).trans z2
                       have hcap := own_cap hown3
                       have hcap2 : m.code.length ≤ k3 := by omega))
                  all_goals
                    go_wp2_with fail
                    go_meet
                    case rel =>
                      exact ⟨some ⟨g3, 0, none⟩, k3, (HMB.out.keep hgB (by simp)).set 6 _, (HS1.out.keep hgB).keepBlk (HMB.out.keep hgB (by simp)) (by decide) (gb_set w3 ⟨wr.heap.size, 6, none⟩ _), .inr ⟨g3, rfl, hown3.kept (gb_set w3 ⟨wr.heap.size, 6, none⟩ _) (.inr (by simp only [Value.ownBlock, ne_eq, Option.some.injEq]; omega))⟩, gb_newSet (gb_tr HGW.out hgB) (Nat.le_refl _) 6 _⟩
                · have hx0 : m.code = [] := List.eq_nil_of_length_eq_zero (by omega)
                  have HX0 : Hid (m.code = []) := hx0
                  have HL0 : Hid (m.code.length = 0) := by unfold Hid; rw [hx0]; rfl
                  clear hx0
                  have cA : ∀ o, (wc.drew.alloc o).cell? ⟨wr.heap.size, 6, none⟩ = some (.slice (some q) m.code.length ck) := fun o => (gb_tr (gb_drew _ _) (gb_alloc _ _ none)).cell c2 (by simp)
                  go_wp2_with fail
                  go_region_law (first
                    | (refine step_append_none _ rfl _ _ 45 rfl 50 ni _ 4 48 Tryd.underlying45 nhi nz0 nz1 nz2 rfl (by decide) rfl q m.code.length ck rfl HL0.out ?_
                       intro w2 hgrow2
                       have hgA : wc.grownBy w2 none := by first | exact gb_tr (gb_drew _ _) hgrow2 | exact gb_tr (gb_tr (gb_drew _ _) (gb_alloc _ _ _)) hgrow2
                       have x2 := hgA.cell c2 (by simp)
                       have x2a : ∀ o, (w2.alloc o).cell? ⟨wr.heap.size, 6, none⟩ = some (.slice (some q) m.code.length ck) := fun o => (gb_tr hgA (gb_alloc _ _ _)).cell c2 (by simp)
                       have hs2 := hgA.size)
                    | (refine step_append_copy _ rfl _ _ 45 rfl (D + 1) 50 ni _ 4 48 Tryd.underlying45 nhi nz0 nz1 nz2 rfl (by decide) rfl ⟨w2.heap.size, 0, none⟩ 1 1 mineI rfl rfl (new_cells w2 mineI 50) (by simp [mineI, Value.oneCell']) (by omega) (by unfold maxLen; omega) (by omega) (by first | omega | (simp; omega)) ?_
                       intro g3 k3 w3 hown3 hgrow3 hat3 hlt3
                       have hgB : wc.grownBy w3 none := gb_tr (gb_tr hgA (gb_alloc _ _ _)) hgrow3
                       have x3 := hgB.cell c2 (by simp)
                       have y3 := hgB.cell d2 (by simp)
                       have z3 : w3.frozen? ⟨wr.heap.size, 6, none⟩ = false := (hgB.frozen_far ⟨wr.heap.size, 6, none⟩ hDW (by simp)).trans z2
                       have hcap : m.code.length + 1 ≤ k3 := by rw [HL0.out]; exact own_cap hown3
                       have hcap2 : m.code.length ≤ k3 := by omega
                       have hge3 : wc.heap.size ≤ g3 := by first | omega | (rw [hat3, World.size_alloc]; omega)
                       clear hat3)
                    | (refine step_append_copy _ rfl _ _ 45 rfl (D + 1) 50 ni _ 4 48 Tryd.underlying45 nhi nz0 nz1 nz2 rfl (by decide) rfl ⟨wc.heap.size, 0, none⟩ 1 1 mineI rfl rfl (fun j u hu => hgrow2.cell (new_cells wc.drew mineI 50 j u hu) (by simp)) (by simp [mineI, Value.oneCell']) (by omega) (by unfold maxLen; omega) (by omega) (by first | omega | (simp; omega)) ?_
                       intro g3 k3 w3 hown3 hgrow3 hat3 hlt3
                       have hgB : wc.grownBy w3 none := gb_tr (hgA) hgrow3
                       have x3 := hgB.cell c2 (by simp)
                       have y3 := hgB.cell d2 (by simp)
                       have z3 : w3.frozen? ⟨wr.heap.size, 6, none⟩ = false := (hgB.frozen_far ⟨wr.heap.size, 6, none⟩ hDW (by simp)).trans z2
                       have hcap : m.code.length + 1 ≤ k3 := by rw [HL0.out]; exact own_cap hown3
                       have hcap2 : m.code.length ≤ k3 := by omega
                       have hge3 : wc.heap.size ≤ g3 := by first | omega | (rw [hat3, World.size_alloc]; omega)
                       clear hat3))
                  all_goals
                    go_wp2_with fail
                    go_meet
                    case rel =>
                      refine ⟨some ⟨g3, 0, none⟩, k3, (HMB.out.keep hgB (by simp)).set 6 _, (HS1.out.keep hgB).keepBlk (HMB.out.keep hgB (by simp)) (by decide) (gb_set w3 ⟨wr.heap.size, 6, none⟩ _), .inr ⟨g3, rfl, ?_⟩, gb_newSet (gb_tr HGW.out hgB) (Nat.le_refl _) 6 _⟩
                      have := hown3.kept (gb_set w3 ⟨wr.heap.size, 6, none⟩ (.slice (some ⟨g3, 0, none⟩) m.code.length k3)) (.inr (by simp only [Value.ownBlock, ne_eq, Option.some.injEq]; omega))
                      rw [HX0.out]
                      rw [HX0.out] at this
                      exact this
            case rest =>
              obtain ⟨ca', ck', hmb, hs1, hs2, hg1⟩ := hcut
              clear HMB HGW HRC NC HS1
              have HMB : Hid (Blk wc wr.heap.size #[.string m.name, .slice pa' m.params.length pk', .int .i64 m.ret.kind, .string m.ret.name, .int .i64 m.stack, .int .i64 m.locals, .slice ca' m.code.length ck', .slice ha m.handlers.length hk] 48) := hmb
              have HS1 : Hid (Spare wc (D + 1) 41 2 xTy mineT pa' pk' m.params) := hs1
              have HS2 : Hid (Spare wc (D + 1) 50 4 xIn mineI ca' ck' m.code) := hs2
              have HGW : Hid (wr.grownBy wc none) := hg1
              clear hmb hs1 hs2 hg1
              have m5 := HMB.out.cell 7 _ rfl
              go_upto_if 68 with (fail)
              clear m5
              go_cut [] from 69 to 83 (fun wx => ∃ (ha' : Option Addr) (hk' : Nat), Blk wx wr.heap.size #[.string m.name, .slice pa' m.params.length pk', .int .i64 m.ret.kind, .string m.ret.name, .int .i64 m.stack, .int .i64 m.locals, .slice ca' m.code.length ck', .slice ha' m.handlers.length hk'] 48 ∧ Spare wx (D + 1) 41 2 xTy mineT pa' pk' m.params ∧ Spare wx (D + 1) 50 4 xIn mineI ca' ck' m.code ∧ Spare wx (D + 1) 52 4 xHd mineH ha' hk' m.handlers ∧ wr.grownBy wx none)
              case first =>
                clear fhi fz0 fz1 fz2 fi thi tz0 tz1 tz2 ti nhi nz0 nz1 nz2 ni mhi mz0 mz1 mz2 mi HCL HSP HD HA HR HG hcj hrm hlf hlm HIF HM HL1 HL2
                cases ha with
                | none =>
                  obtain ⟨hx, rfl⟩ := NH.out rfl
                  have HX : Hid (m.handlers = []) := hx
                  clear hx
                  go_wp2_with fail
                  go_meet
                  case rel => exact ⟨none, 0, HMB.out, HS1.out, HS2.out, .inl ⟨rfl, rfl, HX.out⟩, HGW.out⟩
                | some q =>
                  have HRF : Hid (RdRow wc lim 4 xHd (some q) m.handlers) := HRH.out.keep HGW.out
                  have c2 := HMB.out.cell 7 _ rfl
                  have d2 := HMB.out.cell 7 _ rfl
                  have z2 := HMB.out.frozen 7
                  have hDW : wr.heap.size < wc.heap.size := HMB.out.lt
                  have hbW : D + 1 ≤ wc.heap.size := by omega
                  by_cases hn : 0 < m.handlers.length
                  · have cA : ∀ o, (wc.drew.alloc o).cell? ⟨wr.heap.size, 7, none⟩ = some (.slice (some q) m.handlers.length hk) := fun o => (gb_tr (gb_drew _ _) (gb_alloc _ _ none)).cell c2 (by simp)
                    go_wp2_with fail
                    go_region_law (first
                      | (refine step_append_copy _ rfl _ _ 46 rfl (D + 1) 52 di _ 4 40 Tryd.underlying46 dhi dz0 dz1 dz2 rfl (by decide) rfl q m.handlers.length hk (m.handlers.flatMap xHd) rfl (flat_len (enc := xHd) (fun _ => rfl) _) (rd_flat (enc := xHd) (fun _ => rfl) (HRF.out.keep (by first | exact gb_drew _ _ | exact gb_tr (gb_drew _ _) (gb_alloc _ _ _)))) (one_hd _) hn (by unfold maxLen; omega) (by omega) (by first | omega | (simp; omega)) ?_
                         intro g2 k2 w2 hown2 hgrow2 hat2 hlt2
                         have HO2 : Hid (w2.ownsRow (D + 1) 52 4 (.slice (some ⟨g2, 0, none⟩) m.handlers.length k2) m.handlers.length (m.handlers.flatMap xHd)) := hown2
                         have hgA : wc.grownBy w2 none := by first | exact gb_tr (gb_drew _ _) hgrow2 | exact gb_tr (gb_tr (gb_drew _ _) (gb_alloc _ _ _)) hgrow2
                         have x2 := hgA.cell c2 (by simp)
                         have hs2 := hgA.size
                         have x2a : ∀ o, (w2.alloc o).cell? ⟨wr.heap.size, 7, none⟩ = some (.slice (some q) m.handlers.length hk) := fun o => (gb_tr hgA (gb_alloc _ _ _)).cell c2 (by simp)
                         have hge2 : wc.heap.size ≤ g2 := by rw [hat2]; simp
                         clear hat2)
                      | (refine step_append_lies _ rfl _ _ 46 rfl (D + 1) 52 di _ 4 40 Tryd.underlying46 dhi dz0 dz1 dz2 rfl (by decide) (.slice (some ⟨g2, 0, none⟩) m.handlers.length k2) m.handlers.length (m.handlers.flatMap xHd) rfl (World.ownsRow.alloc HO2.out _) ⟨w2.heap.size, 0, none⟩ 1 1 mineH rfl rfl (new_cells w2 mineH 52) (by simp [mineH, Value.oneCell']) (by omega) (by unfold maxLen; omega) (by omega) (by first | omega | (simp; omega)) _ rfl ?_
                         intro g3 k3 w3 hown3 hgrow3 hat3 hlt3
                         have hgB : wc.grownBy w3 none := gb_trans (gb_tr hgA (gb_alloc _ _ _)) hgrow3 (fun k e => .inl (by simp only [Value.ownBlock, Option.some.injEq] at e; omega))
                         have hge3 : wc.heap.size ≤ g3 := by
                           rcases hat3 with e | e
                           · simp only [Value.ownBlock, Option.some.injEq] at e; omega
                           · first | (rw [World.size_alloc] at e; omega) | omega
                         have x3 := hgB.cell c2 (by simp)
                         have y3 := hgB.cell d2 (by simp)
                         have z3 : w3.frozen? ⟨wr.heap.size, 7, none⟩ = false := (hgB.frozen_far ⟨wr.heap.size, 7, none⟩ hDW (by simp)).trans z2
                         have hcap := own_cap hown3
                         have hcap2 : m.handlers.length ≤ k3 := by omega)
                      | (refine step_append_lies _ rfl _ _ 46 rfl (D + 1) 52 di _ 4 40 Tryd.underlying46 dhi dz0 dz1 dz2 rfl (by decide) (.slice (some ⟨g2, 0, none⟩) m.handlers.length k2) m.handlers.length (m.handlers.flatMap xHd) rfl (HO2.out) ⟨wc.heap.size, 0, none⟩ 1 1 mineH rfl rfl (fun j u hu => hgrow2.cell (new_cells wc.drew mineH 52 j u hu) (by simp)) (by simp [mineH, Value.oneCell']) (by omega) (by unfold maxLen; omega) (by omega) (by first | omega | (simp; omega)) _ rfl ?_
                         intro g3 k3 w3 hown3 hgrow3 hat3 hlt3
                         have hgB : wc.grownBy w3 none := gb_trans (hgA) hgrow3 (fun k e => .inl (by simp only [Value.ownBlock, Option.some.injEq] at e; omega))
                         have hge3 : wc.heap.size ≤ g3 := by
                           rcases hat3 with e | e
                           · simp only [Value.ownBlock, Option.some.injEq] at e; omega
                           · first | (rw [World.size_alloc] at e; omega) | omega
                         have x3 := hgB.cell c2 (by simp)
                         have y3 := hgB.cell d2 (by simp)
                         have z3 : w3.frozen? ⟨wr.heap.size, 7, none⟩ = false := (hgB.frozen_far ⟨wr.heap.size, 7, none⟩ hDW (by simp)).trans z2
                         have hcap := own_cap hown3
                         have hcap2 : m.handlers.length ≤ k3 := by omega))
                    all_goals
                      go_wp2_with fail
                      go_meet
                      case rel =>
                        exact ⟨some ⟨g3, 0, none⟩, k3, (HMB.out.keep hgB (by simp)).set 7 _, (HS1.out.keep hgB).keepBlk (HMB.out.keep hgB (by simp)) (by decide) (gb_set w3 ⟨wr.heap.size, 7, none⟩ _), (HS2.out.keep hgB).keepBlk (HMB.out.keep hgB (by simp)) (by decide) (gb_set w3 ⟨wr.heap.size, 7, none⟩ _), .inr ⟨g3, rfl, hown3.kept (gb_set w3 ⟨wr.heap.size, 7, none⟩ _) (.inr (by simp only [Value.ownBlock, ne_eq, Option.some.injEq]; omega))⟩, gb_newSet (gb_tr HGW.out hgB) (Nat.le_refl _) 7 _⟩
                  · have hx0 : m.handlers = [] := List.eq_nil_of_length_eq_zero (by omega)
                    have HX0 : Hid (m.handlers = []) := hx0
                    have HL0 : Hid (m.handlers.length = 0) := by unfold Hid; rw [hx0]; rfl
                    clear hx0
                    have cA : ∀ o, (wc.drew.alloc o).cell? ⟨wr.heap.size, 7, none⟩ = some (.slice (some q) m.handlers.length hk) := fun o => (gb_tr (gb_drew _ _) (gb_alloc _ _ none)).cell c2 (by simp)
                    go_wp2_with fail
                    go_region_law (first
                      | (refine step_append_none _ rfl _ _ 46 rfl 52 di _ 4 40 Tryd.underlying46 dhi dz0 dz1 dz2 rfl (by decide) rfl q m.handlers.length hk rfl HL0.out ?_
                         intro w2 hgrow2
                         have hgA : wc.grownBy w2 none := by first | exact gb_tr (gb_drew _ _) hgrow2 | exact gb_tr (gb_tr (gb_drew _ _) (gb_alloc _ _ _)) hgrow2
                         have x2 := hgA.cell c2 (by simp)
                         have x2a : ∀ o, (w2.alloc o).cell? ⟨wr.heap.size, 7, none⟩ = some (.slice (some q) m.handlers.length hk) := fun o => (gb_tr hgA (gb_alloc _ _ _)).cell c2 (by simp)
                         have hs2 := hgA.size)
                      | (refine step_append_copy _ rfl _ _ 46 rfl (D + 1) 52 di _ 4 40 Tryd.underlying46 dhi dz0 dz1 dz2 rfl (by decide) rfl ⟨w2.heap.size, 0, none⟩ 1 1 mineH rfl rfl (new_cells w2 mineH 52) (by simp [mineH, Value.oneCell']) (by omega) (by unfold maxLen; omega) (by omega) (by first | omega | (simp; omega)) ?_
                         intro g3 k3 w3 hown3 hgrow3 hat3 hlt3
                         have hgB : wc.grownBy w3 none := gb_tr (gb_tr hgA (gb_alloc _ _ _)) hgrow3
                         have x3 := hgB.cell c2 (by simp)
                         have y3 := hgB.cell d2 (by simp)
                         have z3 : w3.frozen? ⟨wr.heap.size, 7, none⟩ = false := (hgB.frozen_far ⟨wr.heap.size, 7, none⟩ hDW (by simp)).trans z2
                         have hcap : m.handlers.length + 1 ≤ k3 := by rw [HL0.out]; exact own_cap hown3
                         have hcap2 : m.handlers.length ≤ k3 := by omega
                         have hge3 : wc.heap.size ≤ g3 := by first | omega | (rw [hat3, World.size_alloc]; omega)
                         clear hat3)
                      | (refine step_append_copy _ rfl _ _ 46 rfl (D + 1) 52 di _ 4 40 Tryd.underlying46 dhi dz0 dz1 dz2 rfl (by decide) rfl ⟨wc.heap.size, 0, none⟩ 1 1 mineH rfl rfl (fun j u hu => hgrow2.cell (new_cells wc.drew mineH 52 j u hu) (by simp)) (by simp [mineH, Value.oneCell']) (by omega) (by unfold maxLen; omega) (by omega) (by first | omega | (simp; omega)) ?_
                         intro g3 k3 w3 hown3 hgrow3 hat3 hlt3
                         have hgB : wc.grownBy w3 none := gb_tr (hgA) hgrow3
                         have x3 := hgB.cell c2 (by simp)
                         have y3 := hgB.cell d2 (by simp)
                         have z3 : w3.frozen? ⟨wr.heap.size, 7, none⟩ = false := (hgB.frozen_far ⟨wr.heap.size, 7, none⟩ hDW (by simp)).trans z2
                         have hcap : m.handlers.length + 1 ≤ k3 := by rw [HL0.out]; exact own_cap hown3
                         have hcap2 : m.handlers.length ≤ k3 := by omega
                         have hge3 : wc.heap.size ≤ g3 := by first | omega | (rw [hat3, World.size_alloc]; omega)
                         clear hat3))
                    all_goals
                      go_wp2_with fail
                      go_meet
                      case rel =>
                        refine ⟨some ⟨g3, 0, none⟩, k3, (HMB.out.keep hgB (by simp)).set 7 _, (HS1.out.keep hgB).keepBlk (HMB.out.keep hgB (by simp)) (by decide) (gb_set w3 ⟨wr.heap.size, 7, none⟩ _), (HS2.out.keep hgB).keepBlk (HMB.out.keep hgB (by simp)) (by decide) (gb_set w3 ⟨wr.heap.size, 7, none⟩ _), .inr ⟨g3, rfl, ?_⟩, gb_newSet (gb_tr HGW.out hgB) (Nat.le_refl _) 7 _⟩
                        have := hown3.kept (gb_set w3 ⟨wr.heap.size, 7, none⟩ (.slice (some ⟨g3, 0, none⟩) m.handlers.length k3)) (.inr (by simp only [Value.ownBlock, ne_eq, Option.some.injEq]; omega))
                        rw [HX0.out]
                        rw [HX0.out] at this
                        exact this
              case rest =>
                obtain ⟨ha', hk', hmb, hs1, hs2, hs3, hg1⟩ := hcut
                clear HMB HGW HRH NH HS1 HS2
                have HMB : Hid (Blk wc wr.heap.size #[.string m.name, .slice pa' m.params.length pk', .int .i64 m.ret.kind, .string m.ret.name, .int .i64 m.stack, .int .i64 m.locals, .slice ca' m.code.length ck', .slice ha' m.handlers.length hk'] 48) := hmb
                have HS1 : Hid (Spare wc (D + 1) 41 2 xTy mineT pa' pk' m.params) := hs1
                have HS2 : Hid (Spare wc (D + 1) 50 4 xIn mineI ca' ck' m.code) := hs2
                have HS3 : Hid (Spare wc (D + 1) 52 4 xHd mineH ha' hk' m.handlers) := hs3
                have HGW : Hid (wr.grownBy wc none) := hg1
                clear hmb hs1 hs2 hs3 hg1
                obtain ⟨css, hcs1, hcs2, hcs3⟩ := HCL.out
                have HC1 : Hid (css.length = j) := hcs1
                have HC3 : Hid (∀ q (hq : q < j) (h2 : q < c.methods.length) (h3 : q < css.length), CopMe wr (D + 1) c.methods[q] css[q]) := hcs3
                obtain ⟨la, lk, rfl⟩ := own_slice hcs2
                have HO : Hid ((wc.alloc (.cells #[.string m.name, .slice pa' m.params.length pk', .int .i64 m.ret.kind, .string m.ret.name, .int .i64 m.stack, .int .i64 m.locals, .slice ca' m.code.length ck', .slice ha' m.handlers.length hk'] 48)).ownsRow (D + 1) 48 8 (.slice la j lk) j css.flatten) := (hcs2.kept HGW.out (by cases (Value.slice la j lk).ownBlock <;> simp)).alloc _
                clear hcs1 hcs2 hcs3 HCL
                have hdc : D + 1 ≤ wc.heap.size := by have := HGW.out.size; omega
                have n0 := HMB.out.cell 0 _ rfl
                have n1 := HMB.out.cell 1 _ rfl
                have n2 := HMB.out.cell 2 _ rfl
                have n3 := HMB.out.cell 3 _ rfl
                have n4 := HMB.out.cell 4 _ rfl
                have n5 := HMB.out.cell 5 _ rfl
                have n6 := HMB.out.cell 6 _ rfl
                have n7 := HMB.out.cell 7 _ rfl
                go_wp2_with (at_builtin; go_loud (refine wpList_append_lies _ rfl _ _ 23 rfl (D + 1) 48 mi _ 8 128 Tryd.underlying23 mhi mz0 mz1 mz2 rfl (by decide) (.slice la j lk) j css.flatten rfl HO.out ⟨wc.heap.size, 0, none⟩ 1 1 [.string m.name, .slice pa' m.params.length pk', .int .i64 m.ret.kind, .string m.ret.name, .int .i64 m.stack, .int .i64 m.locals, .slice ca' m.code.length ck', .slice ha' m.handlers.length hk'] rfl rfl (new_cells wc [.string m.name, .slice pa' m.params.length pk', .int .i64 m.ret.kind, .string m.ret.name, .int .i64 m.stack, .int .i64 m.locals, .slice ca' m.code.length ck', .slice ha' m.handlers.length hk'] 48) (by simp [Value.oneCell']) (by omega) (by unfold maxLen; omega) (by omega) (by simp; omega) _ rfl ?_); intro g5 k5 w5 hown5 hgrow5 hat5 hlt5)
                have hgA : wr.grownBy (wc.alloc (.cells #[.string m.name, .slice pa' m.params.length pk', .int .i64 m.ret.kind, .string m.ret.name, .int .i64 m.stack, .int .i64 m.locals, .slice ca' m.code.length ck', .slice ha' m.handlers.length hk'] 48)) none := gb_tr HGW.out (gb_alloc _ _ _)
                have hne : ∀ b, b ≤ D → some b ≠ (Value.slice la j lk).ownBlock := fun b hb e => by have := (own_some HO.out e.symm).1; omega
                go_roundw
                case rel =>
                  refine ⟨j + 1, hlt, by go_num, ⟨css ++ [[.string m.name, .slice pa' m.params.length pk', .int .i64 m.ret.kind, .string m.ret.name, .int .i64 m.stack, .int .i64 m.locals, .slice ca' m.code.length ck', .slice ha' m.handlers.length hk']], by rw [List.length_append, HC1.out]; rfl, ?_, ?_⟩, (HSP.out.keep hgA).keepRow HO.out (by decide) hgrow5, (HD.out.keep hgA (by simp)).keep hgrow5 (hne D (Nat.le_refl _)), gb_trans (gb_tr HG.out hgA) hgrow5 (fun k e => .inl (by have := (own_some HO.out e).1; omega)), (HA.out.keep hgA (by simp)).keep hgrow5 (hne _ (by omega)), (HR.out.keep hgA (by simp)).keep hgrow5 (hne _ (by omega))⟩
                  · rw [List.flatten_append, List.flatten_singleton]; exact hown5
                  · intro q hq h2 h3
                    by_cases hqj : q < j
                    · have h4 : q < css.length := by rw [HC1.out]; exact hqj
                      rw [List.getElem_append_left h4]
                      exact ((HC3.out q hqj h2 h4).keep hgA).keepRow HO.out hgrow5
                    · obtain rfl : q = j := by omega
                      have : (css ++ [[.string m.name, .slice pa' m.params.length pk', .int .i64 m.ret.kind, .string m.ret.name, .int .i64 m.stack, .int .i64 m.locals, .slice ca' m.code.length ck', .slice ha' m.handlers.length hk']])[q] = [.string m.name, .slice pa' m.params.length pk', .int .i64 m.ret.kind, .string m.ret.name, .int .i64 m.stack, .int .i64 m.locals, .slice ca' m.code.length ck', .slice ha' m.handlers.length hk'] := by rw [List.getElem_append_right (by rw [HC1.out]; exact Nat.le_refl _)]; simp [HC1.out]
                      rw [this, ← HM.out]
                      have hgc : wc.grownBy (wc.alloc (.cells #[.string m.name, .slice pa' m.params.length pk', .int .i64 m.ret.kind, .string m.ret.name, .int .i64 m.stack, .int .i64 m.locals, .slice ca' m.code.length ck', .slice ha' m.handlers.length hk'] 48)) none := gb_alloc _ _ _
                      exact ⟨pa', ca', ha', pk', ck', hk', rfl, (HS1.out.keep hgc).keepRow HO.out (by decide) hgrow5, (HS2.out.keep hgc).keepRow HO.out (by decide) hgrow5, (HS3.out.keep hgc).keepRow HO.out (by decide) hgrow5⟩
                case measure => simp [intOf]; omega
        · obtain rfl : j = c.methods.length := by omega
          obtain ⟨css, hcs1, hcs2, hcs3⟩ := HCL.out
          have HC1 : Hid (css.length = c.methods.length) := hcs1
          have HC3 : Hid (∀ q (hq : q < c.methods.length) (h2 : q < c.methods.length) (h3 : q < css.length), CopMe wr (D + 1) c.methods[q] css[q]) := hcs3
          obtain ⟨la, lk, rfl⟩ := own_slice hcs2
          have HO : Hid ((wr.alloc (.cells mineM.toArray 48)).ownsRow (D + 1) 48 8 (.slice la c.methods.length lk) c.methods.length css.flatten) := hcs2.alloc _
          clear hcs1 hcs2 hcs3 HCL
          have hdc : D < wr.heap.size := HD.out.lt
          have hne : Hid (∀ b, b ≤ D → some b ≠ (Value.slice la c.methods.length lk).ownBlock) := fun b hb e => by have := (own_some HO.out e.symm).1; omega
          go_wp2_with (at_builtin; go_loud (refine wpList_append_lies _ rfl _ _ 23 rfl (D + 1) 48 mi _ 8 128 Tryd.underlying23 mhi mz0 mz1 mz2 rfl (by decide) (.slice la c.methods.length lk) c.methods.length css.flatten rfl HO.out ⟨wr.heap.size, 0, none⟩ 1 1 mineM rfl rfl (new_cells wr mineM 48) (by simp [mineM, Value.oneCell']) (by omega) (by unfold maxLen; omega) (by omega) (by simp; omega) _ rfl ?_)
                       intro g5 k5 w5 hown5 hgrow5 hat5 hlt5
                       have HO5 : Hid (w5.ownsRow (D + 1) 48 8 (.slice (some ⟨g5, 0, none⟩) (c.methods.length + 1) k5) (c.methods.length + 1) (css.flatten ++ mineM)) := hown5
                       have HGR : Hid ((wr.alloc (.cells mineM.toArray 48)).grownBy w5 (Value.slice la c.methods.length lk).ownBlock) := hgrow5
                       have hcap := own_cap hown5
                       have hcap2 : c.methods.length ≤ k5 := by omega
                       have hD5 : Blk w5 D #[.string c.name, .string c.super, .slice fa' c.fields.length fk', .slice (some p) c.methods.length mk] 25 := (HD.out.keep (gb_alloc _ _ none) (by simp)).keep hgrow5 (hne.out D (Nat.le_refl _))
                       have hR5 : Blk w5 (w.heap.size + 1) #[.string ⟨#[]⟩, .string ⟨#[]⟩, .slice none 0 0, .slice none 0 0] 25 := (HR.out.keep (gb_alloc _ _ none) (by simp)).keep hgrow5 (hne.out _ (by omega))
                       have HD5 : Hid (Blk w5 D #[.string c.name, .string c.super, .slice fa' c.fields.length fk', .slice (some p) c.methods.length mk] 25) := hD5
                       have HR5 : Hid (Blk w5 (w.heap.size + 1) #[.string ⟨#[]⟩, .string ⟨#[]⟩, .slice none 0 0, .slice none 0 0] 25) := hR5
                       have d0 := hD5.cell 0 _ rfl
                       have d1 := hD5.cell 1 _ rfl
                       have d2 := hD5.cell 2 _ rfl
                       have d3 := hD5.cell 3 _ rfl
                       have z3 := hD5.frozen 3
                       have r0 := hR5.cell 0 _ rfl
                       have r1 := hR5.cell 1 _ rfl
                       have r2 := hR5.cell 2 _ rfl
                       have r3 := hR5.cell 3 _ rfl
                       have s0 := hR5.frozen 0
                       have s1 := hR5.frozen 1
                       have s2 := hR5.frozen 2
                       have s3 := hR5.frozen 3
                       have hDn : ¬ D = w.heap.size + 1 := by omega
                       have hDn2 : ¬ w.heap.size + 1 = D := by omega
                       clear hown5 hgrow5 hat5 hD5 hR5)
          obtain ⟨W2, hW2⟩ : ∃ W2, W2 = (((((w5.setCell ⟨D, 3, none⟩ (.slice (some ⟨g5, 0, none⟩) c.methods.length k5)).setCell ⟨w.heap.size + 1, 0, none⟩ (.string c.name)).setCell ⟨w.heap.size + 1, 1, none⟩ (.string c.super)).setCell ⟨w.heap.size + 1, 2, none⟩ (.slice fa' c.fields.length fk')).setCell ⟨w.heap.size + 1, 3, none⟩ (.slice (some ⟨g5, 0, none⟩) c.methods.length k5)) := ⟨_, rfl⟩
          have hgD : w5.grownBy (w5.setCell ⟨D, 3, none⟩ (.slice (some ⟨g5, 0, none⟩) c.methods.length k5)) (some D) := gb_set w5 ⟨D, 3, none⟩ _
          have HB : Blk W2 (w.heap.size + 1) #[.string c.name, .string c.super, .slice fa' c.fields.length fk', .slice (some ⟨g5, 0, none⟩) c.methods.length k5] 25 := by rw [hW2]; exact ((((HR5.out.keep hgD (by simp; omega)).set 0 _).set 1 _).set 2 _).set 3 _
          have hgR : (w5.setCell ⟨D, 3, none⟩ (.slice (some ⟨g5, 0, none⟩) c.methods.length k5)).grownBy W2 (some (w.heap.size + 1)) := by rw [hW2]; exact gb_tr (gb_tr (gb_tr (gb_set _ ⟨w.heap.size + 1, 0, none⟩ _) (gb_set _ ⟨w.heap.size + 1, 1, none⟩ _)) (gb_set _ ⟨w.heap.size + 1, 2, none⟩ _)) (gb_set _ ⟨w.heap.size + 1, 3, none⟩ _)
          rw [← hW2]
          clear hW2
          clear r0 r1 r2 r3
          have r0 := HB.cell 0 _ rfl
          have r1 := HB.cell 1 _ rfl
          have r2 := HB.cell 2 _ rfl
          have r3 := HB.cell 3 _ rfl
          refine bodyPost_ret (v := .agg #[.string c.name, .string c.super, .slice fa' c.fields.length fk', .slice (some ⟨g5, 0, none⟩) c.methods.length k5]) (by simp [results, Tryd.results5, go_sem, r0, r1, r2, r3]) rfl ?_
          have hga : wr.grownBy (wr.alloc (.cells mineM.toArray 48)) none := gb_alloc _ _ _
          have hgw5 : w.grownBy w5 none := gb_trans (gb_tr HG.out hga) HGR.out (fun k e => .inl (by have := (own_some HO.out e).1; omega))
          have hgw2 : w.grownBy W2 none := gb_trans (gb_trans hgw5 hgD (fun k e => .inl (by simp only [Option.some.injEq] at e; omega))) hgR (fun k e => .inl (by simp only [Option.some.injEq] at e; omega))
          have hkeep : ∀ {e s n : Nat} {v : Value} {cs : List Value}, w5.ownsRow (D + 1) e s v n cs → W2.ownsRow (D + 1) e s v n cs := fun h => (h.kept hgD (.inr (own_ne h (Nat.lt_succ_self _)))).kept hgR (.inr (own_ne (h.kept hgD (.inr (own_ne h (Nat.lt_succ_self _)))) (by omega)))
          refine ⟨_, rfl, hgw2, D + 1, fa', some ⟨g5, 0, none⟩, fk', k5, rfl, by omega, ?_, ((((HSP.out.keep hga).keepRow HO.out (by decide) HGR.out).keepAt hgD (by omega)).keepAt hgR (by omega)), HIF.out, .inr ⟨g5, css, by simp, rfl, HC1.out, hkeep HO5.out, fun q hq h3 => ?_⟩⟩
          · have h1 := HD.out.lt
            have h2 := HGR.out.size
            have h3 := hga.size
            have h4 := hgD.size
            have h5 := hgR.size
            omega
          · obtain ⟨pa', ca', ha', pk', ck', hk', e, q1, q2, q3⟩ := ((HC3.out q hq hq h3).keep hga).keepRow HO.out HGR.out
            exact ⟨pa', ca', ha', pk', ck', hk', e, (q1.keepAt hgD (by omega)).keepAt hgR (by omega), (q2.keepAt hgD (by omega)).keepAt hgR (by omega), (q3.keepAt hgD (by omega)).keepAt hgR (by omega)⟩
end Go.Proofs.YtdhophglnhcjbaaDoor
