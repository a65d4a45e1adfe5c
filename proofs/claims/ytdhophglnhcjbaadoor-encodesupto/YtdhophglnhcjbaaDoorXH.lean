/- A class that came in, read: its values, where they lie, and how many they are. -/
import Derived.Test.YtdhophglnhcjbaaDoorX33
import Derived.Test.YtdhophglnhcjbaaDoorRows
import Derived.Deep.Slices
import Derived.OpenShut
import Derived.Deep.Strs
import Derived.Lib.SmallJoins
set_option linter.unusedVariables false
set_option linter.unusedSimpArgs false
namespace Go.Proofs.YtdhophglnhcjbaaDoor
open Go.RowKit Cf

/-- the methods that were copied, place by place; and the one behind them -/
structure CopMs (w : World) (base : Nat) (ma' : Option Addr) (mk' : Nat) (ms : List XMe) (g : Nat) : Prop where
  at_ : ma' = some ⟨g, 0, none⟩
  lt : g < w.heap.size
  cap : ms.length + 1 ≤ mk'
  me : ∀ j (hj : j < ms.length), ∃ (pa ca ha : Option Addr) (pk ck hk : Nat), Spare w base 41 2 xTy mineT pa pk ms[j].params ∧ Spare w base 50 4 xIn mineI ca ck ms[j].code ∧ Spare w base 52 4 xHd mineH ha hk ms[j].handlers ∧
    ∀ r u, ([.string ms[j].name, .slice pa ms[j].params.length pk, .int .i64 ms[j].ret.kind, .string ms[j].ret.name, .int .i64 ms[j].stack, .int .i64 ms[j].locals, .slice ca ms[j].code.length ck, .slice ha ms[j].handlers.length hk] : List Value)[r]? = some u → w.cell? ⟨g, j * 8 + r, none⟩ = some u
  behind : ∀ r u, mineM[r]? = some u → w.cell? ⟨g, ms.length * 8 + r, none⟩ = some u
theorem CopMs.keep {w w' : World} {base mk' g : Nat} {ma' : Option Addr} {ms : List XMe} (h : CopMs w base ma' mk' ms g) (hg : w.grownBy w' none) : CopMs w' base ma' mk' ms g := by
  refine ⟨h.at_, Nat.lt_of_lt_of_le h.lt hg.size, h.cap, fun j hj => ?_, fun r u hu => hg.cell (h.behind r u hu) (by simp)⟩
  obtain ⟨pa, ca, ha, pk, ck, hk, h1, h2, h3, h4⟩ := h.me j hj
  exact ⟨pa, ca, ha, pk, ck, hk, h1.keep hg, h2.keep hg, h3.keep hg, fun r u hu => hg.cell (h4 r u hu) (by simp)⟩
theorem add_off (g o k : Nat) : (⟨g, o, none⟩ : Addr).add k = ⟨g, o + k, none⟩ := by
  unfold Addr.add
  split
  · rename_i h; subst h; rfl
  · rfl
theorem copMs_of {w : World} {base mk' g : Nat} {ms : List XMe} {css : List (List Value)} (h1 : css.length = ms.length) (h2 : w.ownsRow base 48 8 (.slice (some ⟨g, 0, none⟩) (ms.length + 1) mk') (ms.length + 1) (css.flatten ++ mineM)) (h3 : ∀ j (hj : j < ms.length) (h3 : j < css.length), CopMe w base ms[j] css[j]) : CopMs w base (some ⟨g, 0, none⟩) mk' ms g := by
  have h8 : ∀ c ∈ css, c.length = 8 := by
    intro c hcm
    obtain ⟨i, hi, rfl⟩ := List.getElem_of_mem hcm
    obtain ⟨pa, ca, ha, pk, ck, hk, e, -⟩ := h3 i (by omega) hi
    rw [e]; rfl
  have hfl : css.flatten.length = ms.length * 8 := by
    rw [← h1]
    clear h1 h2 h3
    induction css with
    | nil => rfl
    | cons x l ih => rw [List.flatten_cons, List.length_append, h8 x (by simp), ih (fun c hc => h8 c (by simp [hc])), List.length_cons, Nat.succ_mul]; omega
  refine ⟨rfl, (h2.lt g rfl).2, own_cap h2, fun j hj => ?_, fun r u hu => ?_⟩
  · obtain ⟨pa, ca, ha, pk, ck, hk, e, q1, q2, q3⟩ := h3 j hj (by omega)
    refine ⟨pa, ca, ha, pk, ck, hk, q1, q2, q3, fun r u hu => ?_⟩
    have hr : r < 8 := by
      have := (List.getElem?_eq_some_iff.1 hu).1
      simpa using this
    have hf := flatten_get css 8 h8 j (css[j]'(by omega)) (List.getElem?_eq_getElem (by omega)) r hr
    have hlt : j * 8 + r < css.flatten.length := by rw [hfl]; omega
    have := h2.cells (g := g) rfl (j * 8 + r) u (by rw [List.getElem?_append_left hlt, hf, e]; exact hu)
    rw [add_off, Nat.zero_add] at this
    exact this
  · have := h2.cells (g := g) rfl (ms.length * 8 + r) u (by rw [← hfl, List.getElem?_append_right (by omega), Nat.add_sub_cancel_left]; exact hu)
    rw [add_off, Nat.zero_add] at this
    exact this
theorem CopMs.rd {w : World} {base mk' g : Nat} {ma' : Option Addr} {ms : List XMe} (h : CopMs w base ma' mk' ms g) : RdMes w w.heap.size ma' ms := by
  intro j hj
  obtain ⟨pa, ca, ha, pk, ck, hk, h1, h2, h3, h4⟩ := h.me j hj
  refine ⟨⟨g, 0, none⟩, pa, ca, ha, pk, ck, hk, h.at_, h.lt, h1.rd (enc := xTy) (fun _ => rfl), h2.rd (enc := xIn) (fun _ => rfl), h3.rd (enc := xHd) (fun _ => rfl), fun r u hu => ?_⟩
  rw [add_off, Nat.zero_add]
  exact h4 r u hu

set_option maxRecDepth 100000 in
set_option maxHeartbeats 4000000 in
theorem untouched_any (w : World) (lim base g : Nat) (c : XCl) (fa ma fa' ma' : Option Addr) (fk mk fk' mk' : Nat) (hc : costCl c ≤ 2 ^ 40) (hrf : Hid (RdRow w lim 3 xFld fa c.fields)) (hrm : Hid (RdMes w lim ma c.methods)) (hsp : Hid (Spare w base 43 3 xFld mineF fa' fk' c.fields)) (hif : Hid (fa' = none ↔ fa = none)) (hfn : fa = none → c.fields = [] ∧ fk = 0)
    (hms : Hid ((ma = none ∧ mk = 0 ∧ ma' = none ∧ mk' = 0 ∧ c.methods = []) ∨ (ma ≠ none ∧ CopMs w base ma' mk' c.methods g))) :
    Calls Tryd.prog 8 #[.agg #[.string c.name, .string c.super, .slice fa' c.fields.length fk', .slice ma' c.methods.length mk'], .agg #[.string c.name, .string c.super, .slice fa c.fields.length fk, .slice ma c.methods.length mk]] w fun e w' => e = .returned (.bool true) ∧ w.grownBy w' none := by
  have hcl : 10 + 5 * c.fields.length + costMes c.methods ≤ 1099511627776 := by unfold costCl at hc; omega
  have hlf : c.fields.length ≤ 1099511627770 := by omega
  have hlm : c.methods.length ≤ 1099511627770 := by have := costMes_len c.methods; omega
  have hcj : Hid (∀ j (hj : j < c.methods.length), c.methods[j].params.length ≤ 1099511627776 ∧ c.methods[j].code.length ≤ 1099511627776 ∧ c.methods[j].handlers.length ≤ 1099511627776) := fun j hj => by
    have := costMes_each c.methods j hj
    unfold costMe at this
    omega
  have HFN : Hid (fa = none → c.fields = [] ∧ fk = 0) := hfn
  clear hcl hfn
  obtain ⟨w0, hw0⟩ : ∃ w0, w0 = (w.alloc (.cells #[.string c.name, .string c.super, .slice fa' c.fields.length fk', .slice ma' c.methods.length mk'] 25)).alloc (.cells #[.string c.name, .string c.super, .slice fa c.fields.length fk, .slice ma c.methods.length mk] 25) := ⟨_, rfl⟩
  have HG0 : Hid (w.grownBy w0 none) := by unfold Hid; rw [hw0]; exact gb_tr (gb_alloc _ _ _) (gb_alloc _ _ _)
  have HB1 : Hid (Blk w0 w.heap.size #[.string c.name, .string c.super, .slice fa' c.fields.length fk', .slice ma' c.methods.length mk'] 25) := by unfold Hid; rw [hw0]; exact (Blk.new w _ _).keep (gb_alloc _ _ none) (by simp)
  have HB2 : Hid (Blk w0 (w.heap.size + 1) #[.string c.name, .string c.super, .slice fa c.fields.length fk, .slice ma c.methods.length mk] 25) := by
    have := Blk.new (w.alloc (.cells #[.string c.name, .string c.super, .slice fa' c.fields.length fk', .slice ma' c.methods.length mk'] 25)) #[.string c.name, .string c.super, .slice fa c.fields.length fk, .slice ma c.methods.length mk] 25
    rw [size_alloc] at this
    unfold Hid; rw [hw0]; exact this
  have HF1 : Hid (RdRow w0 w.heap.size 3 xFld fa' c.fields) := (hsp.out.rd (enc := xFld) (fun _ => rfl)).keep HG0.out
  have HF2 : Hid (RdRow w0 lim 3 xFld fa c.fields) := hrf.out.keep HG0.out
  have HM1 : Hid (RdMes w0 w.heap.size ma' c.methods) := by
    unfold Hid
    rcases hms.out with ⟨_, _, _, _, h5⟩ | ⟨_, h5⟩
    · rw [h5]; intro j hj; cases hj
    · exact h5.rd.keep HG0.out
  have HM2 : Hid (RdMes w0 lim ma c.methods) := hrm.out.keep HG0.out
  go_enter Tryd.func8, Tryd.ntmps8
  go_wp2_with fail
  rw [← hw0]
  clear hw0
  refine (sameX_any w0 w.heap.size lim c fa' fa ma' ma fk' fk mk' mk HF1 HF2 HM1 HM2 hc).mono ?_
  rintro e w1 ⟨rfl, hg1⟩
  dsimp only
  have HG : Hid (w.grownBy w1 none) := gb_tr HG0.out hg1
  have HC1 : Hid (Blk w1 w.heap.size #[.string c.name, .string c.super, .slice fa' c.fields.length fk', .slice ma' c.methods.length mk'] 25) := HB1.out.keep hg1 (by simp)
  have HC2 : Hid (Blk w1 (w.heap.size + 1) #[.string c.name, .string c.super, .slice fa c.fields.length fk, .slice ma c.methods.length mk] 25) := HB2.out.keep hg1 (by simp)
  have HSP : Hid (Spare w1 base 43 3 xFld mineF fa' fk' c.fields) := hsp.out.keep HG.out
  clear HB1 HB2 HF1 HF2 HM1 HM2 HG0 hg1 hc hrf hrm hsp
  have a2 := HC1.out.cell 2 _ rfl
  have b2 := HC2.out.cell 2 _ rfl
  go_upto_if 31 with (fail)
  go_cut [31] from 13 (fun b wx => b = .bool false ∧ w1.grownBy wx none)
  case first =>
    cases fa with
    | none =>
      obtain ⟨hx, rfl⟩ := HFN.out rfl
      have hne : ∀ w, (binOp .neq 22 (.slice none c.fields.length 0) (.slice none 0 0)).run Tryd.prog w = .ok (.bool false) w := by intro w; rw [hx]; kernel_rfl
      clear hx
      go_quiet (fail)
      go_wp2_with fail
      go_meet
      case rel => exact ⟨rfl, gb_drewN _ _ _⟩
    | some p =>
      have hne : ∀ n k w, (binOp .neq 22 (.slice (some p) n k) (.slice none 0 0)).run Tryd.prog w = .ok (.bool true) w := by intro n k w; kernel_rfl
      obtain ⟨gf, hgf, hcap, hbe⟩ := HSP.out.behind (enc := xFld) (fun _ => rfl) (fun e => by have := hif.out.1 e; cases this)
      subst hgf
      have x0 : w1.cell? ⟨gf, c.fields.length * 3, none⟩ = some (.string ⟨#[109, 105, 110, 101]⟩) := hbe 0 _ rfl
      clear hbe
      go_quiet (fail)
      go_wp2_with fail
      go_meet
      case rel => exact ⟨rfl, gb_drewN _ _ _⟩
  case rest =>
    obtain ⟨rfl, hg2⟩ := hcut
    have HD1 : Hid (Blk wc w.heap.size #[.string c.name, .string c.super, .slice fa' c.fields.length fk', .slice ma' c.methods.length mk'] 25) := HC1.out.keep hg2 (by simp)
    have HD2 : Hid (Blk wc (w.heap.size + 1) #[.string c.name, .string c.super, .slice fa c.fields.length fk, .slice ma c.methods.length mk] 25) := HC2.out.keep hg2 (by simp)
    have HG2 : Hid (w.grownBy wc none) := gb_tr HG.out hg2
    clear HC1 HC2 HSP HG hg2 a2 b2
    have a3 := HD1.out.cell 3 _ rfl
    have b3 := HD2.out.cell 3 _ rfl
    go_upto_if 50 with (fail)
    go_cut [50] from 32 (fun b wx => b = .bool false ∧ wc.grownBy wx none)
    case first =>
      cases ma with
      | none =>
        obtain ⟨-, rfl, -, -, hx⟩ : none = none ∧ mk = 0 ∧ ma' = none ∧ mk' = 0 ∧ c.methods = [] := by
          rcases hms.out with h | ⟨h, _⟩
          · exact h
          · exact absurd rfl h
        have hne : ∀ w, (binOp .neq 23 (.slice none c.methods.length 0) (.slice none 0 0)).run Tryd.prog w = .ok (.bool false) w := by intro w; rw [hx]; kernel_rfl
        clear hx
        go_quiet (fail)
        go_wp2_with fail
        go_meet
        case rel => exact ⟨rfl, gb_drewN _ _ _⟩
      | some p =>
        have hne : ∀ n k w, (binOp .neq 23 (.slice (some p) n k) (.slice none 0 0)).run Tryd.prog w = .ok (.bool true) w := by intro n k w; kernel_rfl
        have hcm : CopMs wc base ma' mk' c.methods g := by
          rcases hms.out with ⟨h, _⟩ | ⟨_, h⟩
          · cases h
          · exact h.keep HG2.out
        obtain rfl := hcm.at_
        have hcap := hcm.cap
        have x0 : wc.cell? ⟨g, c.methods.length * 8, none⟩ = some (.string ⟨#[109, 105, 110, 101]⟩) := hcm.behind 0 _ rfl
        clear hcm
        go_quiet (fail)
        go_wp2_with fail
        go_meet
        case rel => exact ⟨rfl, gb_drewN _ _ _⟩
    case rest =>
      obtain ⟨rfl, hg3⟩ := hcut
      have HE1 : Hid (Blk wc w.heap.size #[.string c.name, .string c.super, .slice fa' c.fields.length fk', .slice ma' c.methods.length mk'] 25) := HD1.out.keep hg3 (by simp)
      have HG3 : Hid (w.grownBy wc none) := gb_tr HG2.out hg3
      clear HD1 HD2 HG2 hg3 a3 b3
      go_wp2_with fail
      go_loopw [6] (fun i wr => ∃ j : Nat, j ≤ c.methods.length ∧ i = .int .i64 j ∧ Hid (w.grownBy wr none) ∧ Hid (Blk wr w.heap.size #[.string c.name, .string c.super, .slice fa' c.fields.length fk', .slice ma' c.methods.length mk'] 25)) (fun i _ => c.methods.length - (intOf i).toNat)
      case atStart => exact ⟨0, Nat.zero_le _, rfl, HG3, HE1⟩
      case round =>
        clear HG3 HE1
        obtain ⟨j, hj, rfl, HG, HB⟩ := hrel
        have a3 := HB.out.cell 3 _ rfl
        by_cases hlt : j < c.methods.length
        · have hcm : CopMs wr base ma' mk' c.methods g := by
            rcases hms.out with ⟨_, _, _, _, h⟩ | ⟨_, h⟩
            · rw [h] at hlt; cases hlt
            · exact h.keep HG.out
          obtain rfl := hcm.at_
          obtain ⟨pa, ca, ha, pk, ck, hk, hs1, hs2, hs3, hc8⟩ := hcm.me j hlt
          obtain ⟨m, hm⟩ : ∃ m, m = c.methods[j] := ⟨_, rfl⟩
          have hsm := hcj.out j hlt
          rw [← hm] at hs1 hs2 hs3 hc8 hsm
          have HS1 : Hid (Spare wr base 41 2 xTy mineT pa pk m.params) := hs1
          have HS2 : Hid (Spare wr base 50 4 xIn mineI ca ck m.code) := hs2
          have HS3 : Hid (Spare wr base 52 4 xHd mineH ha hk m.handlers) := hs3
          have hL1 : m.params.length ≤ 1099511627776 := hsm.1
          have hL2 : m.code.length ≤ 1099511627776 := hsm.2.1
          have hL3 : m.handlers.length ≤ 1099511627776 := hsm.2.2
          have f0 : wr.cell? ⟨g, j * 8, none⟩ = some (.string m.name) := hc8 0 _ rfl
          have f1 : wr.cell? ⟨g, j * 8 + 1, none⟩ = some (.slice pa m.params.length pk) := hc8 1 _ rfl
          have f2 : wr.cell? ⟨g, j * 8 + 2, none⟩ = some (.int .i64 m.ret.kind) := hc8 2 _ rfl
          have f3 : wr.cell? ⟨g, j * 8 + 3, none⟩ = some (.string m.ret.name) := hc8 3 _ rfl
          have f4 : wr.cell? ⟨g, j * 8 + 4, none⟩ = some (.int .i64 m.stack) := hc8 4 _ rfl
          have f5 : wr.cell? ⟨g, j * 8 + 5, none⟩ = some (.int .i64 m.locals) := hc8 5 _ rfl
          have f6 : wr.cell? ⟨g, j * 8 + 6, none⟩ = some (.slice ca m.code.length ck) := hc8 6 _ rfl
          have f7 : wr.cell? ⟨g, j * 8 + 7, none⟩ = some (.slice ha m.handlers.length hk) := hc8 7 _ rfl
          clear hs1 hs2 hs3 hc8 hsm hm hcm
          go_upto_if 81 with (fail)
          obtain ⟨W, hW⟩ : ∃ W, W = wr.alloc (.cells #[.string m.name, .slice pa m.params.length pk, .int .i64 m.ret.kind, .string m.ret.name, .int .i64 m.stack, .int .i64 m.locals, .slice ca m.code.length ck, .slice ha m.handlers.length hk] 48) := ⟨_, rfl⟩
          have HGW : Hid (wr.grownBy W none) := by unfold Hid; rw [hW]; exact gb_alloc _ _ _
          have HMB : Hid (Blk W wr.heap.size #[.string m.name, .slice pa m.params.length pk, .int .i64 m.ret.kind, .string m.ret.name, .int .i64 m.stack, .int .i64 m.locals, .slice ca m.code.length ck, .slice ha m.handlers.length hk] 48) := by unfold Hid; rw [hW]; exact Blk.new _ _ _
          rw [← hW]
          clear hW f0 f1 f2 f3 f4 f5 f6 f7 a3
          go_cut [81] from 63 to 119 (fun b wx => b = .bool false ∧ W.grownBy wx none)
          case first =>
            have c2 := HMB.out.cell 1 _ rfl
            rcases (HS1.out.keep HGW.out) with ⟨rfl, rfl, hx⟩ | ⟨gx, rfl, hox⟩
            · have hne : ∀ w, (binOp .neq 44 (.slice none m.params.length 0) (.slice none 0 0)).run Tryd.prog w = .ok (.bool false) w := by intro w; rw [hx]; kernel_rfl
              clear hx
              go_quiet (fail)
              go_wp2_with fail
              go_meet
              case rel => exact ⟨rfl, gb_drewN _ _ _⟩
            · have hne : ∀ n k w, (binOp .neq 44 (.slice (some ⟨gx, 0, none⟩) n k) (.slice none 0 0)).run Tryd.prog w = .ok (.bool true) w := by intro n k w; kernel_rfl
              obtain ⟨gy, hgy, hcap2, hbe⟩ := Spare.behind (enc := xTy) (fun _ => rfl) (.inr ⟨gx, rfl, hox⟩) (by simp)
              obtain rfl : gx = gy := by simpa using hgy
              have x0 : W.cell? ⟨gx, m.params.length * 2 + 1, none⟩ = some (.string ⟨#[109, 105, 110, 101]⟩) := hbe 1 _ rfl
              clear hbe hox hgy
              go_quiet (fail)
              go_wp2_with fail
              go_meet
              case rel => exact ⟨rfl, gb_drewN _ _ _⟩
          case rest =>
            obtain ⟨rfl, hg2⟩ := hcut
            have HMC : Hid (Blk wc wr.heap.size #[.string m.name, .slice pa m.params.length pk, .int .i64 m.ret.kind, .string m.ret.name, .int .i64 m.stack, .int .i64 m.locals, .slice ca m.code.length ck, .slice ha m.handlers.length hk] 48) := HMB.out.keep hg2 (by simp)
            have HGX : Hid (wr.grownBy wc none) := gb_tr HGW.out hg2
            clear HMB HGW hg2
            have HMB : Hid (Blk wc wr.heap.size #[.string m.name, .slice pa m.params.length pk, .int .i64 m.ret.kind, .string m.ret.name, .int .i64 m.stack, .int .i64 m.locals, .slice ca m.code.length ck, .slice ha m.handlers.length hk] 48) := HMC.out
            have HGW : Hid (wr.grownBy wc none) := HGX.out
            clear HMC HGX
            have m5 := HMB.out.cell 5 _ rfl
            have m6 := HMB.out.cell 6 _ rfl
            go_upto_if 100 with (fail)
            clear m5 m6
            go_cut [100] from 82 to 119 (fun b wx => b = .bool false ∧ wc.grownBy wx none)
            case first =>
              have c2 := HMB.out.cell 6 _ rfl
              rcases (HS2.out.keep HGW.out) with ⟨rfl, rfl, hx⟩ | ⟨gx, rfl, hox⟩
              · have hne : ∀ w, (binOp .neq 45 (.slice none m.code.length 0) (.slice none 0 0)).run Tryd.prog w = .ok (.bool false) w := by intro w; rw [hx]; kernel_rfl
                clear hx
                go_quiet (fail)
                go_wp2_with fail
                go_meet
                case rel => exact ⟨rfl, gb_drewN _ _ _⟩
              · have hne : ∀ n k w, (binOp .neq 45 (.slice (some ⟨gx, 0, none⟩) n k) (.slice none 0 0)).run Tryd.prog w = .ok (.bool true) w := by intro n k w; kernel_rfl
                obtain ⟨gy, hgy, hcap2, hbe⟩ := Spare.behind (enc := xIn) (fun _ => rfl) (.inr ⟨gx, rfl, hox⟩) (by simp)
                obtain rfl : gx = gy := by simpa using hgy
                have x0 : wc.cell? ⟨gx, m.code.length * 4 + 2, none⟩ = some (.string ⟨#[109, 105, 110, 101]⟩) := hbe 2 _ rfl
                clear hbe hox hgy
                go_quiet (fail)
                go_wp2_with fail
                go_meet
                case rel => exact ⟨rfl, gb_drewN _ _ _⟩
            case rest =>
              obtain ⟨rfl, hg2⟩ := hcut
              have HMC : Hid (Blk wc wr.heap.size #[.string m.name, .slice pa m.params.length pk, .int .i64 m.ret.kind, .string m.ret.name, .int .i64 m.stack, .int .i64 m.locals, .slice ca m.code.length ck, .slice ha m.handlers.length hk] 48) := HMB.out.keep hg2 (by simp)
              have HGX : Hid (wr.grownBy wc none) := gb_tr HGW.out hg2
              clear HMB HGW hg2
              have HMB : Hid (Blk wc wr.heap.size #[.string m.name, .slice pa m.params.length pk, .int .i64 m.ret.kind, .string m.ret.name, .int .i64 m.stack, .int .i64 m.locals, .slice ca m.code.length ck, .slice ha m.handlers.length hk] 48) := HMC.out
              have HGW : Hid (wr.grownBy wc none) := HGX.out
              clear HMC HGX
              have m7 := HMB.out.cell 7 _ rfl
              go_upto_if 119 with (fail)
              clear m7
              go_cut [119] from 101 to 119 (fun b wx => b = .bool false ∧ wc.grownBy wx none)
              case first =>
                have c2 := HMB.out.cell 7 _ rfl
                rcases (HS3.out.keep HGW.out) with ⟨rfl, rfl, hx⟩ | ⟨gx, rfl, hox⟩
                · have hne : ∀ w, (binOp .neq 46 (.slice none m.handlers.length 0) (.slice none 0 0)).run Tryd.prog w = .ok (.bool false) w := by intro w; rw [hx]; kernel_rfl
                  clear hx
                  go_quiet (fail)
                  go_wp2_with fail
                  go_meet
                  case rel => exact ⟨rfl, gb_drewN _ _ _⟩
                · have hne : ∀ n k w, (binOp .neq 46 (.slice (some ⟨gx, 0, none⟩) n k) (.slice none 0 0)).run Tryd.prog w = .ok (.bool true) w := by intro n k w; kernel_rfl
                  obtain ⟨gy, hgy, hcap2, hbe⟩ := Spare.behind (enc := xHd) (fun _ => rfl) (.inr ⟨gx, rfl, hox⟩) (by simp)
                  obtain rfl : gx = gy := by simpa using hgy
                  have x0 : wc.cell? ⟨gx, m.handlers.length * 4 + 3, none⟩ = some (.string ⟨#[109, 105, 110, 101]⟩) := hbe 3 _ rfl
                  clear hbe hox hgy
                  go_quiet (fail)
                  go_wp2_with fail
                  go_meet
                  case rel => exact ⟨rfl, gb_drewN _ _ _⟩
              case rest =>
                obtain ⟨rfl, hg2⟩ := hcut
                have HMC : Hid (Blk wc wr.heap.size #[.string m.name, .slice pa m.params.length pk, .int .i64 m.ret.kind, .string m.ret.name, .int .i64 m.stack, .int .i64 m.locals, .slice ca m.code.length ck, .slice ha m.handlers.length hk] 48) := HMB.out.keep hg2 (by simp)
                have HGX : Hid (wr.grownBy wc none) := gb_tr HGW.out hg2
                clear HMB HGW hg2
                have HMB : Hid (Blk wc wr.heap.size #[.string m.name, .slice pa m.params.length pk, .int .i64 m.ret.kind, .string m.ret.name, .int .i64 m.stack, .int .i64 m.locals, .slice ca m.code.length ck, .slice ha m.handlers.length hk] 48) := HMC.out
                have HGW : Hid (wr.grownBy wc none) := HGX.out
                clear HMC HGX
                go_wp2_with fail
                go_roundw
                case rel => exact ⟨j + 1, hlt, by go_num, gb_tr HG.out HGW.out, HB.out.keep HGW.out (by simp)⟩
                case measure => simp [intOf]; omega
        · go_wp2_with fail
          go_ret
          exact ⟨rfl, HG.out⟩
end Go.Proofs.YtdhophglnhcjbaaDoor

namespace Go.Proofs.YtdhophglnhcjbaaDoor
open Go.RowKit Cf

theorem codeOf_nat (r : Except Nat (List UInt8)) : ∃ n : Nat, codeOf r = n := ⟨_, rfl⟩

set_option maxRecDepth 100000 in
set_option maxHeartbeats 2000000 in
theorem encodes_any (w : World) (lim : Nat) (c : XCl) (fa ma : Option Addr) (fk mk : Nat) (hl : lim ≤ w.heap.size) (hm : Hid (okCl c)) (hc : costCl c ≤ 2 ^ 40) (hS : Hid (Shp w)) (hrf : Hid (RdRow w lim 3 xFld fa c.fields)) (hrm : Hid (RdMesN w lim ma c.methods)) (hfn : fa = none → c.fields = [] ∧ fk = 0) (hmn : ma = none → c.methods = [] ∧ mk = 0) :
    Calls Tryd.prog 3 #[.agg #[.string c.name, .string c.super, .slice fa c.fields.length fk, .slice ma c.methods.length mk]] w fun e w' => e = .returned (.bool true) ∧ w.grownBy w' none := by
  obtain ⟨S, hS0⟩ : ∃ S, S = strOf (enc c) := ⟨_, rfl⟩
  obtain ⟨K, hK0⟩ : ∃ K, K = codeOf (enc c) := ⟨_, rfl⟩
  have HFN : Hid (fa = none → c.fields = [] ∧ fk = 0) := hfn
  have HMN : Hid (ma = none → c.methods = [] ∧ mk = 0) := hmn
  have HC : Hid (costCl c ≤ 2 ^ 40) := hc
  clear hfn hmn hc
  have h0 : 0 < w.heap.size := hS.out.1
  have HA0 : Hid (Blk (w.alloc (.cells #[.string c.name, .string c.super, .slice fa c.fields.length fk, .slice ma c.methods.length mk] 25)) w.heap.size #[.string c.name, .string c.super, .slice fa c.fields.length fk, .slice ma c.methods.length mk] 25) := Blk.new _ _ _
  go_enter Tryd.func3, Tryd.ntmps3
  go_wp2_with fail
  have hg0 : w.grownBy (w.alloc (.cells #[.string c.name, .string c.super, .slice fa c.fields.length fk, .slice ma c.methods.length mk] 25)) none := gb_alloc _ _ _
  refine (copied_any _ lim c fa ma fk mk (by simp; omega) HC.out (hrf.out.keep hg0) (hrm.out.keep hg0) HFN.out HMN.out).mono ?_
  rintro e w1 ⟨v, rfl, hg1, base, fa', ma', fk', mk', rfl, hb1, hb2, hsp, hiff, hms⟩
  have HG1 : Hid (w.grownBy w1 none) := gb_tr hg0 hg1
  have HA1 : Hid (Blk w1 w.heap.size #[.string c.name, .string c.super, .slice fa c.fields.length fk, .slice ma c.methods.length mk] 25) := HA0.out.keep hg1 (by simp)
  have HSP1 : Hid (Spare w1 base 43 3 xFld mineF fa' fk' c.fields) := hsp
  have HIF : Hid (fa' = none ↔ fa = none) := hiff
  obtain ⟨g, hms'⟩ : ∃ g, (ma = none ∧ mk = 0 ∧ ma' = none ∧ mk' = 0 ∧ c.methods = []) ∨ (ma ≠ none ∧ CopMs w1 base ma' mk' c.methods g) := by
    rcases hms with ⟨q1, q2, q3, q4⟩ | ⟨g, css, q1, q2, q3, q4, q5⟩
    · exact ⟨0, .inl ⟨q1, (HMN.out q1).2, q2, q3, q4⟩⟩
    · subst q2
      exact ⟨g, .inr ⟨q1, copMs_of q3 q4 q5⟩⟩
  have HMS1 : Hid ((ma = none ∧ mk = 0 ∧ ma' = none ∧ mk' = 0 ∧ c.methods = []) ∨ (ma ≠ none ∧ CopMs w1 base ma' mk' c.methods g)) := hms'
  clear hms' hms hsp hiff hb1 hb2 hg1 hg0 HA0
  dsimp only
  have a0 := HA1.out.cell 0 _ rfl
  go_wp2_with fail
  obtain ⟨w2, hw2⟩ : ∃ w2, w2 = w1.alloc (.cells #[.string c.name, .string c.super, .slice fa' c.fields.length fk', .slice ma' c.methods.length mk'] 25) := ⟨_, rfl⟩
  have hg2 : w1.grownBy w2 none := by rw [hw2]; exact gb_alloc _ _ _
  have HD2 : Hid (Blk w2 w1.heap.size #[.string c.name, .string c.super, .slice fa' c.fields.length fk', .slice ma' c.methods.length mk'] 25) := by unfold Hid; rw [hw2]; exact Blk.new _ _ _
  rw [← hw2]
  clear hw2 a0
  have HF2 : Hid (RdRow w2 w1.heap.size 3 xFld fa' c.fields) := (HSP1.out.rd (enc := xFld) (fun _ => rfl)).keep hg2
  have HM2 : Hid (RdMes w2 w1.heap.size ma' c.methods) := by
    unfold Hid
    rcases HMS1.out with ⟨_, _, _, _, h5⟩ | ⟨_, h5⟩
    · rw [h5]; intro j hj; cases hj
    · exact h5.rd.keep hg2
  have HG2 : Hid (w.grownBy w2 none) := gb_tr HG1.out hg2
  have HSP2 : Hid (Spare w2 base 43 3 xFld mineF fa' fk' c.fields) := HSP1.out.keep hg2
  have HMS2 : Hid ((ma = none ∧ mk = 0 ∧ ma' = none ∧ mk' = 0 ∧ c.methods = []) ∨ (ma ≠ none ∧ CopMs w2 base ma' mk' c.methods g)) := by
    rcases HMS1.out with h | ⟨h, h2⟩
    · exact .inl h
    · exact .inr ⟨h, h2.keep hg2⟩
  have HA2 : Hid (Blk w2 w.heap.size #[.string c.name, .string c.super, .slice fa c.fields.length fk, .slice ma c.methods.length mk] 25) := HA1.out.keep hg2 (by simp)
  clear HG1 HSP1 HMS1 HA1
  refine (encode_any w2 w1.heap.size c fa' ma' fk' mk' hg2.size hm HC.out (hS.out.keep HG2.out (by simp)) HF2 HM2).mono ?_
  rintro e w3 ⟨rfl, hg3⟩
  rw [← hS0, ← hK0]
  have HG3 : Hid (w.grownBy w3 none) := gb_tr HG2.out hg3
  have HD3 : Hid (Blk w3 w1.heap.size #[.string c.name, .string c.super, .slice fa' c.fields.length fk', .slice ma' c.methods.length mk'] 25) := HD2.out.keep hg3 (by simp)
  have HSP3 : Hid (Spare w3 base 43 3 xFld mineF fa' fk' c.fields) := HSP2.out.keep hg3
  have HMS3 : Hid ((ma = none ∧ mk = 0 ∧ ma' = none ∧ mk' = 0 ∧ c.methods = []) ∨ (ma ≠ none ∧ CopMs w3 base ma' mk' c.methods g)) := by
    rcases HMS2.out with h | ⟨h, h2⟩
    · exact .inl h
    · exact .inr ⟨h, h2.keep hg3⟩
  have HA3 : Hid (Blk w3 w.heap.size #[.string c.name, .string c.super, .slice fa c.fields.length fk, .slice ma c.methods.length mk] 25) := HA2.out.keep hg3 (by simp)
  clear HG2 HSP2 HMS2 HA2 HD2 hg3 hg2 HF2 HM2
  have b0 := HA3.out.cell 0 _ rfl
  have b1 := HA3.out.cell 1 _ rfl
  have b2 := HA3.out.cell 2 _ rfl
  have b3 := HA3.out.cell 3 _ rfl
  dsimp only
  go_wp2_with fail
  clear b0 b1 b2 b3
  refine (pencode_any w3 lim c fa ma fk mk (by have := HG3.out.size; omega) hm HC.out (hrf.out.keep HG3.out) (hrm.out.keep HG3.out).to).mono ?_
  rintro e w4 ⟨rfl, hg4⟩
  rw [← hS0, ← hK0]
  have HG4 : Hid (w.grownBy w4 none) := gb_tr HG3.out hg4
  have HD4 : Hid (Blk w4 w1.heap.size #[.string c.name, .string c.super, .slice fa' c.fields.length fk', .slice ma' c.methods.length mk'] 25) := HD3.out.keep hg4 (by simp)
  have HSP4 : Hid (Spare w4 base 43 3 xFld mineF fa' fk' c.fields) := HSP3.out.keep hg4
  have HMS4 : Hid ((ma = none ∧ mk = 0 ∧ ma' = none ∧ mk' = 0 ∧ c.methods = []) ∨ (ma ≠ none ∧ CopMs w4 base ma' mk' c.methods g)) := by
    rcases HMS3.out with h | ⟨h, h2⟩
    · exact .inl h
    · exact .inr ⟨h, h2.keep hg4⟩
  have HA4 : Hid (Blk w4 w.heap.size #[.string c.name, .string c.super, .slice fa c.fields.length fk, .slice ma c.methods.length mk] 25) := HA3.out.keep hg4 (by simp)
  clear HG3 HSP3 HMS3 HA3 HD3 hg4
  have b0 := HA4.out.cell 0 _ rfl
  have b1 := HA4.out.cell 1 _ rfl
  have b2 := HA4.out.cell 2 _ rfl
  have b3 := HA4.out.cell 3 _ rfl
  have d0 := HD4.out.cell 0 _ rfl
  have d1 := HD4.out.cell 1 _ rfl
  have d2 := HD4.out.cell 2 _ rfl
  have d3 := HD4.out.cell 3 _ rfl
  clear hS0 hK0
  dsimp only
  go_wp2_with fail
  clear b0 b1 b2 b3 d0 d1 d2 d3
  refine (untouched_any w4 lim base g c fa ma fa' ma' fk mk fk' mk' HC.out (hrf.out.keep HG4.out) (hrm.out.keep HG4.out).to HSP4 HIF HFN.out HMS4).mono ?_
  rintro e w5 ⟨rfl, hg5⟩
  have HG5 : Hid (w.grownBy w5 none) := gb_tr HG4.out hg5
  clear hg5
  dsimp only
  go_wp2_with (go_at_call 9; refine (num_any _ K).mono ?_; rintro e w6 ⟨rfl, rfl⟩; try dsimp only)
  go_ret
  exact ⟨rfl, HG5.out⟩
end Go.Proofs.YtdhophglnhcjbaaDoor

namespace Go.Proofs.YtdhophglnhcjbaaDoor
open Go.RowKit Cf Go.ChangeShapes Go.ChangeAt Go.WideShapes

theorem bulk_one {H : Type} (d : DataW H) : 1 ≤ Rows.uptoBulk d := by
  cases d with
  | lit l => cases l <;> simp [Rows.uptoBulk]
  | nil => simp [Rows.uptoBulk]
  | ptr d => simp [Rows.uptoBulk]
  | slice elems spare => simp [Rows.uptoBulk]
  | agg parts => simp [Rows.uptoBulk]
  | iface t d => simp [Rows.uptoBulk]
  | map entries => simp [Rows.uptoBulk]
  | held h => simp [Rows.uptoBulk]
theorem bulk_all {H : Type} (l : List (DataW H)) : Rows.uptoBulkAll l = (l.map Rows.uptoBulk).sum := by
  induction l with
  | nil => simp [Rows.uptoBulkAll]
  | cons x l ih => simp only [Rows.uptoBulkAll, ih, List.map_cons, List.sum_cons]
theorem add_add (p : Addr) (a b : Nat) : (p.add a).add b = p.add (a + b) := by
  unfold Addr.add
  by_cases ha : a = 0
  · subst ha; simp
  · by_cases hb : b = 0
    · subst hb; simp [ha]
    · simp [ha, hb]; omega
theorem exists_list {α : Type} {p : Nat → α → Prop} : ∀ n : Nat, (∀ i, i < n → ∃ x, p i x) → ∃ xs : List α, xs.length = n ∧ ∀ i (h : i < xs.length), p i xs[i]
  | 0, _ => ⟨[], rfl, fun i h => by cases h⟩
  | n + 1, h => by
    obtain ⟨xs, h1, h2⟩ := exists_list n (fun i hi => h i (by omega))
    obtain ⟨x, hx⟩ := h n (by omega)
    refine ⟨xs ++ [x], by simp [h1], fun i hi => ?_⟩
    by_cases hl : i < xs.length
    · rw [List.getElem_append_left hl]; exact h2 i hl
    · have : i = n := by simp at hi; omega
      subst this
      have e : (xs ++ [x])[i] = x := by rw [List.getElem_append_right (by omega)]; simp [h1]
      rw [e]; exact hx

/-- a slice that came in, of things that are each so many cells -/
theorem open_rows {H α : Type} {en : TypeId × Value → H} {W : World} {sp : Nat → Bool} {held : Bool} {T e sz : Nat} {enc : α → List Value} (good : α → Nat → Prop) (ht : Tryd.prog.underlying T = some (.slice e)) (hc : Tryd.prog.cellsOf e = sz) (hs : ∀ x, (enc x).length = sz) (h0 : 0 < sz)
    (hE : ∀ n cs y, DataW.trod en Tryd.prog W 0 sp held n e cs = some y → ∃ x, cs = enc x ∧ good x (Rows.uptoBulk y.1)) {fuel : Nat} {v : Value} {x : DataW H × List MemPlace} (h : DataW.trod en Tryd.prog W 0 sp held fuel T [v] = some x) :
    ∃ (a : Option Addr) (k : Nat) (xs : List α) (bs : List Nat), v = .slice a xs.length k ∧ (a = none → xs = [] ∧ k = 0) ∧ bs.length = xs.length ∧ (∀ j (h1 : j < xs.length) (h2 : j < bs.length), good xs[j] bs[j]) ∧ bs.sum + 1 ≤ Rows.uptoBulk x.1 ∧
      ∀ j (hj : j < xs.length), ∃ p : Addr, a = some p ∧ p.block < W.heap.size ∧ ∀ r u, (enc xs[j])[r]? = some u → W.cell? (p.add (j * sz + r)) = some u := by
  rcases Go.Deep.open_slice ht h with ⟨h1, rfl⟩ | ⟨a, len, cap, m, n, D, Pl, h1, hb, hl, hm, hmm, rfl, hx⟩
  · injection h1 with h1 _
    subst h1
    exact ⟨none, 0, [], [], rfl, fun _ => ⟨rfl, rfl⟩, rfl, fun j h => (by cases h), by simp [Rows.uptoBulk], fun j h => by cases h⟩
  · injection h1 with h1 _
    subst h1
    have hlm : len ≤ m := by rw [hmm]; split <;> omega
    obtain ⟨xs, hxl, hxs⟩ := exists_list (p := fun i (x : α) => good x (Rows.uptoBulk (D i)) ∧ W.cells? 0 (a.add (i * sz)) sz = some (enc x)) len (fun i hi => by
      obtain ⟨cs', h2, h3⟩ := hx i (by omega)
      obtain ⟨x, rfl, hg⟩ := hE n cs' _ h3
      rw [hc] at h2
      exact ⟨x, hg, h2⟩)
    refine ⟨some a, cap, xs, (List.range len).map (fun i => Rows.uptoBulk (D i)), by rw [hxl], fun e => (by cases e), by simp [hxl], fun j h1 h2 => ?_, ?_, fun j hj => ?_⟩
    · have := (hxs j h1).1
      simpa using this
    · simp only [Rows.uptoBulk, bulk_all, List.map_map]
      have : (List.map (Rows.uptoBulk ∘ D) (List.range len)).sum = (List.map (fun i => Rows.uptoBulk (D i)) (List.range len)).sum := rfl
      omega
    · obtain ⟨_, hlen, hcell⟩ := World.cells?_some (hxs j hj).2
      have hc2 : ∀ r u, (enc xs[j])[r]? = some u → W.cell? (a.add (j * sz + r)) = some u := fun r u hu => by
        have hr : r < sz := by have := (List.getElem?_eq_some_iff.1 hu).1; rw [hs] at this; exact this
        have := hcell r hr
        rw [add_add] at this
        rw [this]; exact hu
      refine ⟨a, rfl, ?_, hc2⟩
      have hz : 0 < (enc xs[j]).length := by rw [hs]; exact h0
      have := hc2 0 _ (List.getElem?_eq_getElem hz)
      have := World.block_lt_of_cell? _ (a.add (j * sz + 0)) (by rw [this])
      rwa [add_block] at this
theorem rdRow_of {α : Type} {W : World} {sz : Nat} {enc : α → List Value} {a : Option Addr} {xs : List α} (h : ∀ j (hj : j < xs.length), ∃ p : Addr, a = some p ∧ p.block < W.heap.size ∧ ∀ r u, (enc xs[j])[r]? = some u → W.cell? (p.add (j * sz + r)) = some u) : RdRow W W.heap.size sz enc a xs := h

theorem cTy : Tryd.prog.cellsOf 41 = 2 := by kernel_rfl
theorem cFld : Tryd.prog.cellsOf 43 = 3 := by kernel_rfl
theorem cIn : Tryd.prog.cellsOf 50 = 4 := by kernel_rfl
theorem cHd : Tryd.prog.cellsOf 52 = 4 := by kernel_rfl
theorem cMe : Tryd.prog.cellsOf 48 = 8 := by kernel_rfl
theorem cCl : Tryd.prog.cellsOf 25 = 4 := by kernel_rfl
theorem cStr : Tryd.prog.cellsOf 9 = 1 := by kernel_rfl
theorem cSlTy : Tryd.prog.cellsOf 44 = 1 := by kernel_rfl
theorem cSlIn : Tryd.prog.cellsOf 45 = 1 := by kernel_rfl
theorem cSlHd : Tryd.prog.cellsOf 46 = 1 := by kernel_rfl
theorem i64_of {n : Int} (h : (Lit.int .i64 n).wf = true) : isI64 n := by
  simp [Lit.wf, IntKind.min, IntKind.max, IntKind.signed, IntKind.bits] at h
  unfold isI64
  omega
theorem len_of {s : ByteArray} {H : Type} {b : Nat} (h : Rows.uptoBulk (DataW.lit (H := H) (.string s.data.toList)) ≤ b) (hb : b ≤ 1048576) : isLen s := by
  simp only [Rows.uptoBulk] at h
  unfold isLen
  have : s.data.toList.length = s.size := by simp
  omega
/-- strings that are no longer than the bound -/
def goodTy (t : XTy) (b : Nat) : Prop := (b ≤ 1048576 → okTy t) ∧ 1 ≤ b
def goodFld (t : XFld) (b : Nat) : Prop := (b ≤ 1048576 → okFld t) ∧ 1 ≤ b
def goodIn (t : XIn) (b : Nat) : Prop := (b ≤ 1048576 → okIn t) ∧ 1 ≤ b
def goodHd (t : XHd) (b : Nat) : Prop := (b ≤ 1048576 → okHd t) ∧ 1 ≤ b
set_option maxRecDepth 100000 in
theorem rd_ty {H : Type} {en : TypeId × Value → H} {W : World} {sp : Nat → Bool} {held : Bool} (n : Nat) (cs : List Value) (y : DataW H × List MemPlace) (h : DataW.trod en Tryd.prog W 0 sp held n 41 cs = some y) : ∃ x, cs = xTy x ∧ goodTy x (Rows.uptoBulk y.1) := by
  obtain ⟨y0, y1, n2, rfl, hl, h0, h1⟩ := Go.ChangeShapes.trod_struct2 Tryd.underlying41 h
  rw [cTy] at hl
  match cs, hl with
  | [v0, v1], _ =>
    have h0' : DataW.trod en Tryd.prog W 0 sp held n2 3 [v0] = some y0 := h0
    have h1' : DataW.trod en Tryd.prog W 0 sp held n2 9 [v1] = some y1 := h1
    obtain ⟨k, e0, rfl, hk⟩ := DataW.trod_int Tryd.underlying3 h0'
    obtain ⟨s, e1, rfl, hs⟩ := DataW.trod_string Tryd.underlying9 h1'
    simp only [List.cons.injEq, and_true] at e0 e1
    subst e0 e1
    refine ⟨⟨k, s⟩, rfl, fun hb => ⟨i64_of hk, len_of (H := H) (b := _) (Nat.le_refl _) ?_⟩, bulk_one _⟩
    simp only [Rows.uptoBulk, Rows.uptoBulkAll] at hb ⊢
    omega
set_option maxRecDepth 100000 in
theorem rd_fld {H : Type} {en : TypeId × Value → H} {W : World} {sp : Nat → Bool} {held : Bool} (n : Nat) (cs : List Value) (y : DataW H × List MemPlace) (h : DataW.trod en Tryd.prog W 0 sp held n 43 cs = some y) : ∃ x, cs = xFld x ∧ goodFld x (Rows.uptoBulk y.1) := by
  obtain ⟨y0, y1, n2, rfl, hl, h0, h1⟩ := Go.ChangeShapes.trod_struct2 Tryd.underlying43 h
  rw [cFld] at hl
  match cs, hl with
  | [v0, v1, v2], _ =>
    have h0' : DataW.trod en Tryd.prog W 0 sp held n2 9 [v0] = some y0 := h0
    have h1' : DataW.trod en Tryd.prog W 0 sp held n2 41 [v1, v2] = some y1 := h1
    obtain ⟨s, e0, rfl, hs⟩ := DataW.trod_string Tryd.underlying9 h0'
    obtain ⟨t, e1, hg⟩ := rd_ty _ _ _ h1'
    simp only [xTy, List.cons.injEq, and_true] at e0 e1
    obtain ⟨rfl, rfl⟩ := e1
    subst e0
    refine ⟨⟨s, t⟩, rfl, fun hb => ⟨len_of (H := H) (b := _) (Nat.le_refl _) ?_, hg.1 ?_⟩, bulk_one _⟩
    · simp only [Rows.uptoBulk, Rows.uptoBulkAll] at hb ⊢; omega
    · simp only [Rows.uptoBulk, Rows.uptoBulkAll] at hb; omega
set_option maxRecDepth 100000 in
theorem rd_in {H : Type} {en : TypeId × Value → H} {W : World} {sp : Nat → Bool} {held : Bool} (n : Nat) (cs : List Value) (y : DataW H × List MemPlace) (h : DataW.trod en Tryd.prog W 0 sp held n 50 cs = some y) : ∃ x, cs = xIn x ∧ goodIn x (Rows.uptoBulk y.1) := by
  obtain ⟨y0, y1, y2, y3, n2, rfl, hl, h0, h1, h2, h3⟩ := Go.Joins.trod_struct4 Tryd.underlying50 h
  rw [cIn] at hl
  match cs, hl with
  | [v0, v1, v2, v3], _ =>
    have h0' : DataW.trod en Tryd.prog W 0 sp held n2 3 [v0] = some y0 := h0
    have h1' : DataW.trod en Tryd.prog W 0 sp held n2 3 [v1] = some y1 := h1
    have h2' : DataW.trod en Tryd.prog W 0 sp held n2 9 [v2] = some y2 := h2
    have h3' : DataW.trod en Tryd.prog W 0 sp held n2 9 [v3] = some y3 := h3
    obtain ⟨a, e0, rfl, k0⟩ := DataW.trod_int Tryd.underlying3 h0'
    obtain ⟨b, e1, rfl, k1⟩ := DataW.trod_int Tryd.underlying3 h1'
    obtain ⟨c, e2, rfl, k2⟩ := DataW.trod_string Tryd.underlying9 h2'
    obtain ⟨d, e3, rfl, k3⟩ := DataW.trod_string Tryd.underlying9 h3'
    simp only [List.cons.injEq, and_true] at e0 e1 e2 e3
    subst e0 e1 e2 e3
    refine ⟨⟨a, b, c, d⟩, rfl, fun hb => ⟨i64_of k0, i64_of k1, len_of (H := H) (b := _) (Nat.le_refl _) ?_, len_of (H := H) (b := _) (Nat.le_refl _) ?_⟩, bulk_one _⟩
    · simp only [Rows.uptoBulk, Rows.uptoBulkAll] at hb ⊢; omega
    · simp only [Rows.uptoBulk, Rows.uptoBulkAll] at hb ⊢; omega
set_option maxRecDepth 100000 in
theorem rd_hd {H : Type} {en : TypeId × Value → H} {W : World} {sp : Nat → Bool} {held : Bool} (n : Nat) (cs : List Value) (y : DataW H × List MemPlace) (h : DataW.trod en Tryd.prog W 0 sp held n 52 cs = some y) : ∃ x, cs = xHd x ∧ goodHd x (Rows.uptoBulk y.1) := by
  obtain ⟨y0, y1, y2, y3, n2, rfl, hl, h0, h1, h2, h3⟩ := Go.Joins.trod_struct4 Tryd.underlying52 h
  rw [cHd] at hl
  match cs, hl with
  | [v0, v1, v2, v3], _ =>
    have h0' : DataW.trod en Tryd.prog W 0 sp held n2 3 [v0] = some y0 := h0
    have h1' : DataW.trod en Tryd.prog W 0 sp held n2 3 [v1] = some y1 := h1
    have h2' : DataW.trod en Tryd.prog W 0 sp held n2 3 [v2] = some y2 := h2
    have h3' : DataW.trod en Tryd.prog W 0 sp held n2 9 [v3] = some y3 := h3
    obtain ⟨a, e0, rfl, k0⟩ := DataW.trod_int Tryd.underlying3 h0'
    obtain ⟨b, e1, rfl, k1⟩ := DataW.trod_int Tryd.underlying3 h1'
    obtain ⟨c, e2, rfl, k2⟩ := DataW.trod_int Tryd.underlying3 h2'
    obtain ⟨d, e3, rfl, k3⟩ := DataW.trod_string Tryd.underlying9 h3'
    simp only [List.cons.injEq, and_true] at e0 e1 e2 e3
    subst e0 e1 e2 e3
    refine ⟨⟨a, b, c, d⟩, rfl, fun hb => ⟨i64_of k0, i64_of k1, i64_of k2, len_of (H := H) (b := _) (Nat.le_refl _) ?_⟩, bulk_one _⟩
    simp only [Rows.uptoBulk, Rows.uptoBulkAll] at hb ⊢; omega

/-- a method that is read: with where its lists lie -/
structure RdMe where
  m : XMe
  pa : Option Addr
  pk : Nat
  ca : Option Addr
  ck : Nat
  ha : Option Addr
  hk : Nat
def xMe (r : RdMe) : List Value := [.string r.m.name, .slice r.pa r.m.params.length r.pk, .int .i64 r.m.ret.kind, .string r.m.ret.name, .int .i64 r.m.stack, .int .i64 r.m.locals, .slice r.ca r.m.code.length r.ck, .slice r.ha r.m.handlers.length r.hk]
structure GoodMe (W : World) (r : RdMe) (b : Nat) : Prop where
  pos : 1 ≤ b
  cost : costMe r.m ≤ 12 * b
  ok : b ≤ 1048576 → okMe r.m
  params : RdRow W W.heap.size 2 xTy r.pa r.m.params
  code : RdRow W W.heap.size 4 xIn r.ca r.m.code
  hds : RdRow W W.heap.size 4 xHd r.ha r.m.handlers
  np : r.pa = none → r.m.params = [] ∧ r.pk = 0
  nc : r.ca = none → r.m.code = [] ∧ r.ck = 0
  nh : r.ha = none → r.m.handlers = [] ∧ r.hk = 0
theorem sum_len : ∀ {bs : List Nat}, (∀ b ∈ bs, 1 ≤ b) → bs.length ≤ bs.sum
  | [], _ => Nat.le_refl _
  | b :: bs, h => by
    have h1 := h b (by simp)
    have h2 := sum_len (fun x hx => h x (by simp [hx]) : ∀ x ∈ bs, 1 ≤ x)
    simp only [List.length_cons, List.sum_cons]; omega
theorem mem_le_sum : ∀ {bs : List Nat} {b : Nat}, b ∈ bs → b ≤ bs.sum
  | [], _, h => by cases h
  | x :: bs, b, h => by
    rcases List.mem_cons.1 h with rfl | h
    · simp only [List.sum_cons]; omega
    · have := mem_le_sum h; simp only [List.sum_cons]; omega
set_option maxRecDepth 100000 in
theorem rd_me {H : Type} {en : TypeId × Value → H} {W : World} {sp : Nat → Bool} {held : Bool} (n : Nat) (cs : List Value) (y : DataW H × List MemPlace) (h : DataW.trod en Tryd.prog W 0 sp held n 48 cs = some y) : ∃ x, cs = xMe x ∧ GoodMe W x (Rows.uptoBulk y.1) := by
  obtain ⟨ys, n2, -, rfl, hl, hyn, hyf⟩ := DataW.trod_struct Tryd.underlying48 h
  rw [cMe] at hl
  have a0 := hyf 0 _ rfl
  have a1 := hyf 1 _ rfl
  have a2 := hyf 2 _ rfl
  have a3 := hyf 3 _ rfl
  have a4 := hyf 4 _ rfl
  have a5 := hyf 5 _ rfl
  have a6 := hyf 6 _ rfl
  match cs, hl, ys, hyn with
  | [v0, v1, v2, v3, v4, v5, v6, v7], _, [y0, y1, y2, y3, y4, y5, y6], _ =>
    have h0 : DataW.trod en Tryd.prog W 0 sp held n2 9 [v0] = some y0 := a0
    have h1 : DataW.trod en Tryd.prog W 0 sp held n2 44 [v1] = some y1 := a1
    have h2 : DataW.trod en Tryd.prog W 0 sp held n2 41 [v2, v3] = some y2 := a2
    have h3 : DataW.trod en Tryd.prog W 0 sp held n2 3 [v4] = some y3 := a3
    have h4 : DataW.trod en Tryd.prog W 0 sp held n2 3 [v5] = some y4 := a4
    have h5 : DataW.trod en Tryd.prog W 0 sp held n2 45 [v6] = some y5 := a5
    have h6 : DataW.trod en Tryd.prog W 0 sp held n2 46 [v7] = some y6 := a6
    obtain ⟨nm, e0, rfl, k0⟩ := DataW.trod_string Tryd.underlying9 h0
    obtain ⟨pa, pk, ps, pb, e1, q1, q2, q3, q4, q5⟩ := open_rows (enc := xTy) goodTy Tryd.underlying44 cTy (fun _ => rfl) (by decide) rd_ty h1
    obtain ⟨rt, e2, g2⟩ := rd_ty _ _ _ h2
    obtain ⟨st, e3, rfl, k3⟩ := DataW.trod_int Tryd.underlying3 h3
    obtain ⟨lo, e4, rfl, k4⟩ := DataW.trod_int Tryd.underlying3 h4
    obtain ⟨ca, ck, is, ib, e5, r1, r2, r3, r4, r5⟩ := open_rows (enc := xIn) goodIn Tryd.underlying45 cIn (fun _ => rfl) (by decide) rd_in h5
    obtain ⟨ha, hk, hs, hb, e6, s1, s2, s3, s4, s5⟩ := open_rows (enc := xHd) goodHd Tryd.underlying46 cHd (fun _ => rfl) (by decide) rd_hd h6
    simp only [xTy, List.cons.injEq, and_true] at e0 e2 e3 e4
    obtain ⟨rfl, rfl⟩ := e2
    subst e0 e1 e3 e4 e5 e6
    have bulk : Rows.uptoBulk (DataW.lit (H := H) (.string nm.data.toList)) + (Rows.uptoBulk y1.1 + (Rows.uptoBulk y2.1 + (Rows.uptoBulk y5.1 + Rows.uptoBulk y6.1))) + 3 ≤ Rows.uptoBulk (DataW.agg (([(DataW.lit (.string nm.data.toList), []), y1, y2, (.lit (.int .i64 st), []), (.lit (.int .i64 lo), []), y5, y6] : List (DataW H × List MemPlace)).map (·.1))) := by
      simp only [List.map_cons, List.map_nil, Rows.uptoBulk, Rows.uptoBulkAll]; omega
    have lp := sum_len (bs := pb) (fun b hb => by obtain ⟨j, hj, rfl⟩ := List.getElem_of_mem hb; exact (q3 j (by omega) hj).2)
    have li := sum_len (bs := ib) (fun b hb => by obtain ⟨j, hj, rfl⟩ := List.getElem_of_mem hb; exact (r3 j (by omega) hj).2)
    have lh := sum_len (bs := hb) (fun b hb => by obtain ⟨j, hj, rfl⟩ := List.getElem_of_mem hb; exact (s3 j (by omega) hj).2)
    have hn1 := bulk_one (DataW.lit (H := H) (.string nm.data.toList))
    refine ⟨⟨⟨nm, ps, rt, st, lo, is, hs⟩, pa, pk, ca, ck, ha, hk⟩, rfl, bulk_one _, Nat.le_trans ?_ (Nat.mul_le_mul_left 12 bulk), fun hb2 => ?_, q5, r5, s5, q1, r1, s1⟩
    · unfold costMe
      simp only
      omega
    · have hb3 := Nat.le_trans bulk hb2
      refine ⟨len_of (s := nm) (H := H) (b := _) (Nat.le_refl _) (by omega), g2.1 (by omega), i64_of k3, i64_of k4, fun j hj => ?_, fun j hj => ?_, fun j hj => ?_⟩
      · have hjb : j < pb.length := by rw [q2]; exact hj
        exact (q3 j hj hjb).1 (by have := mem_le_sum (List.getElem_mem hjb); omega)
      · have hjb : j < ib.length := by rw [r2]; exact hj
        exact (r3 j hj hjb).1 (by have := mem_le_sum (List.getElem_mem hjb); omega)
      · have hjb : j < hb.length := by rw [s2]; exact hj
        exact (s3 j hj hjb).1 (by have := mem_le_sum (List.getElem_mem hjb); omega)

theorem map_m_get (rs : List RdMe) (j : Nat) (hj : j < rs.length) (h : j < (rs.map (·.m)).length) : (rs.map (·.m))[j] = (rs[j]).m := by simp
set_option maxRecDepth 100000 in
theorem cost_sum : ∀ {W : World} {rs : List RdMe} {bs : List Nat}, bs.length = rs.length → (∀ j (h1 : j < rs.length) (h2 : j < bs.length), GoodMe W rs[j] bs[j]) → costMes (rs.map (·.m)) ≤ 12 * bs.sum
  | _, [], [], _, _ => by simp [costMes]
  | _, [], _ :: _, h, _ => by simp at h
  | _, _ :: _, [], h, _ => by simp at h
  | W, r :: rs, b :: bs, h, hg => by
    have h0 := (hg 0 (by simp) (by simp)).cost
    have h1 := cost_sum (W := W) (rs := rs) (bs := bs) (by simpa using h) (fun j g1 g2 => by have := hg (j + 1) (by simpa using g1) (by simpa using g2); simpa using this)
    simp only [costMes, List.map_cons, List.sum_cons, List.getElem_cons_zero] at h0 h1 ⊢
    omega
set_option maxRecDepth 100000 in
/-- THE CLASS THAT CAME IN -/
theorem open_class {H : Type} {en : TypeId × Value → H} {W : World} {sp : Nat → Bool} {held : Bool} {r : Reach} {b0 : Nat} {v : Value} {d : DataW H} {p : List MemPlace} (hv : Value.okWide Tryd.prog W r b0 25 v) (h : DataW.Trod en Tryd.prog W 0 sp held 25 v d p) (hb : Rows.uptoBulk d ≤ 1048576) :
    ∃ (c : XCl) (fa ma : Option Addr) (fk mk : Nat), v = .agg #[.string c.name, .string c.super, .slice fa c.fields.length fk, .slice ma c.methods.length mk] ∧ okCl c ∧ costCl c ≤ 2 ^ 40 ∧ RdRow W W.heap.size 3 xFld fa c.fields ∧ RdMesN W W.heap.size ma c.methods ∧ (fa = none → c.fields = [] ∧ fk = 0) ∧ (ma = none → c.methods = [] ∧ mk = 0) := by
  obtain ⟨v0, v1, v2, v3, y0, y1, y2, y3, n, rfl, rfl, rfl, h0, h1, h2, h3⟩ := Go.Joins.open_agg4 Tryd.underlying25 (by kernel_rfl) cCl hv h
  have h0' : DataW.trod en Tryd.prog W 0 sp held n 9 [v0] = some y0 := h0
  have h1' : DataW.trod en Tryd.prog W 0 sp held n 9 [v1] = some y1 := h1
  have h2' : DataW.trod en Tryd.prog W 0 sp held n 22 [v2] = some y2 := h2
  have h3' : DataW.trod en Tryd.prog W 0 sp held n 23 [v3] = some y3 := h3
  obtain ⟨nm, e0, rfl, k0⟩ := DataW.trod_string Tryd.underlying9 h0'
  obtain ⟨su, e1, rfl, k1⟩ := DataW.trod_string Tryd.underlying9 h1'
  obtain ⟨fa, fk, fs, fb, e2, q1, q2, q3, q4, q5⟩ := open_rows (enc := xFld) goodFld Tryd.underlying22 cFld (fun _ => rfl) (by decide) rd_fld h2'
  obtain ⟨ma, mk, rs, mb, e3, r1, r2, r3, r4, r5⟩ := open_rows (enc := xMe) (GoodMe W) Tryd.underlying23 cMe (fun _ => rfl) (by decide) rd_me h3'
  simp only [List.cons.injEq, and_true] at e0 e1
  subst e0 e1 e2 e3
  simp only [Rows.uptoBulk, Rows.uptoBulkAll] at hb
  have hl : ∀ s : ByteArray, s.data.toList.length = s.size := fun s => by simp
  have h1n := hl nm
  have h1s := hl su
  have lf := sum_len (bs := fb) (fun b hb => by obtain ⟨j, hj, rfl⟩ := List.getElem_of_mem hb; exact (q3 j (by omega) hj).2)
  have hcs := cost_sum r2 r3
  refine ⟨⟨nm, su, fs, rs.map (·.m)⟩, fa, ma, fk, mk, by simp, ⟨by unfold isLen; simp only; omega, by unfold isLen; simp only; omega, fun j hj => ?_, fun j hj => ?_⟩, ?_, q5, fun j hj => ?_, q1, fun e => ?_⟩
  · have hjb : j < fb.length := by rw [q2]; exact hj
    exact (q3 j hj hjb).1 (by have := mem_le_sum (List.getElem_mem hjb); omega)
  · have hjr : j < rs.length := by simpa using hj
    have hjb : j < mb.length := by rw [r2]; exact hjr
    show okMe (rs.map (·.m))[j]
    rw [map_m_get rs j hjr]
    exact (r3 j hjr hjb).ok (by have := mem_le_sum (List.getElem_mem hjb); omega)
  · unfold costCl
    simp only
    omega
  · have hjr : j < rs.length := by simpa using hj
    have hjb : j < mb.length := by rw [r2]; exact hjr
    have g := r3 j hjr hjb
    obtain ⟨p, hp1, hp2, hp3⟩ := r5 j hjr
    have em : (rs.map (·.m))[j]'(by simpa using hjr) = rs[j].m := map_m_get rs j hjr _
    refine ⟨p, rs[j].pa, rs[j].ca, rs[j].ha, rs[j].pk, rs[j].ck, rs[j].hk, hp1, hp2, ?_⟩
    simp only [em]
    exact ⟨g.params, g.code, g.hds, g.np, g.nc, g.nh, hp3⟩
  · obtain ⟨h5, h6⟩ := r1 e
    exact ⟨by simp [h5], h6⟩
end Go.Proofs.YtdhophglnhcjbaaDoor
