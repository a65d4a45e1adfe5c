/- Contracts of the functions that the law goes through: a part of the proof that the last text tells. -/
import Derived.Test.YtdhophglnhcjbaaDoorXF
import Derived.Deep.RegionHeldLaw
set_option linter.unusedVariables false
set_option linter.unusedSimpArgs false
namespace Go.Proofs.YtdhophglnhcjbaaDoor
open Go.RowKit Cf

set_option maxHeartbeats 400000 in
/-- the program's Encode -/
theorem encode_any (w : World) (lim : Nat) (c : XCl) (fa ma : Option Addr) (fk mk : Nat) (hl : lim ≤ w.heap.size) (hm : Hid (okCl c)) (hc : costCl c ≤ 2 ^ 40) (hS : Hid (Shp w))
    (hrf : Hid (RdRow w lim 3 xFld fa c.fields)) (hrm : Hid (RdMes w lim ma c.methods)) :
    Calls Tryd.prog 6 #[.agg #[.string c.name, .string c.super, .slice fa c.fields.length fk, .slice ma c.methods.length mk]] w fun e w' => e = .returned (.tuple #[.string (strOf (enc c)), .int .i64 (codeOf (enc c))]) ∧ w.grownBy w' none := by
  have HS : Hid (Shp (w.alloc (.cells #[.string c.name, .string c.super, .slice fa c.fields.length fk, .slice ma c.methods.length mk] 25))) := hS.out.keep (gb_alloc _ _ none) (by simp)
  have HF : Hid (RdRow (w.alloc (.cells #[.string c.name, .string c.super, .slice fa c.fields.length fk, .slice ma c.methods.length mk] 25)) lim 3 xFld fa c.fields) := hrf.out.keep (gb_alloc _ _ none)
  have HM : Hid (RdMes (w.alloc (.cells #[.string c.name, .string c.super, .slice fa c.fields.length fk, .slice ma c.methods.length mk] 25)) lim ma c.methods) := hrm.out.keep (gb_alloc _ _ none)
  go_enter Tryd.func6, Tryd.ntmps6
  go_wp2_with (go_at_call 13; refine (write_any _ lim c fa ma fk mk (by simp; omega) hm hc HS HF HM).mono ?_; rintro e w2 ⟨rfl, hg⟩)
  go_ret2
  exact ⟨rfl, gb_tr (gb_alloc _ _ _) hg⟩

set_option maxHeartbeats 400000 in
theorem sameTypesX_any (w : World) (l1 l2 k1 k2 : Nat) (a1 a2 : Option Addr) (xs : List XTy) (h1 : Hid (RdRow w l1 2 xTy a1 xs)) (h2 : Hid (RdRow w l2 2 xTy a2 xs)) (hl : xs.length ≤ 1099511627776) :
    Calls Tryd.prog 35 #[.slice a1 xs.length k1, .slice a2 xs.length k2] w fun e w' => e = .returned (.bool true) ∧ w.grownBy w' none := by
  go_enter Tryd.func35, Tryd.ntmps35
  go_wp2_with fail
  go_loopw [5] (fun i wr => ∃ j : Nat, j ≤ xs.length ∧ i = .int .i64 j ∧ Hid (w.grownBy wr none)) (fun i _ => xs.length - (intOf i).toNat)
  case atStart => exact ⟨0, Nat.zero_le _, rfl, gb_refl _ _⟩
  case round =>
    obtain ⟨j, hj, rfl, HGW⟩ := hrel
    by_cases hlt : j < xs.length
    · obtain ⟨p1, rfl, -, hc1⟩ := h1.out.keep HGW.out j hlt
      obtain ⟨p2, rfl, -, hc2⟩ := h2.out.keep HGW.out j hlt
      have f0 : wr.cell? (p1.add (j * 2)) = some (.int .i64 xs[j].kind) := hc1 0 _ rfl
      have f1 : wr.cell? ⟨(p1.add (j * 2)).block, (p1.add (j * 2)).off + 1, none⟩ = some (.string xs[j].name) := by rw [add_at p1 (j * 2) 0]; exact hc1 1 _ rfl
      have k0 : wr.cell? (p2.add (j * 2)) = some (.int .i64 xs[j].kind) := hc2 0 _ rfl
      have k1 : wr.cell? ⟨(p2.add (j * 2)).block, (p2.add (j * 2)).off + 1, none⟩ = some (.string xs[j].name) := by rw [add_at p2 (j * 2) 0]; exact hc2 1 _ rfl
      clear hc1 hc2
      go_wp2_with fail
      go_quiet (fail)
      go_wp2_with fail
      go_roundw
      case rel => exact ⟨j + 1, hlt, by go_num, gb_tn HGW.out (gb_drewN _ _ _)⟩
      case measure => simp [intOf]; omega
    · go_wp2_with fail
      go_ret
      exact ⟨rfl, HGW.out⟩

set_option maxRecDepth 100000 in
set_option maxHeartbeats 1000000 in
theorem sameMethodsX_any (w : World) (l1 l2 : Nat) (m : XMe) (p1a p2a q1a q2a r1a r2a : Option Addr) (p1k p2k q1k q2k r1k r2k : Nat) (hp1 : Hid (RdRow w l1 2 xTy p1a m.params)) (hp2 : Hid (RdRow w l2 2 xTy p2a m.params)) (hq1 : Hid (RdRow w l1 4 xIn q1a m.code)) (hq2 : Hid (RdRow w l2 4 xIn q2a m.code)) (hr1 : Hid (RdRow w l1 4 xHd r1a m.handlers)) (hr2 : Hid (RdRow w l2 4 xHd r2a m.handlers)) (hp : m.params.length ≤ 1099511627776) (hc : m.code.length ≤ 1099511627776) (hh : m.handlers.length ≤ 1099511627776) :
    Calls Tryd.prog 26 #[.agg #[.string m.name, .slice p1a m.params.length p1k, .int .i64 m.ret.kind, .string m.ret.name, .int .i64 m.stack, .int .i64 m.locals, .slice q1a m.code.length q1k, .slice r1a m.handlers.length r1k], .agg #[.string m.name, .slice p2a m.params.length p2k, .int .i64 m.ret.kind, .string m.ret.name, .int .i64 m.stack, .int .i64 m.locals, .slice q2a m.code.length q2k, .slice r2a m.handlers.length r2k]] w fun e w' => e = .returned (.bool true) ∧ w.grownBy w' none := by
  have hgA : Hid (w.grownBy ((w.alloc (.cells #[.string m.name, .slice p1a m.params.length p1k, .int .i64 m.ret.kind, .string m.ret.name, .int .i64 m.stack, .int .i64 m.locals, .slice q1a m.code.length q1k, .slice r1a m.handlers.length r1k] 48)).alloc (.cells #[.string m.name, .slice p2a m.params.length p2k, .int .i64 m.ret.kind, .string m.ret.name, .int .i64 m.stack, .int .i64 m.locals, .slice q2a m.code.length q2k, .slice r2a m.handlers.length r2k] 48)) none) := gb_tr (gb_alloc _ _ _) (gb_alloc _ _ _)
  have hA1 : Hid (Blk ((w.alloc (.cells #[.string m.name, .slice p1a m.params.length p1k, .int .i64 m.ret.kind, .string m.ret.name, .int .i64 m.stack, .int .i64 m.locals, .slice q1a m.code.length q1k, .slice r1a m.handlers.length r1k] 48)).alloc (.cells #[.string m.name, .slice p2a m.params.length p2k, .int .i64 m.ret.kind, .string m.ret.name, .int .i64 m.stack, .int .i64 m.locals, .slice q2a m.code.length q2k, .slice r2a m.handlers.length r2k] 48)) w.heap.size #[.string m.name, .slice p1a m.params.length p1k, .int .i64 m.ret.kind, .string m.ret.name, .int .i64 m.stack, .int .i64 m.locals, .slice q1a m.code.length q1k, .slice r1a m.handlers.length r1k] 48) := (Blk.new w _ _).keep (gb_alloc _ _ none) (by simp)
  have hA2 : Hid (Blk ((w.alloc (.cells #[.string m.name, .slice p1a m.params.length p1k, .int .i64 m.ret.kind, .string m.ret.name, .int .i64 m.stack, .int .i64 m.locals, .slice q1a m.code.length q1k, .slice r1a m.handlers.length r1k] 48)).alloc (.cells #[.string m.name, .slice p2a m.params.length p2k, .int .i64 m.ret.kind, .string m.ret.name, .int .i64 m.stack, .int .i64 m.locals, .slice q2a m.code.length q2k, .slice r2a m.handlers.length r2k] 48)) (w.heap.size + 1) #[.string m.name, .slice p2a m.params.length p2k, .int .i64 m.ret.kind, .string m.ret.name, .int .i64 m.stack, .int .i64 m.locals, .slice q2a m.code.length q2k, .slice r2a m.handlers.length r2k] 48) := by
    have := Blk.new (w.alloc (.cells #[.string m.name, .slice p1a m.params.length p1k, .int .i64 m.ret.kind, .string m.ret.name, .int .i64 m.stack, .int .i64 m.locals, .slice q1a m.code.length q1k, .slice r1a m.handlers.length r1k] 48)) #[.string m.name, .slice p2a m.params.length p2k, .int .i64 m.ret.kind, .string m.ret.name, .int .i64 m.stack, .int .i64 m.locals, .slice q2a m.code.length q2k, .slice r2a m.handlers.length r2k] 48
    unfold Hid
    simpa using this
  have HT1 : Hid (RdRow ((w.alloc (.cells #[.string m.name, .slice p1a m.params.length p1k, .int .i64 m.ret.kind, .string m.ret.name, .int .i64 m.stack, .int .i64 m.locals, .slice q1a m.code.length q1k, .slice r1a m.handlers.length r1k] 48)).alloc (.cells #[.string m.name, .slice p2a m.params.length p2k, .int .i64 m.ret.kind, .string m.ret.name, .int .i64 m.stack, .int .i64 m.locals, .slice q2a m.code.length q2k, .slice r2a m.handlers.length r2k] 48)) l1 2 xTy p1a m.params) := hp1.out.keep hgA.out
  have HT2 : Hid (RdRow ((w.alloc (.cells #[.string m.name, .slice p1a m.params.length p1k, .int .i64 m.ret.kind, .string m.ret.name, .int .i64 m.stack, .int .i64 m.locals, .slice q1a m.code.length q1k, .slice r1a m.handlers.length r1k] 48)).alloc (.cells #[.string m.name, .slice p2a m.params.length p2k, .int .i64 m.ret.kind, .string m.ret.name, .int .i64 m.stack, .int .i64 m.locals, .slice q2a m.code.length q2k, .slice r2a m.handlers.length r2k] 48)) l2 2 xTy p2a m.params) := hp2.out.keep hgA.out
  go_enter Tryd.func26, Tryd.ntmps26
  go_wp2_with (
    go_at_call 35
    refine (sameTypesX_any _ l1 l2 p1k p2k p1a p2a m.params HT1 HT2 hp).mono ?_
    rintro e w3 ⟨rfl, hg3⟩
    have HB1 : Hid (Blk w3 w.heap.size #[.string m.name, .slice p1a m.params.length p1k, .int .i64 m.ret.kind, .string m.ret.name, .int .i64 m.stack, .int .i64 m.locals, .slice q1a m.code.length q1k, .slice r1a m.handlers.length r1k] 48) := hA1.out.keep hg3 (by simp)
    have HB2 : Hid (Blk w3 (w.heap.size + 1) #[.string m.name, .slice p2a m.params.length p2k, .int .i64 m.ret.kind, .string m.ret.name, .int .i64 m.stack, .int .i64 m.locals, .slice q2a m.code.length q2k, .slice r2a m.handlers.length r2k] 48) := hA2.out.keep hg3 (by simp)
    have HG3 : Hid (w.grownBy w3 none) := gb_tr hgA.out hg3
    have c0 := HB1.out.cell 0 _ rfl
    have d0 := HB2.out.cell 0 _ rfl
    have c1 := HB1.out.cell 1 _ rfl
    have d1 := HB2.out.cell 1 _ rfl
    have c2 := HB1.out.cell 2 _ rfl
    have d2 := HB2.out.cell 2 _ rfl
    have c3 := HB1.out.cell 3 _ rfl
    have d3 := HB2.out.cell 3 _ rfl
    have c4 := HB1.out.cell 4 _ rfl
    have d4 := HB2.out.cell 4 _ rfl
    have c5 := HB1.out.cell 5 _ rfl
    have d5 := HB2.out.cell 5 _ rfl
    have c6 := HB1.out.cell 6 _ rfl
    have d6 := HB2.out.cell 6 _ rfl
    have c7 := HB1.out.cell 7 _ rfl
    have d7 := HB2.out.cell 7 _ rfl
    clear hg3 HT1 HT2 hgA hA1 hA2
    try dsimp only)
  go_loopw [6] (fun i wr => ∃ j : Nat, j ≤ m.code.length ∧ i = .int .i64 j ∧ Hid (∀ a, wr.cell? a = w3.cell? a) ∧ Hid (w3.grownBy wr none)) (fun i _ => m.code.length - (intOf i).toNat)
  case atStart => exact ⟨0, Nat.zero_le _, rfl, fun _ => rfl, gb_refl _ _⟩
  case round =>
    obtain ⟨j, hj, rfl, HQ, HGW⟩ := hrel
    have e1 : wr.cell? ⟨w.heap.size, 6, none⟩ = some (.slice q1a m.code.length q1k) := (HQ.out _).trans c6
    have e2 : wr.cell? ⟨w.heap.size + 1, 6, none⟩ = some (.slice q2a m.code.length q2k) := (HQ.out _).trans d6
    have e3 : wr.cell? ⟨w.heap.size, 7, none⟩ = some (.slice r1a m.handlers.length r1k) := (HQ.out _).trans c7
    by_cases hlt : j < m.code.length
    · obtain ⟨p1, rfl, -, hc1⟩ := (hq1.out.keep HG3.out).keep HGW.out j hlt
      obtain ⟨p2, rfl, -, hc2⟩ := (hq2.out.keep HG3.out).keep HGW.out j hlt
      have f0 : wr.cell? (p1.add (j * 4)) = some (.int .i64 m.code[j].op) := hc1 0 _ rfl
      have f1 : wr.cell? ⟨(p1.add (j * 4)).block, (p1.add (j * 4)).off + 1, none⟩ = some (.int .i64 m.code[j].a) := by rw [add_at p1 (j * 4) 0]; exact hc1 1 _ rfl
      have f2 : wr.cell? ⟨(p1.add (j * 4)).block, (p1.add (j * 4)).off + 2, none⟩ = some (.string m.code[j].cls) := by rw [add_at p1 (j * 4) 1]; exact hc1 2 _ rfl
      have f3 : wr.cell? ⟨(p1.add (j * 4)).block, (p1.add (j * 4)).off + 3, none⟩ = some (.string m.code[j].mem) := by rw [add_at p1 (j * 4) 2]; exact hc1 3 _ rfl
      have k0 : wr.cell? (p2.add (j * 4)) = some (.int .i64 m.code[j].op) := hc2 0 _ rfl
      have k1 : wr.cell? ⟨(p2.add (j * 4)).block, (p2.add (j * 4)).off + 1, none⟩ = some (.int .i64 m.code[j].a) := by rw [add_at p2 (j * 4) 0]; exact hc2 1 _ rfl
      have k2 : wr.cell? ⟨(p2.add (j * 4)).block, (p2.add (j * 4)).off + 2, none⟩ = some (.string m.code[j].cls) := by rw [add_at p2 (j * 4) 1]; exact hc2 2 _ rfl
      have k3 : wr.cell? ⟨(p2.add (j * 4)).block, (p2.add (j * 4)).off + 3, none⟩ = some (.string m.code[j].mem) := by rw [add_at p2 (j * 4) 2]; exact hc2 3 _ rfl
      clear hc1 hc2
      go_wp2_with fail
      go_quiet (fail)
      go_wp2_with fail
      go_roundw
      case rel => exact ⟨j + 1, hlt, by go_num, fun a => HQ.out a, gb_tn HGW.out (gb_drewN _ _ _)⟩
      case measure => simp [intOf]; omega
    · go_wp2_with fail
      go_loopw [7] (fun i wz => ∃ j : Nat, j ≤ m.handlers.length ∧ i = .int .i64 j ∧ Hid (∀ a, wz.cell? a = w3.cell? a) ∧ Hid (w3.grownBy wz none)) (fun i _ => m.handlers.length - (intOf i).toNat)
      case atStart => exact ⟨0, Nat.zero_le _, rfl, fun a => HQ.out a, HGW.out⟩
      case round =>
        clear HQ HGW
        obtain ⟨j, hj, rfl, HQ, HGW⟩ := hrel
        have e1 : wr.cell? ⟨w.heap.size, 7, none⟩ = some (.slice r1a m.handlers.length r1k) := (HQ.out _).trans c7
        have e2 : wr.cell? ⟨w.heap.size + 1, 7, none⟩ = some (.slice r2a m.handlers.length r2k) := (HQ.out _).trans d7
        by_cases hlt : j < m.handlers.length
        · obtain ⟨p1, rfl, -, hc1⟩ := (hr1.out.keep HG3.out).keep HGW.out j hlt
          obtain ⟨p2, rfl, -, hc2⟩ := (hr2.out.keep HG3.out).keep HGW.out j hlt
          have f0 : wr.cell? (p1.add (j * 4)) = some (.int .i64 m.handlers[j].from_) := hc1 0 _ rfl
          have f1 : wr.cell? ⟨(p1.add (j * 4)).block, (p1.add (j * 4)).off + 1, none⟩ = some (.int .i64 m.handlers[j].to) := by rw [add_at p1 (j * 4) 0]; exact hc1 1 _ rfl
          have f2 : wr.cell? ⟨(p1.add (j * 4)).block, (p1.add (j * 4)).off + 2, none⟩ = some (.int .i64 m.handlers[j].at_) := by rw [add_at p1 (j * 4) 1]; exact hc1 2 _ rfl
          have f3 : wr.cell? ⟨(p1.add (j * 4)).block, (p1.add (j * 4)).off + 3, none⟩ = some (.string m.handlers[j].cls) := by rw [add_at p1 (j * 4) 2]; exact hc1 3 _ rfl
          have k0 : wr.cell? (p2.add (j * 4)) = some (.int .i64 m.handlers[j].from_) := hc2 0 _ rfl
          have k1 : wr.cell? ⟨(p2.add (j * 4)).block, (p2.add (j * 4)).off + 1, none⟩ = some (.int .i64 m.handlers[j].to) := by rw [add_at p2 (j * 4) 0]; exact hc2 1 _ rfl
          have k2 : wr.cell? ⟨(p2.add (j * 4)).block, (p2.add (j * 4)).off + 2, none⟩ = some (.int .i64 m.handlers[j].at_) := by rw [add_at p2 (j * 4) 1]; exact hc2 2 _ rfl
          have k3 : wr.cell? ⟨(p2.add (j * 4)).block, (p2.add (j * 4)).off + 3, none⟩ = some (.string m.handlers[j].cls) := by rw [add_at p2 (j * 4) 2]; exact hc2 3 _ rfl
          clear hc1 hc2
          go_wp2_with fail
          go_quiet (fail)
          go_wp2_with fail
          go_roundw
          case rel => exact ⟨j + 1, hlt, by go_num, fun a => HQ.out a, gb_tn HGW.out (gb_drewN _ _ _)⟩
          case measure => simp [intOf]; omega
        · go_wp2_with fail
          go_ret
          exact ⟨rfl, gb_tr HG3.out HGW.out⟩
end Go.Proofs.YtdhophglnhcjbaaDoor

namespace Go.Proofs.YtdhophglnhcjbaaDoor
open Go.RowKit Cf

set_option maxRecDepth 100000 in
set_option maxHeartbeats 2000000 in
theorem sameX_any (w : World) (l1 l2 : Nat) (c : XCl) (f1a f2a m1a m2a : Option Addr) (f1k f2k m1k m2k : Nat) (hf1 : Hid (RdRow w l1 3 xFld f1a c.fields)) (hf2 : Hid (RdRow w l2 3 xFld f2a c.fields)) (hm1 : Hid (RdMes w l1 m1a c.methods)) (hm2 : Hid (RdMes w l2 m2a c.methods)) (hc : costCl c ≤ 2 ^ 40) :
    Calls Tryd.prog 12 #[.agg #[.string c.name, .string c.super, .slice f1a c.fields.length f1k, .slice m1a c.methods.length m1k], .agg #[.string c.name, .string c.super, .slice f2a c.fields.length f2k, .slice m2a c.methods.length m2k]] w fun e w' => e = .returned (.bool true) ∧ w.grownBy w' none := by
  have hcl : 10 + 5 * c.fields.length + costMes c.methods ≤ 1099511627776 := by unfold costCl at hc; omega
  have hlf : c.fields.length ≤ 1099511627776 := by omega
  have hlm : c.methods.length ≤ 1099511627776 := by have := costMes_len c.methods; omega
  have hcj : Hid (∀ j (hj : j < c.methods.length), c.methods[j].params.length ≤ 1099511627776 ∧ c.methods[j].code.length ≤ 1099511627776 ∧ c.methods[j].handlers.length ≤ 1099511627776) := fun j hj => by
    have := costMes_each c.methods j hj
    unfold costMe at this
    omega
  clear hc hcl
  have hgA : Hid (w.grownBy ((w.alloc (.cells #[.string c.name, .string c.super, .slice f1a c.fields.length f1k, .slice m1a c.methods.length m1k] 25)).alloc (.cells #[.string c.name, .string c.super, .slice f2a c.fields.length f2k, .slice m2a c.methods.length m2k] 25)) none) := gb_tr (gb_alloc _ _ _) (gb_alloc _ _ _)
  have hA1 : Hid (Blk ((w.alloc (.cells #[.string c.name, .string c.super, .slice f1a c.fields.length f1k, .slice m1a c.methods.length m1k] 25)).alloc (.cells #[.string c.name, .string c.super, .slice f2a c.fields.length f2k, .slice m2a c.methods.length m2k] 25)) w.heap.size #[.string c.name, .string c.super, .slice f1a c.fields.length f1k, .slice m1a c.methods.length m1k] 25) := (Blk.new w _ _).keep (gb_alloc _ _ none) (by simp)
  have hA2 : Hid (Blk ((w.alloc (.cells #[.string c.name, .string c.super, .slice f1a c.fields.length f1k, .slice m1a c.methods.length m1k] 25)).alloc (.cells #[.string c.name, .string c.super, .slice f2a c.fields.length f2k, .slice m2a c.methods.length m2k] 25)) (w.heap.size + 1) #[.string c.name, .string c.super, .slice f2a c.fields.length f2k, .slice m2a c.methods.length m2k] 25) := by
    have := Blk.new (w.alloc (.cells #[.string c.name, .string c.super, .slice f1a c.fields.length f1k, .slice m1a c.methods.length m1k] 25)) #[.string c.name, .string c.super, .slice f2a c.fields.length f2k, .slice m2a c.methods.length m2k] 25
    unfold Hid
    simpa using this
  go_enter Tryd.func12, Tryd.ntmps12
  go_wp2_with fail
  go_loopw [5] (fun i wr => ∃ j : Nat, j ≤ c.fields.length ∧ i = .int .i64 j ∧ Hid (w.grownBy wr none) ∧ Hid (Blk wr w.heap.size #[.string c.name, .string c.super, .slice f1a c.fields.length f1k, .slice m1a c.methods.length m1k] 25) ∧ Hid (Blk wr (w.heap.size + 1) #[.string c.name, .string c.super, .slice f2a c.fields.length f2k, .slice m2a c.methods.length m2k] 25)) (fun i _ => c.fields.length - (intOf i).toNat)
  case atStart => exact ⟨0, Nat.zero_le _, rfl, hgA, hA1, hA2⟩
  case round =>
    clear hgA hA1 hA2
    obtain ⟨j, hj, rfl, HG, HB1, HB2⟩ := hrel
    have e1 := HB1.out.cell 2 _ rfl
    have e2 := HB2.out.cell 2 _ rfl
    have e3 := HB1.out.cell 3 _ rfl
    by_cases hlt : j < c.fields.length
    · obtain ⟨p1, rfl, -, hc1⟩ := hf1.out.keep HG.out j hlt
      obtain ⟨p2, rfl, -, hc2⟩ := hf2.out.keep HG.out j hlt
      have f0 : wr.cell? (p1.add (j * 3)) = some (.string c.fields[j].name) := hc1 0 _ rfl
      have f1 : wr.cell? ⟨(p1.add (j * 3)).block, (p1.add (j * 3)).off + 1, none⟩ = some (.int .i64 c.fields[j].ty.kind) := by rw [add_at p1 (j * 3) 0]; exact hc1 1 _ rfl
      have f2 : wr.cell? ⟨(p1.add (j * 3)).block, (p1.add (j * 3)).off + 2, none⟩ = some (.string c.fields[j].ty.name) := by rw [add_at p1 (j * 3) 1]; exact hc1 2 _ rfl
      have k0 : wr.cell? (p2.add (j * 3)) = some (.string c.fields[j].name) := hc2 0 _ rfl
      have k1 : wr.cell? ⟨(p2.add (j * 3)).block, (p2.add (j * 3)).off + 1, none⟩ = some (.int .i64 c.fields[j].ty.kind) := by rw [add_at p2 (j * 3) 0]; exact hc2 1 _ rfl
      have k2 : wr.cell? ⟨(p2.add (j * 3)).block, (p2.add (j * 3)).off + 2, none⟩ = some (.string c.fields[j].ty.name) := by rw [add_at p2 (j * 3) 1]; exact hc2 2 _ rfl
      clear hc1 hc2
      go_wp2_with fail
      go_quiet (fail)
      go_wp2_with fail
      go_roundw
      case rel => exact ⟨j + 1, hlt, by go_num, gb_tn HG.out (gb_drewN _ _ _), HB1.out.keep (gb_drewN _ _ none) (by simp), HB2.out.keep (gb_drewN _ _ none) (by simp)⟩
      case measure => simp [intOf]; omega
    · go_wp2_with fail
      go_loopw [6] (fun i wr => ∃ j : Nat, j ≤ c.methods.length ∧ i = .int .i64 j ∧ Hid (w.grownBy wr none) ∧ Hid (Blk wr w.heap.size #[.string c.name, .string c.super, .slice f1a c.fields.length f1k, .slice m1a c.methods.length m1k] 25) ∧ Hid (Blk wr (w.heap.size + 1) #[.string c.name, .string c.super, .slice f2a c.fields.length f2k, .slice m2a c.methods.length m2k] 25)) (fun i _ => c.methods.length - (intOf i).toNat)
      case atStart => exact ⟨0, Nat.zero_le _, rfl, HG, HB1, HB2⟩
      case round =>
        clear HG HB1 HB2 e1 e2 e3
        obtain ⟨j, hj, rfl, HG, HB1, HB2⟩ := hrel
        have e1 := HB1.out.cell 3 _ rfl
        have e2 := HB2.out.cell 3 _ rfl
        by_cases hlt : j < c.methods.length
        · obtain ⟨g1, x1, x2, x3, y1, y2, y3, rfl, -, ha1, ha2, ha3, hc1⟩ := hm1.out.keep HG.out j hlt
          obtain ⟨g2, u1, u2, u3, v1, v2, v3, rfl, -, hb1, hb2, hb3, hc2⟩ := hm2.out.keep HG.out j hlt
          obtain ⟨m, hm⟩ : ∃ m, m = c.methods[j] := ⟨_, rfl⟩
          have hsm := hcj.out j hlt
          rw [← hm] at ha1 ha2 ha3 hb1 hb2 hb3 hc1 hc2 hsm
          have HL1 : Hid (m.params.length ≤ 1099511627776) := hsm.1
          have HL2 : Hid (m.code.length ≤ 1099511627776) := hsm.2.1
          have HL3 : Hid (m.handlers.length ≤ 1099511627776) := hsm.2.2
          have HA1 : Hid (RdRow wr.drew l1 2 xTy x1 m.params) := ha1.keep (gb_drew _ none)
          have HA2 : Hid (RdRow wr.drew l1 4 xIn x2 m.code) := ha2.keep (gb_drew _ none)
          have HA3 : Hid (RdRow wr.drew l1 4 xHd x3 m.handlers) := ha3.keep (gb_drew _ none)
          have HE1 : Hid (RdRow wr.drew l2 2 xTy u1 m.params) := hb1.keep (gb_drew _ none)
          have HE2 : Hid (RdRow wr.drew l2 4 xIn u2 m.code) := hb2.keep (gb_drew _ none)
          have HE3 : Hid (RdRow wr.drew l2 4 xHd u3 m.handlers) := hb3.keep (gb_drew _ none)
          have f0 : wr.cell? (g1.add (j * 8)) = some (.string m.name) := hc1 0 _ rfl
          have f1 : wr.cell? ⟨(g1.add (j * 8)).block, (g1.add (j * 8)).off + 1, none⟩ = some (.slice x1 m.params.length y1) := by rw [add_at g1 (j * 8) 0]; exact hc1 1 _ rfl
          have f2 : wr.cell? ⟨(g1.add (j * 8)).block, (g1.add (j * 8)).off + 2, none⟩ = some (.int .i64 m.ret.kind) := by rw [add_at g1 (j * 8) 1]; exact hc1 2 _ rfl
          have f3 : wr.cell? ⟨(g1.add (j * 8)).block, (g1.add (j * 8)).off + 3, none⟩ = some (.string m.ret.name) := by rw [add_at g1 (j * 8) 2]; exact hc1 3 _ rfl
          have f4 : wr.cell? ⟨(g1.add (j * 8)).block, (g1.add (j * 8)).off + 4, none⟩ = some (.int .i64 m.stack) := by rw [add_at g1 (j * 8) 3]; exact hc1 4 _ rfl
          have f5 : wr.cell? ⟨(g1.add (j * 8)).block, (g1.add (j * 8)).off + 5, none⟩ = some (.int .i64 m.locals) := by rw [add_at g1 (j * 8) 4]; exact hc1 5 _ rfl
          have f6 : wr.cell? ⟨(g1.add (j * 8)).block, (g1.add (j * 8)).off + 6, none⟩ = some (.slice x2 m.code.length y2) := by rw [add_at g1 (j * 8) 5]; exact hc1 6 _ rfl
          have f7 : wr.cell? ⟨(g1.add (j * 8)).block, (g1.add (j * 8)).off + 7, none⟩ = some (.slice x3 m.handlers.length y3) := by rw [add_at g1 (j * 8) 6]; exact hc1 7 _ rfl
          have k0 : wr.cell? (g2.add (j * 8)) = some (.string m.name) := hc2 0 _ rfl
          have k1 : wr.cell? ⟨(g2.add (j * 8)).block, (g2.add (j * 8)).off + 1, none⟩ = some (.slice u1 m.params.length v1) := by rw [add_at g2 (j * 8) 0]; exact hc2 1 _ rfl
          have k2 : wr.cell? ⟨(g2.add (j * 8)).block, (g2.add (j * 8)).off + 2, none⟩ = some (.int .i64 m.ret.kind) := by rw [add_at g2 (j * 8) 1]; exact hc2 2 _ rfl
          have k3 : wr.cell? ⟨(g2.add (j * 8)).block, (g2.add (j * 8)).off + 3, none⟩ = some (.string m.ret.name) := by rw [add_at g2 (j * 8) 2]; exact hc2 3 _ rfl
          have k4 : wr.cell? ⟨(g2.add (j * 8)).block, (g2.add (j * 8)).off + 4, none⟩ = some (.int .i64 m.stack) := by rw [add_at g2 (j * 8) 3]; exact hc2 4 _ rfl
          have k5 : wr.cell? ⟨(g2.add (j * 8)).block, (g2.add (j * 8)).off + 5, none⟩ = some (.int .i64 m.locals) := by rw [add_at g2 (j * 8) 4]; exact hc2 5 _ rfl
          have k6 : wr.cell? ⟨(g2.add (j * 8)).block, (g2.add (j * 8)).off + 6, none⟩ = some (.slice u2 m.code.length v2) := by rw [add_at g2 (j * 8) 5]; exact hc2 6 _ rfl
          have k7 : wr.cell? ⟨(g2.add (j * 8)).block, (g2.add (j * 8)).off + 7, none⟩ = some (.slice u3 m.handlers.length v3) := by rw [add_at g2 (j * 8) 6]; exact hc2 7 _ rfl
          clear hc1 hc2 ha1 ha2 ha3 hb1 hb2 hb3 hm hsm
          go_wp2_with fail
          go_region_held2 (fun w' => w'.cell? ⟨w.heap.size, 3, none⟩ = some (.slice (some g1) c.methods.length m1k) ∧ w'.cell? ⟨w.heap.size + 1, 3, none⟩ = some (.slice (some g2) c.methods.length m2k) ∧ w'.cell? (g1.add (j * 8)) = some (.string m.name) ∧ w'.cell? (g2.add (j * 8)) = some (.string m.name) ∧ w'.cell? ⟨(g1.add (j * 8)).block, (g1.add (j * 8)).off + 1, none⟩ = some (.slice x1 m.params.length y1) ∧ w'.cell? ⟨(g2.add (j * 8)).block, (g2.add (j * 8)).off + 1, none⟩ = some (.slice u1 m.params.length v1) ∧ w'.cell? ⟨(g1.add (j * 8)).block, (g1.add (j * 8)).off + 2, none⟩ = some (.int .i64 m.ret.kind) ∧ w'.cell? ⟨(g2.add (j * 8)).block, (g2.add (j * 8)).off + 2, none⟩ = some (.int .i64 m.ret.kind) ∧ w'.cell? ⟨(g1.add (j * 8)).block, (g1.add (j * 8)).off + 3, none⟩ = some (.string m.ret.name) ∧ w'.cell? ⟨(g2.add (j * 8)).block, (g2.add (j * 8)).off + 3, none⟩ = some (.string m.ret.name) ∧ w'.cell? ⟨(g1.add (j * 8)).block, (g1.add (j * 8)).off + 4, none⟩ = some (.int .i64 m.stack) ∧ w'.cell? ⟨(g2.add (j * 8)).block, (g2.add (j * 8)).off + 4, none⟩ = some (.int .i64 m.stack) ∧ w'.cell? ⟨(g1.add (j * 8)).block, (g1.add (j * 8)).off + 5, none⟩ = some (.int .i64 m.locals) ∧ w'.cell? ⟨(g2.add (j * 8)).block, (g2.add (j * 8)).off + 5, none⟩ = some (.int .i64 m.locals) ∧ w'.cell? ⟨(g1.add (j * 8)).block, (g1.add (j * 8)).off + 6, none⟩ = some (.slice x2 m.code.length y2) ∧ w'.cell? ⟨(g2.add (j * 8)).block, (g2.add (j * 8)).off + 6, none⟩ = some (.slice u2 m.code.length v2) ∧ w'.cell? ⟨(g1.add (j * 8)).block, (g1.add (j * 8)).off + 7, none⟩ = some (.slice x3 m.handlers.length y3) ∧ w'.cell? ⟨(g2.add (j * 8)).block, (g2.add (j * 8)).off + 7, none⟩ = some (.slice u3 m.handlers.length v3)) (go_keep)
            (first | (go_at_call 26
                      refine (sameMethodsX_any _ l1 l2 m x1 u1 x2 u2 x3 u3 y1 v1 y2 v2 y3 v3 HA1 HE1 HA2 HE2 HA3 HE3 HL1.out HL2.out HL3.out).mono ?_
                      rintro e w2 ⟨rfl, hg2⟩
                      have HG2 : Hid (w.grownBy w2 none) := gb_tr (gb_tr HG.out (gb_drew _ none)) hg2
                      have HC1 : Hid (Blk w2 w.heap.size _ _) := (HB1.out.keep (gb_drew _ none) (by simp)).keep hg2 (by simp)
                      have HC2 : Hid (Blk w2 (w.heap.size + 1) _ _) := (HB2.out.keep (gb_drew _ none) (by simp)).keep hg2 (by simp)
                      have hgd := gb_tr (gb_drew wr none) hg2
                      have n0 := hgd.cell f0 (by simp)
                      have l0' := hgd.cell k0 (by simp)
                      have n1 := hgd.cell f1 (by simp)
                      have l1' := hgd.cell k1 (by simp)
                      have n2 := hgd.cell f2 (by simp)
                      have l2' := hgd.cell k2 (by simp)
                      have n3 := hgd.cell f3 (by simp)
                      have l3' := hgd.cell k3 (by simp)
                      have n4 := hgd.cell f4 (by simp)
                      have l4' := hgd.cell k4 (by simp)
                      have n5 := hgd.cell f5 (by simp)
                      have l5' := hgd.cell k5 (by simp)
                      have n6 := hgd.cell f6 (by simp)
                      have l6' := hgd.cell k6 (by simp)
                      have n7 := hgd.cell f7 (by simp)
                      have l7' := hgd.cell k7 (by simp)
                      have z1 := hgd.cell e1 (by simp)
                      have z2 := hgd.cell e2 (by simp)))
          go_wp2_with fail
          go_roundw
          case rel => exact ⟨j + 1, hlt, by go_num, HG2, HC1, HC2⟩
          case measure => simp [intOf]; omega
        · go_wp2_with fail
          go_ret
          exact ⟨rfl, HG.out⟩
end Go.Proofs.YtdhophglnhcjbaaDoor

namespace Go.Proofs.YtdhophglnhcjbaaDoor
open Go.RowKit Cf

def mineB : ByteArray := ⟨#[109, 105, 110, 101]⟩
/-- a list that was copied, with one thing more behind it; or nil -/
def Spare {α : Type} (w : World) (base e sz : Nat) (enc : α → List Value) (mine : List Value) (a : Option Addr) (k : Nat) (xs : List α) : Prop :=
  (a = none ∧ k = 0 ∧ xs = []) ∨ ∃ g, a = some ⟨g, 0, none⟩ ∧ w.ownsRow base e sz (.slice (some ⟨g, 0, none⟩) (xs.length + 1) k) (xs.length + 1) (xs.flatMap enc ++ mine)
theorem Spare.keep {α : Type} {w w' : World} {base e sz k : Nat} {enc : α → List Value} {mine : List Value} {a : Option Addr} {xs : List α} (h : Spare w base e sz enc mine a k xs) (hg : w.grownBy w' none) : Spare w' base e sz enc mine a k xs := by
  rcases h with h | ⟨g, rfl, h⟩
  · exact .inl h
  · exact .inr ⟨g, rfl, h.kept hg (by simp [Value.ownBlock])⟩
theorem Spare.keepAt {α : Type} {w w' : World} {base e sz k b : Nat} {enc : α → List Value} {mine : List Value} {a : Option Addr} {xs : List α} (h : Spare w base e sz enc mine a k xs) (hg : w.grownBy w' (some b)) (hb : b < base) : Spare w' base e sz enc mine a k xs := by
  rcases h with h | ⟨g, rfl, h⟩
  · exact .inl h
  · refine .inr ⟨g, rfl, h.kept hg (.inr (own_ne h hb))⟩
theorem rd_flat {α : Type} {w : World} {lim sz : Nat} {enc : α → List Value} (hs : ∀ x, (enc x).length = sz) {p : Addr} {xs : List α} (h : RdRow w lim sz enc (some p) xs) : ∀ j u, (xs.flatMap enc)[j]? = some u → w.cell? (p.add j) = some u := by
  intro j u hj
  have hlen : (xs.flatMap enc).length = xs.length * sz := by
    clear h hj
    induction xs with
    | nil => simp
    | cons x l ih => rw [List.flatMap_cons, List.length_append, hs, ih, List.length_cons, Nat.succ_mul]; omega
  have hjl := (List.getElem?_eq_some_iff.1 hj).1
  rw [hlen] at hjl
  have hsz : 0 < sz := by
    rcases Nat.eq_zero_or_pos sz with e | e
    · subst e; simp at hjl
    · exact e
  have hq : j / sz < xs.length := Nat.div_lt_of_lt_mul (by rw [Nat.mul_comm]; exact hjl)
  have hr : j % sz < sz := Nat.mod_lt _ hsz
  have he : j = j / sz * sz + j % sz := (Nat.div_add_mod' j sz).symm
  obtain ⟨p', e1, _, h3⟩ := h (j / sz) hq
  injection e1 with e1
  subst e1
  have := flat_get enc sz hs xs (j / sz) hq (j % sz) hr
  rw [← he] at this
  rw [this] at hj
  have := h3 (j % sz) u hj
  rw [← he] at this
  exact this
theorem flat_len {α : Type} {enc : α → List Value} {sz : Nat} (hs : ∀ x, (enc x).length = sz) (xs : List α) : (xs.flatMap enc).length = xs.length * sz := by
  induction xs with
  | nil => simp
  | cons x l ih => rw [List.flatMap_cons, List.length_append, hs, ih, List.length_cons, Nat.succ_mul]; omega
theorem own_cap {w : World} {base e sz g n k : Nat} {cs : List Value} (h : w.ownsRow base e sz (.slice (some ⟨g, 0, none⟩) n k) n cs) : n ≤ k := by
  rcases h.2 with ⟨h1, _⟩ | ⟨g', cap, cur, hv, _, _, hc, _⟩
  · cases h1
  · injection hv with _ _ h3; omega
/-- what was copied can be read -/
theorem Spare.rd {α : Type} {w : World} {base e sz k : Nat} {enc : α → List Value} {mine : List Value} {a : Option Addr} {xs : List α} (hs : ∀ x, (enc x).length = sz) (h : Spare w base e sz enc mine a k xs) : RdRow w w.heap.size sz enc a xs := by
  intro j hj
  rcases h with ⟨_, _, rfl⟩ | ⟨g, rfl, h⟩
  · cases hj
  · refine ⟨⟨g, 0, none⟩, rfl, (h.lt g rfl).2, fun r u hu => ?_⟩
    have hr : r < sz := by
      have := (List.getElem?_eq_some_iff.1 hu).1
      rw [hs] at this; exact this
    refine h.cells (g := g) rfl _ u ?_
    have h1 := flat_get enc sz hs xs j hj r hr
    rw [List.getElem?_append_left]
    · rw [h1]; exact hu
    · have := (List.getElem?_eq_some_iff.1 (h1.trans hu)).1
      exact this
/-- the thing behind it -/
theorem Spare.behind {α : Type} {w : World} {base e sz k : Nat} {enc : α → List Value} {mine : List Value} {a : Option Addr} {xs : List α} (hs : ∀ x, (enc x).length = sz) (h : Spare w base e sz enc mine a k xs) (hn : a ≠ none) :
    ∃ g, a = some ⟨g, 0, none⟩ ∧ xs.length + 1 ≤ k ∧ ∀ r u, mine[r]? = some u → w.cell? ⟨g, xs.length * sz + r, none⟩ = some u := by
  rcases h with ⟨h, _⟩ | ⟨g, rfl, h⟩
  · exact absurd h hn
  · refine ⟨g, rfl, own_cap h, fun r u hu => ?_⟩
    have := h.cells (g := g) rfl (xs.length * sz + r) u (by rw [← flat_len hs xs, List.getElem?_append_right (by omega), Nat.add_sub_cancel_left]; exact hu)
    unfold Addr.add at this
    split at this
    · rename_i h0; rw [h0]; exact this
    · simpa using this
def mineF : List Value := [.string mineB, .int .i64 0, .string ⟨#[]⟩]
def mineT : List Value := [.int .i64 0, .string mineB]
def mineI : List Value := [.int .i64 0, .int .i64 0, .string mineB, .string ⟨#[]⟩]
def mineH : List Value := [.int .i64 0, .int .i64 0, .int .i64 0, .string mineB]

/-- a copy by append onto nil, as a step of a region that draws -/
theorem step_append_copy {P : Program} (w : World) {ops : Array Oper} {o : Oper} {a : Act} {K : Act → World → Prop} {Q : Exit → Act → World → Prop} {E : Prop} (hgd : o.guard = none) (s x : Operand) (t : TypeId)
    (ho : o.op = .call { callee := .builtin .append, args := #[s, x], argTypes := #[t, t] })
    (base : Nat) (e : TypeId) (i : TypeInfo) (z : Value) (size bytes : Nat) (ht : P.underlying t = some (.slice e)) (hi : P.info? e = some i) (hz : i.zero = some z)
    (hsize : i.size = size) (hby : i.bytes = bytes) (hzs : z.cells.size = size) (hsz : 0 < size) (hs : a.eval s = .slice none 0 0)
    (ad : Addr) (m c : Nat) (news : List Value) (hx : a.eval x = .slice (some ad) m c) (hl : news.length = m * size) (hnews : ∀ j u, news[j]? = some u → w.cell? (ad.add j) = some u) (h1 : ∀ u ∈ news, u.oneCell' = true)
    (hm : 0 < m) (h63 : m ≤ maxLen) (hbytes : m * bytes ≤ 140737488355328) (hbase : base ≤ w.heap.size)
    (h : ∀ g cap w', w'.ownsRow base e size (.slice (some ⟨g, 0, none⟩) m cap) m news → w.grownBy w' none → g = w.heap.size → g < w'.heap.size → K (a.put o.dst (.slice (some ⟨g, 0, none⟩) m cap)) w') :
    if Region.wanted o (yielded ops a.tmps) = true then Oper.wp P o a w K Q else E := by
  refine step_append_lies w hgd s x t ho base e i z size bytes ht hi hz hsize hby hzs hsz (.slice none 0 0) 0 [] hs (World.ownsRow_nil _ _ _ _) ad m c news hx hl hnews h1 hm (by omega) (by rw [Nat.zero_add]; exact hbytes) hbase _ rfl ?_
  intro g cap w' h2 h3 h4 h5
  rw [Nat.zero_add] at h2 ⊢
  exact h g cap w' h2 h3 (by rcases h4 with e | e; cases e; exact e) h5
/-- append of nothing onto nil, as a step of a region that draws -/
theorem step_append_none {P : Program} (w : World) {ops : Array Oper} {o : Oper} {a : Act} {K : Act → World → Prop} {Q : Exit → Act → World → Prop} {E : Prop} (hgd : o.guard = none) (s x : Operand) (t : TypeId)
    (ho : o.op = .call { callee := .builtin .append, args := #[s, x], argTypes := #[t, t] })
    (e : TypeId) (i : TypeInfo) (z : Value) (size bytes : Nat) (ht : P.underlying t = some (.slice e)) (hi : P.info? e = some i) (hz : i.zero = some z)
    (hsize : i.size = size) (hby : i.bytes = bytes) (hzs : z.cells.size = size) (hsz : 0 < size) (hs : a.eval s = .slice none 0 0)
    (ad : Addr) (m c : Nat) (hx : a.eval x = .slice (some ad) m c) (hm : m = 0)
    (h : ∀ w', w.grownBy w' none → K (a.put o.dst (.slice none 0 0)) w') :
    if Region.wanted o (yielded ops a.tmps) = true then Oper.wp P o a w K Q else E := by
  subst hm
  have hw : Region.wanted o (yielded ops a.tmps) = true := by simp [Region.wanted, hgd]
  rw [if_pos hw]
  obtain ⟨v', w', hr, h2, h3, h4, _⟩ := run_append_own_at (P := P) w w.heap.size t o.type e i z size bytes ht hi hz hsize hby hzs hsz (.slice none 0 0) 0 [] (World.ownsRow_nil _ _ _ _) ad 0 c [] (by simp) (fun j u hj => by simp at hj) (fun u hu => by cases hu) (by unfold maxLen; omega) (by omega) (Nat.le_refl _)
  obtain rfl := h4.2 ⟨rfl, rfl⟩
  unfold Oper.wp execOp
  simp only [ho, resolve, invoke, builtin, Sem.run_bind, Sem.run_pure, Result.andThen_ok, List.map_toArray, List.map_cons, List.map_nil, hs, hx, hr]
  exact h w' h3
theorem one_of {α : Type} {enc : α → List Value} (h : ∀ x, ∀ u ∈ enc x, u.oneCell' = true) (xs : List α) : ∀ u ∈ xs.flatMap enc, u.oneCell' = true := fun u hu => by
  obtain ⟨x, _, hx⟩ := List.mem_flatMap.1 hu
  exact h x u hx
theorem one_fld (xs : List XFld) : ∀ u ∈ xs.flatMap xFld, u.oneCell' = true := one_of (fun x u hu => by
  simp only [xFld, List.mem_cons, List.not_mem_nil, or_false] at hu
  rcases hu with rfl | rfl | rfl <;> rfl) xs

theorem one_ty (xs : List XTy) : ∀ u ∈ xs.flatMap xTy, u.oneCell' = true := one_of (fun x u hu => by
  simp only [xTy, List.mem_cons, List.not_mem_nil, or_false] at hu
  rcases hu with rfl | rfl <;> rfl) xs
theorem one_in (xs : List XIn) : ∀ u ∈ xs.flatMap xIn, u.oneCell' = true := one_of (fun x u hu => by
  simp only [xIn, List.mem_cons, List.not_mem_nil, or_false] at hu
  rcases hu with rfl | rfl | rfl | rfl <;> rfl) xs
theorem one_hd (xs : List XHd) : ∀ u ∈ xs.flatMap xHd, u.oneCell' = true := one_of (fun x u hu => by
  simp only [xHd, List.mem_cons, List.not_mem_nil, or_false] at hu
  rcases hu with rfl | rfl | rfl | rfl <;> rfl) xs
/-- methods that are read, where a list without an address is nil -/
def RdMesN (w : World) (lim : Nat) (a : Option Addr) (ms : List XMe) : Prop :=
  ∀ j (hj : j < ms.length), ∃ (p : Addr) (pa ca ha : Option Addr) (pk ck hk : Nat), a = some p ∧ p.block < lim ∧ RdRow w lim 2 xTy pa ms[j].params ∧ RdRow w lim 4 xIn ca ms[j].code ∧ RdRow w lim 4 xHd ha ms[j].handlers ∧
    (pa = none → ms[j].params = [] ∧ pk = 0) ∧ (ca = none → ms[j].code = [] ∧ ck = 0) ∧ (ha = none → ms[j].handlers = [] ∧ hk = 0) ∧
    ∀ r u, ([Value.string ms[j].name, .slice pa ms[j].params.length pk, .int .i64 ms[j].ret.kind, .string ms[j].ret.name, .int .i64 ms[j].stack, .int .i64 ms[j].locals, .slice ca ms[j].code.length ck, .slice ha ms[j].handlers.length hk] : List Value)[r]? = some u → w.cell? (p.add (j * 8 + r)) = some u
theorem RdMesN.to {w : World} {lim : Nat} {a : Option Addr} {ms : List XMe} (h : RdMesN w lim a ms) : RdMes w lim a ms := fun j hj => by
  obtain ⟨p, pa, ca, ha, pk, ck, hk, h1, h2, h3, h4, h5, _, _, _, h6⟩ := h j hj
  exact ⟨p, pa, ca, ha, pk, ck, hk, h1, h2, h3, h4, h5, h6⟩
theorem RdMesN.keep {w w' : World} {lim : Nat} {a : Option Addr} {ms : List XMe} (h : RdMesN w lim a ms) (hg : w.grownBy w' none) : RdMesN w' lim a ms := fun j hj => by
  obtain ⟨p, pa, ca, ha, pk, ck, hk, h1, h2, h3, h4, h5, n1, n2, n3, h6⟩ := h j hj
  exact ⟨p, pa, ca, ha, pk, ck, hk, h1, h2, h3.keep hg, h4.keep hg, h5.keep hg, n1, n2, n3, fun r u hu => hg.cell (h6 r u hu) (by simp)⟩
/-- a method that was copied, with one thing more behind each of its lists -/
def CopMe (w : World) (base : Nat) (m : XMe) (cs : List Value) : Prop :=
  ∃ (pa ca ha : Option Addr) (pk ck hk : Nat), cs = [.string m.name, .slice pa m.params.length pk, .int .i64 m.ret.kind, .string m.ret.name, .int .i64 m.stack, .int .i64 m.locals, .slice ca m.code.length ck, .slice ha m.handlers.length hk] ∧
    Spare w base 41 2 xTy mineT pa pk m.params ∧ Spare w base 50 4 xIn mineI ca ck m.code ∧ Spare w base 52 4 xHd mineH ha hk m.handlers
theorem Spare.keepRow {α : Type} {w w' : World} {base e sz k : Nat} {enc : α → List Value} {mine : List Value} {a : Option Addr} {xs : List α} (h : Spare w base e sz enc mine a k xs) {v : Value} {b2 e2 s2 n2 : Nat} {cs2 : List Value} (ho : w.ownsRow b2 e2 s2 v n2 cs2) (hne : e ≠ e2) (hg : w.grownBy w' v.ownBlock) : Spare w' base e sz enc mine a k xs := by
  rcases h with h | ⟨g, rfl, h⟩
  · exact .inl h
  · exact .inr ⟨g, rfl, h.kept hg (own_kinds h ho hne)⟩
theorem CopMe.keep {w w' : World} {base : Nat} {m : XMe} {cs : List Value} (h : CopMe w base m cs) (hg : w.grownBy w' none) : CopMe w' base m cs := by
  obtain ⟨pa, ca, ha, pk, ck, hk, e, h1, h2, h3⟩ := h
  exact ⟨pa, ca, ha, pk, ck, hk, e, h1.keep hg, h2.keep hg, h3.keep hg⟩
theorem CopMe.keepRow {w w' : World} {base : Nat} {m : XMe} {cs : List Value} (h : CopMe w base m cs) {v : Value} {b2 s2 n2 : Nat} {cs2 : List Value} (ho : w.ownsRow b2 48 s2 v n2 cs2) (hg : w.grownBy w' v.ownBlock) : CopMe w' base m cs := by
  obtain ⟨pa, ca, ha, pk, ck, hk, e, h1, h2, h3⟩ := h
  exact ⟨pa, ca, ha, pk, ck, hk, e, h1.keepRow ho (by decide) hg, h2.keepRow ho (by decide) hg, h3.keepRow ho (by decide) hg⟩
theorem Spare.keepBlk {α : Type} {w w' : World} {base e sz k b : Nat} {enc : α → List Value} {mine : List Value} {a : Option Addr} {xs : List α} {cs : Array Value} {t : TypeId} (h : Spare w base e sz enc mine a k xs) (hb : Blk w b cs t) (hne : t ≠ e) (hg : w.grownBy w' (some b)) : Spare w' base e sz enc mine a k xs := by
  rcases h with h | ⟨g, rfl, h⟩
  · exact .inl h
  · refine .inr ⟨g, rfl, h.kept hg (.inr (fun e2 => ?_))⟩
    simp only [Value.ownBlock, Option.some.injEq] at e2
    subst e2
    rcases h.2 with ⟨h1, _⟩ | ⟨g', cap, cur, hv, _, hh, _⟩
    · cases h1
    · injection hv with h1 _ _
      injection h1 with h1
      injection h1 with h1 _ _
      subst h1
      unfold Blk at hb
      rw [hb] at hh
      injection hh with hh
      injection hh with _ hh _
      exact hne hh
/-- the first so many methods, copied -/
def CopL (w : World) (base : Nat) (v : Value) (ms : List XMe) (n : Nat) : Prop :=
  ∃ css : List (List Value), css.length = n ∧ w.ownsRow base 48 8 v n css.flatten ∧ ∀ j (hj : j < n) (h2 : j < ms.length) (h3 : j < css.length), CopMe w base ms[j] css[j]
theorem CopL.keep {w w' : World} {base n : Nat} {v : Value} {ms : List XMe} (h : CopL w base v ms n) (hg : w.grownBy w' none) : CopL w' base v ms n := by
  obtain ⟨css, h1, h2, h3⟩ := h
  exact ⟨css, h1, h2.kept hg (by cases v.ownBlock <;> simp), fun j hj h4 h5 => (h3 j hj h4 h5).keep hg⟩
end Go.Proofs.YtdhophglnhcjbaaDoor
