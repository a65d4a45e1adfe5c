import Derived.Test.YtcpicefhhnbgkaaDoorE11
namespace Go.Proofs.YtcpicefhhnbgkaaDoor
open Go.RowKit Cf

/-- where a row's things lie, place by place -/
theorem row_at {α : Type} {base e sz : Nat} {enc : α → List Value} (hs : ∀ x, (enc x).length = sz) {w : World} {a : Option Addr} {n k : Nat} {xs : List α} (h : IsRow base e sz enc w (.slice a n k) xs) (j : Nat) (hj : j < xs.length) :
    ∃ g, a = some ⟨g, 0, none⟩ ∧ ∀ r u, (enc xs[j])[r]? = some u → w.cell? ⟨g, j * sz + r, none⟩ = some u := by
  rcases row_cells hs h with ⟨-, hn⟩ | ⟨g, cap, h1, hc⟩
  · rw [hn] at hj; cases hj
  · injection h1 with h2 h3 h4
    exact ⟨g, h2, fun r u => hc j hj r u⟩

set_option maxRecDepth 100000 in
set_option maxHeartbeats 1000000 in
theorem sameMethods_any (w : World) (b1 b2 : Nat) (v1 v2 : Value) (m : Me) (h1 : Hid (isMe b1 w v1 m)) (h2 : Hid (isMe b2 w v2 m)) (hp : m.params.length ≤ 65536) (hc : m.code.length ≤ 65536) (hh : m.handlers.length ≤ 65536) :
    Calls Tryd.prog 26 #[v1, v2] w fun e w' => e = .returned (.bool true) ∧ w.grownBy w' none := by
  obtain ⟨c1, e1, p1, q1, r1, rfl, hp1, hq1, hr1, -⟩ := h1.out
  obtain ⟨c2, e2, p2, q2, r2, rfl, hp2, hq2, hr2, -⟩ := h2.out
  subst e1 e2
  have HP1 : Hid (IsRow b1 41 2 encTy w p1 m.params) := hp1
  have HP2 : Hid (IsRow b2 41 2 encTy w p2 m.params) := hp2
  have HQ1 : Hid (IsRow b1 50 4 encIn w q1 m.code) := hq1
  have HQ2 : Hid (IsRow b2 50 4 encIn w q2 m.code) := hq2
  have HR1 : Hid (IsRow b1 52 4 encHd w r1 m.handlers) := hr1
  have HR2 : Hid (IsRow b2 52 4 encHd w r2 m.handlers) := hr2
  obtain ⟨p1a, p1k, rfl⟩ := own_slice hp1
  obtain ⟨p2a, p2k, rfl⟩ := own_slice hp2
  obtain ⟨q1a, q1k, rfl⟩ := own_slice hq1
  obtain ⟨q2a, q2k, rfl⟩ := own_slice hq2
  obtain ⟨r1a, r1k, rfl⟩ := own_slice hr1
  obtain ⟨r2a, r2k, rfl⟩ := own_slice hr2
  clear hp1 hp2 hq1 hq2 hr1 hr2 h1 h2
  go_enter Tryd.func26, Tryd.ntmps26
  have hgA : Hid (w.grownBy ((w.alloc (.cells #[.string m.name, .slice p1a m.params.length p1k, .int .i64 m.ret.kind, .string m.ret.name, .int .i64 m.stack, .int .i64 m.locals, .slice q1a m.code.length q1k, .slice r1a m.handlers.length r1k] 48)).alloc (.cells #[.string m.name, .slice p2a m.params.length p2k, .int .i64 m.ret.kind, .string m.ret.name, .int .i64 m.stack, .int .i64 m.locals, .slice q2a m.code.length q2k, .slice r2a m.handlers.length r2k] 48)) none) := gb_tr (gb_alloc _ _ _) (gb_alloc _ _ _)
  have hA1 : Hid (Blk ((w.alloc (.cells #[.string m.name, .slice p1a m.params.length p1k, .int .i64 m.ret.kind, .string m.ret.name, .int .i64 m.stack, .int .i64 m.locals, .slice q1a m.code.length q1k, .slice r1a m.handlers.length r1k] 48)).alloc (.cells #[.string m.name, .slice p2a m.params.length p2k, .int .i64 m.ret.kind, .string m.ret.name, .int .i64 m.stack, .int .i64 m.locals, .slice q2a m.code.length q2k, .slice r2a m.handlers.length r2k] 48)) w.heap.size #[.string m.name, .slice p1a m.params.length p1k, .int .i64 m.ret.kind, .string m.ret.name, .int .i64 m.stack, .int .i64 m.locals, .slice q1a m.code.length q1k, .slice r1a m.handlers.length r1k] 48) := (Blk.new w _ _).keep (gb_alloc _ _ none) (by simp)
  have hA2 : Hid (Blk ((w.alloc (.cells #[.string m.name, .slice p1a m.params.length p1k, .int .i64 m.ret.kind, .string m.ret.name, .int .i64 m.stack, .int .i64 m.locals, .slice q1a m.code.length q1k, .slice r1a m.handlers.length r1k] 48)).alloc (.cells #[.string m.name, .slice p2a m.params.length p2k, .int .i64 m.ret.kind, .string m.ret.name, .int .i64 m.stack, .int .i64 m.locals, .slice q2a m.code.length q2k, .slice r2a m.handlers.length r2k] 48)) (w.heap.size + 1) #[.string m.name, .slice p2a m.params.length p2k, .int .i64 m.ret.kind, .string m.ret.name, .int .i64 m.stack, .int .i64 m.locals, .slice q2a m.code.length q2k, .slice r2a m.handlers.length r2k] 48) := by
    have := Blk.new (w.alloc (.cells #[.string m.name, .slice p1a m.params.length p1k, .int .i64 m.ret.kind, .string m.ret.name, .int .i64 m.stack, .int .i64 m.locals, .slice q1a m.code.length q1k, .slice r1a m.handlers.length r1k] 48)) #[.string m.name, .slice p2a m.params.length p2k, .int .i64 m.ret.kind, .string m.ret.name, .int .i64 m.stack, .int .i64 m.locals, .slice q2a m.code.length q2k, .slice r2a m.handlers.length r2k] 48
    unfold Hid
    simpa using this
  have HT1 : Hid (IsRow b1 41 2 encTy ((w.alloc (.cells #[.string m.name, .slice p1a m.params.length p1k, .int .i64 m.ret.kind, .string m.ret.name, .int .i64 m.stack, .int .i64 m.locals, .slice q1a m.code.length q1k, .slice r1a m.handlers.length r1k] 48)).alloc (.cells #[.string m.name, .slice p2a m.params.length p2k, .int .i64 m.ret.kind, .string m.ret.name, .int .i64 m.stack, .int .i64 m.locals, .slice q2a m.code.length q2k, .slice r2a m.handlers.length r2k] 48)) (.slice p1a m.params.length p1k) m.params) := World.ownsRow.kept HP1.out hgA.out (by cases (Value.slice p1a m.params.length p1k).ownBlock <;> simp)
  have HT2 : Hid (IsRow b2 41 2 encTy ((w.alloc (.cells #[.string m.name, .slice p1a m.params.length p1k, .int .i64 m.ret.kind, .string m.ret.name, .int .i64 m.stack, .int .i64 m.locals, .slice q1a m.code.length q1k, .slice r1a m.handlers.length r1k] 48)).alloc (.cells #[.string m.name, .slice p2a m.params.length p2k, .int .i64 m.ret.kind, .string m.ret.name, .int .i64 m.stack, .int .i64 m.locals, .slice q2a m.code.length q2k, .slice r2a m.handlers.length r2k] 48)) (.slice p2a m.params.length p2k) m.params) := World.ownsRow.kept HP2.out hgA.out (by cases (Value.slice p2a m.params.length p2k).ownBlock <;> simp)
  go_wp2_with (
    go_at_call 35
    refine (sameTypes_any _ b1 b2 _ _ m.params HT1 HT2 hp).mono ?_
    rintro e w3 ⟨rfl, hg3⟩
    have HB1 : Hid (Blk w3 w.heap.size #[.string m.name, .slice p1a m.params.length p1k, .int .i64 m.ret.kind, .string m.ret.name, .int .i64 m.stack, .int .i64 m.locals, .slice q1a m.code.length q1k, .slice r1a m.handlers.length r1k] 48) := hA1.out.keep hg3 (by simp)
    have HB2 : Hid (Blk w3 (w.heap.size + 1) #[.string m.name, .slice p2a m.params.length p2k, .int .i64 m.ret.kind, .string m.ret.name, .int .i64 m.stack, .int .i64 m.locals, .slice q2a m.code.length q2k, .slice r2a m.handlers.length r2k] 48) := hA2.out.keep hg3 (by simp)
    have HG3 : Hid (w.grownBy w3 none) := gb_tr hgA.out hg3
    have c0 := HB1.out.cell 0 _ rfl
    have d0 := HB2.out.cell 0 _ rfl
    have c1 := HB1.out.cell 1 _ rfl
    have d1 := HB2.out.cell 1 _ rfl
    have c2 := HB1.out.cell 2 _ rfl
    have d2 := HB2.out.cell 2 _ rfl
    have c3 := HB1.out.cell 3 _ rfl
    have d3 := HB2.out.cell 3 _ rfl
    have c4 := HB1.out.cell 4 _ rfl
    have d4 := HB2.out.cell 4 _ rfl
    have c5 := HB1.out.cell 5 _ rfl
    have d5 := HB2.out.cell 5 _ rfl
    have c6 := HB1.out.cell 6 _ rfl
    have d6 := HB2.out.cell 6 _ rfl
    have c7 := HB1.out.cell 7 _ rfl
    have d7 := HB2.out.cell 7 _ rfl
    clear hg3 HT1 HT2 hgA hA1 hA2
    try dsimp only)
  go_loopw [6] (fun i wr => ∃ j : Nat, j ≤ m.code.length ∧ i = .int .i64 j ∧ Hid (∀ a, wr.cell? a = w3.cell? a) ∧ Hid (w3.grownBy wr none)) (fun i _ => m.code.length - (intOf i).toNat)
  case atStart => exact ⟨0, Nat.zero_le _, rfl, fun _ => rfl, gb_refl _ _⟩
  case round =>
    obtain ⟨j, hj, rfl, HQ, HGW⟩ := hrel
    have e1 : wr.cell? ⟨w.heap.size, 6, none⟩ = some (.slice q1a m.code.length q1k) := (HQ.out _).trans c6
    have e2 : wr.cell? ⟨w.heap.size + 1, 6, none⟩ = some (.slice q2a m.code.length q2k) := (HQ.out _).trans d6
    have e3 : wr.cell? ⟨w.heap.size, 7, none⟩ = some (.slice r1a m.handlers.length r1k) := (HQ.out _).trans c7
    by_cases hlt : j < m.code.length
    · obtain ⟨g1, rfl, hc1⟩ := row_at (enc := encIn) (fun _ => rfl) (World.ownsRow.kept HQ1.out HG3.out (by cases (Value.slice q1a m.code.length q1k).ownBlock <;> simp)) j hlt
      obtain ⟨g2, rfl, hc2⟩ := row_at (enc := encIn) (fun _ => rfl) (World.ownsRow.kept HQ2.out HG3.out (by cases (Value.slice q2a m.code.length q2k).ownBlock <;> simp)) j hlt
      have f0 : wr.cell? ⟨g1, j * 4, none⟩ = some (.int .i64 m.code[j].op) := (HQ.out _).trans (hc1 0 _ rfl)
      have k0 : wr.cell? ⟨g2, j * 4, none⟩ = some (.int .i64 m.code[j].op) := (HQ.out _).trans (hc2 0 _ rfl)
      have f1 : wr.cell? ⟨g1, j * 4 + 1, none⟩ = some (.int .i64 m.code[j].a) := (HQ.out _).trans (hc1 1 _ rfl)
      have k1 : wr.cell? ⟨g2, j * 4 + 1, none⟩ = some (.int .i64 m.code[j].a) := (HQ.out _).trans (hc2 1 _ rfl)
      have f2 : wr.cell? ⟨g1, j * 4 + 2, none⟩ = some (.string m.code[j].cls) := (HQ.out _).trans (hc1 2 _ rfl)
      have k2 : wr.cell? ⟨g2, j * 4 + 2, none⟩ = some (.string m.code[j].cls) := (HQ.out _).trans (hc2 2 _ rfl)
      have f3 : wr.cell? ⟨g1, j * 4 + 3, none⟩ = some (.string m.code[j].mem) := (HQ.out _).trans (hc1 3 _ rfl)
      have k3 : wr.cell? ⟨g2, j * 4 + 3, none⟩ = some (.string m.code[j].mem) := (HQ.out _).trans (hc2 3 _ rfl)
      clear hc1 hc2
      go_wp2_with fail
      go_quiet (fail)
      go_wp2_with fail
      go_roundw
      case rel => exact ⟨j + 1, hlt, by go_num, fun a => HQ.out a, gb_tn HGW.out (gb_drewN _ _ _)⟩
      case measure => simp [intOf]; omega
    · go_wp2_with fail
      go_loopw [7] (fun i wz => ∃ j : Nat, j ≤ m.handlers.length ∧ i = .int .i64 j ∧ Hid (∀ a, wz.cell? a = w3.cell? a) ∧ Hid (w3.grownBy wz none)) (fun i _ => m.handlers.length - (intOf i).toNat)
      case atStart => exact ⟨0, Nat.zero_le _, rfl, fun a => HQ.out a, HGW.out⟩
      case round =>
        clear HQ HGW
        obtain ⟨j, hj, rfl, HQ, HGW⟩ := hrel
        have e1 : wr.cell? ⟨w.heap.size, 7, none⟩ = some (.slice r1a m.handlers.length r1k) := (HQ.out _).trans c7
        have e2 : wr.cell? ⟨w.heap.size + 1, 7, none⟩ = some (.slice r2a m.handlers.length r2k) := (HQ.out _).trans d7
        by_cases hlt : j < m.handlers.length
        · obtain ⟨g1, rfl, hc1⟩ := row_at (enc := encHd) (fun _ => rfl) (World.ownsRow.kept HR1.out HG3.out (by cases (Value.slice r1a m.handlers.length r1k).ownBlock <;> simp)) j hlt
          obtain ⟨g2, rfl, hc2⟩ := row_at (enc := encHd) (fun _ => rfl) (World.ownsRow.kept HR2.out HG3.out (by cases (Value.slice r2a m.handlers.length r2k).ownBlock <;> simp)) j hlt
          have f0 : wr.cell? ⟨g1, j * 4, none⟩ = some (.int .i64 m.handlers[j].from_) := (HQ.out _).trans (hc1 0 _ rfl)
          have k0 : wr.cell? ⟨g2, j * 4, none⟩ = some (.int .i64 m.handlers[j].from_) := (HQ.out _).trans (hc2 0 _ rfl)
          have f1 : wr.cell? ⟨g1, j * 4 + 1, none⟩ = some (.int .i64 m.handlers[j].to) := (HQ.out _).trans (hc1 1 _ rfl)
          have k1 : wr.cell? ⟨g2, j * 4 + 1, none⟩ = some (.int .i64 m.handlers[j].to) := (HQ.out _).trans (hc2 1 _ rfl)
          have f2 : wr.cell? ⟨g1, j * 4 + 2, none⟩ = some (.int .i64 m.handlers[j].at_) := (HQ.out _).trans (hc1 2 _ rfl)
          have k2 : wr.cell? ⟨g2, j * 4 + 2, none⟩ = some (.int .i64 m.handlers[j].at_) := (HQ.out _).trans (hc2 2 _ rfl)
          have f3 : wr.cell? ⟨g1, j * 4 + 3, none⟩ = some (.string m.handlers[j].cls) := (HQ.out _).trans (hc1 3 _ rfl)
          have k3 : wr.cell? ⟨g2, j * 4 + 3, none⟩ = some (.string m.handlers[j].cls) := (HQ.out _).trans (hc2 3 _ rfl)
          clear hc1 hc2
          go_wp2_with fail
          go_quiet (fail)
          go_wp2_with fail
          go_roundw
          case rel => exact ⟨j + 1, hlt, by go_num, fun a => HQ.out a, gb_tn HGW.out (gb_drewN _ _ _)⟩
          case measure => simp [intOf]; omega
        · go_wp2_with fail
          go_ret
          exact ⟨rfl, gb_tr HG3.out HGW.out⟩
end Go.Proofs.YtcpicefhhnbgkaaDoor
