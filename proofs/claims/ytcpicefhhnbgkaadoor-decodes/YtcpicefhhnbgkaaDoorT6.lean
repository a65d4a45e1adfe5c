import Derived.Test.YtcpicefhhnbgkaaDoorT5
import Derived.Deep.RegionHeld2
namespace Go.Proofs.YtcpicefhhnbgkaaDoor
open Go.RowKit Cf

/-- the table of the shapes, as it is laid -/
def Shp (w : World) : Prop := 0 < w.heap.size ∧ ∀ op, op < 32 → w.cell? ⟨0, op * 3, none⟩ = some (.int .i64 (width op)) ∧ w.cell? ⟨0, op * 3 + 1, none⟩ = some (.bool (wantsC op)) ∧ w.cell? ⟨0, op * 3 + 2, none⟩ = some (.bool (wantsM op))
theorem Shp.keep {w w1 : World} {row : Option Nat} (h : Shp w) (hg : w.grownBy w1 row) (hr : some 0 ≠ row) : Shp w1 := by
  have h0 : w1.heap[0]? = w.heap[0]? := hg.block 0 h.1 hr
  refine ⟨Nat.lt_of_lt_of_le h.1 hg.size, fun op ho => ?_⟩
  have := h.2 op ho
  simp only [World.cell?, h0] at this ⊢
  exact this

theorem width_le (op : Nat) : width op ≤ 4 := by unfold width; split; omega; split; omega; split <;> omega

def opnd (f : ByteArray) (k : Nat) (st : St) : R Int := match num f k st with | .ok (n, st1) => .ok (signed k n, st1) | .error er => .error er
def isInt' (_ : World) (v : Value) (a : Int) : Prop := v = .int .i64 a
theorem wrap_signed (n : Nat) (h : n < 256 ^ 4) : wrap64 (wrap32 n) = signed 4 n := by
  unfold wrap64 wrap32 signed
  split <;> omega

set_option maxHeartbeats 400000 in
theorem operand_any (w : World) (b : Nat) (f : ByteArray) (pv : Value) (st : St) (k : Nat) (h : Hid (Rd w b f pv st)) (hk : k ≤ 4) :
    Calls Tryd.prog 74 #[.pointer (some ⟨b, 0, none⟩), .int .i64 k] w
      (Ends w b f pv (opnd f k st) isInt') := by
  go_enter Tryd.func74, Tryd.ntmps74
  go_wp2_with (go_at_call 42; refine (number_any _ b f pv st k h hk).mono ?_)
  intro e w1 he
  rcases he.cases with ⟨n, st1, v, hr, rfl, rfl, hR, hg⟩ | ⟨er, hr, rfl, hg⟩
  · have hq := (num_lt hr).2
    have HH : Hid (num f k st = .ok (n, st1)) := hr
    clear hr he
    by_cases h4 : k = 4
    · subst h4
      go_wp2
      go_ret
      refine .ok (a := signed 4 n) ?_ hg (congrArg _ (wrap_signed n hq)) hR.out
      rw [opnd, HH.out]
    · go_wp2
      go_ret
      refine .ok (a := (n : Int)) ?_ hg rfl hR.out
      rw [opnd, HH.out]
      simp [signed, h4]
  · go_wp2
    refine ⟨rfl, .err (er := er) ?_ rfl rfl hg⟩
    rw [opnd, hr]

section
variable {f : ByteArray} {st st1 st2 st3 st4 : St} {op : Nat} {va : Int} {vc vm : ByteArray} {er : Er}
theorem ins_e1 (h1 : num f 1 st = .ok (op, st1)) (h4 : ¬ 32 ≤ op) (h : opnd f (width op) st1 = .error er) : ins f st = .error er := by
  rw [opnd] at h
  rw [ins, h1]
  simp only [h4, if_false]
  split at h
  · cases h
  · rename_i h5; simp only [h5]; cases h; rfl
theorem opnd_ok (h : opnd f (width op) st1 = .ok (va, st2)) : ∃ n, num f (width op) st1 = .ok (n, st2) ∧ va = signed (width op) n := by
  rw [opnd] at h
  split at h
  · rename_i n s h5; cases h; exact ⟨n, h5, rfl⟩
  · cases h
theorem ins_e2 (h1 : num f 1 st = .ok (op, st1)) (h4 : ¬ 32 ≤ op) (h2 : opnd f (width op) st1 = .ok (va, st2)) (h : nameIf f (wantsC op) st2 = .error er) : ins f st = .error er := by
  obtain ⟨n, hn, rfl⟩ := opnd_ok h2
  rw [ins, h1]
  simp only [h4, if_false, hn, h]
theorem ins_e3 (h1 : num f 1 st = .ok (op, st1)) (h4 : ¬ 32 ≤ op) (h2 : opnd f (width op) st1 = .ok (va, st2)) (h3 : nameIf f (wantsC op) st2 = .ok (vc, st3)) (h : nameIf f (wantsM op) st3 = .error er) : ins f st = .error er := by
  obtain ⟨n, hn, rfl⟩ := opnd_ok h2
  rw [ins, h1]
  simp only [h4, if_false, hn, h3, h]
theorem ins_ok (h1 : num f 1 st = .ok (op, st1)) (h4 : ¬ 32 ≤ op) (h2 : opnd f (width op) st1 = .ok (va, st2)) (h3 : nameIf f (wantsC op) st2 = .ok (vc, st3)) (h : nameIf f (wantsM op) st3 = .ok (vm, st4)) :
    ins f st = .ok (⟨op, va, vc, vm⟩, st4) := by
  obtain ⟨n, hn, rfl⟩ := opnd_ok h2
  rw [ins, h1]
  simp only [h4, if_false, hn, h3, h]
end

set_option maxHeartbeats 400000 in
theorem instruction_any (w : World) (b : Nat) (f : ByteArray) (pv : Value) (st : St) (h : Hid (Rd w b f pv st)) (hS : Hid (Shp w)) (hb0 : 0 < b) :
    Calls Tryd.prog 64 #[.pointer (some ⟨b, 0, none⟩)] w (Ends w b f pv (ins f st) isIn) := by
  obtain ⟨-, -, -, c1, -, -, -, -, -⟩ := h.out.cells
  have hbl : b < w.heap.size := h.out.lt
  go_enter Tryd.func64, Tryd.ntmps64
  go_wp2_with (go_at_call 42; refine (number_any _ b f pv st 1 (h.out.keep (gb_alloc _ _ _)) (by omega)).mono ?_)
  intro e w1 he
  rcases he.cases with ⟨op, st1, v, hr, rfl, rfl, hR, hg⟩ | ⟨er, hr, rfl, hg⟩
  · have hq := num_lt hr
    have HH : Hid (num f 1 st = .ok (op, st1)) := hr
    clear hr he c1
    obtain ⟨rfl, hn⟩ := hq
    by_cases h4 : 32 ≤ op
    · go_wp2
      refine ⟨rfl, .err (er := (3, st.at_)) ?_ rfl rfl (gb_tr (gb_alloc _ _ _) hg)⟩
      rw [ins, HH.out]
      simp [h4]
    · have hS1 : Shp w1 := (hS.out.keep (gb_alloc w _ none) (by simp)).keep hg (by simp; omega)
      obtain ⟨s0, s1, s2⟩ := hS1.2 op (by omega)
      go_wp2
      obtain ⟨wa, hwa⟩ : ∃ wa, wa = (w1.alloc (Obj.cells #[Value.int IntKind.i64 (width op), Value.bool (wantsC op), Value.bool (wantsM op)] 113)).drew := ⟨_, rfl⟩
      have hga : w1.grownBy wa none := by rw [hwa]; exact gb_tr (gb_alloc _ _ _) (gb_drew _ _)
      have hRa : Hid (Rd wa b f pv { st with at_ := st.at_ + 1 }) := hR.out.keep hga
      have hB : Blk wa w.heap.size _ _ := ((Blk.new w _ _).keep hg (by simp; omega)).keep hga (by simp)
      have hA : Blk wa w1.heap.size #[Value.int IntKind.i64 (width op), Value.bool (wantsC op), Value.bool (wantsM op)] 113 := by rw [hwa]; exact (Blk.new w1 _ _).keep (gb_drew _ none) (by simp)
      have hlt1 : w.heap.size < w1.heap.size := by have := hg.size; simp at this; omega
      have hne1 : w.heap.size ≠ w1.heap.size := by omega
      have hb1 : b < w1.heap.size := hR.out.lt
      rw [hwa] at hRa
      have hg0 : w.grownBy wa (some b) := gb_tn (gb_tr (gb_alloc _ _ _) hg) hga
      rw [hwa] at hg0 hB hA
      clear hga hwa s0 s1 s2 hS1
      go_region_held2 (fun w' => w'.cell? ⟨w1.heap.size, 0, none⟩ = some (.int .i64 (width op)) ∧ w'.cell? ⟨w1.heap.size, 1, none⟩ = some (.bool (wantsC op)) ∧ w'.cell? ⟨w1.heap.size, 2, none⟩ = some (.bool (wantsM op))) (go_keep)
        (first
          | (go_at_call 74
             refine Ends.bind (operand_any _ b f pv _ _ hRa (width_le op)) (fun er w' hr hg2 => ⟨rfl, .err (er := er) (ins_e1 HH.out h4 hr) rfl rfl (gb_tr hg0 hg2)⟩) ?_
             rintro va st2 v w2 HH2 rfl hR2 hg2
             have hB2 : Blk w2 w.heap.size _ _ := hB.keep hg2 (by simp; omega)
             have hA2 : Blk w2 w1.heap.size _ _ := hA.keep hg2 (by simp; omega)
             have d0 := hA2.cell 0 _ rfl
             have d1 := hA2.cell 1 _ rfl
             have d2 := hA2.cell 2 _ rfl
             have hg0' : w.grownBy w2 (some b) := gb_tr hg0 hg2
             clear hB hA hRa hg0 hg2)
          | (go_at_call_of 73 (wantsC op)
             refine Ends.bind (nameIf_any w2 b f pv _ _ hR2) (fun er w' hr hg2 => ⟨rfl, .err (er := er) (ins_e2 HH.out h4 HH2.out hr) rfl rfl (gb_tr hg0' hg2)⟩) ?_
             rintro vc st3 v w3 HH3 rfl hR3 hg3
             have hB3 : Blk w3 w.heap.size _ _ := hB2.keep hg3 (by simp; omega)
             have hA3 : Blk w3 w1.heap.size _ _ := hA2.keep hg3 (by simp; omega)
             clear d0 d1 d2
             have d0 := hA3.cell 0 _ rfl
             have d1 := hA3.cell 1 _ rfl
             have d2 := hA3.cell 2 _ rfl
             have hg1' : w.grownBy w3 (some b) := gb_tr hg0' hg3
             clear hB2 hA2 hR2 hg0' hg3)
          | (go_at_call_of 73 (wantsM op)
             refine Ends.bind (nameIf_any w3 b f pv _ _ hR3) (fun er w' hr hg2 => ⟨rfl, .err (er := er) (ins_e3 HH.out h4 HH2.out HH3.out hr) rfl rfl (gb_tr hg1' hg2)⟩) ?_
             rintro vm st4 v w4 HH4 rfl hR4 hg4
             have hB4 : Blk w4 w.heap.size _ _ := hB3.keep hg4 (by simp; omega)
             have hA4 : Blk w4 w1.heap.size _ _ := hA3.keep hg4 (by simp; omega)
             clear d0 d1 d2
             have d0 := hA4.cell 0 _ rfl
             have d1 := hA4.cell 1 _ rfl
             have d2 := hA4.cell 2 _ rfl
             have g0 := hB4.cell 0 _ rfl
             have g1 := hB4.cell 1 _ rfl
             have g2 := hB4.cell 2 _ rfl
             have g3 := hB4.cell 3 _ rfl
             have e0 := hB4.frozen 0
             have e1 := hB4.frozen 1
             have e2 := hB4.frozen 2
             have e3 := hB4.frozen 3
             have hg2' : w.grownBy w4 (some b) := gb_tr hg1' hg4
             clear hB3 hA3 hR3 hg1' hg4))
      go_wp2
      refine bodyPost_ret (v := .agg #[.int .i64 op, .int .i64 va, .string vc, .string vm]) (by simp [results, Tryd.results64, go_sem, g0, g1, g2, g3]) rfl ?_
      exact .ok (a := ⟨op, va, vc, vm⟩) (st := st4) (ins_ok HH.out h4 HH2.out HH3.out HH4.out) (gb_new4 hg2' (Nat.le_refl _)) rfl (hR4.out.new4 (by omega) (h.out.poolLt (Nat.le_refl _)))
  · go_wp2
    refine ⟨rfl, .err (er := er) ?_ rfl rfl (gb_tr (gb_alloc _ _ _) hg)⟩
    rw [ins, hr]
end Go.Proofs.YtcpicefhhnbgkaaDoor
