import Derived.Test.YtcpicefhhnbgkaaDoorE16
namespace Go.Proofs.YtcpicefhhnbgkaaDoor
open Go.RowKit Cf

/-- what both readers answer -/
def clOf (r : Except Er Cl) : Cl := match r with | .ok k => k | .error _ => ⟨⟨#[]⟩, ⟨#[]⟩, [], []⟩
def erOf (r : Except Er Cl) : Er := match r with | .ok _ => (0, 0) | .error er => er
theorem DecEnds.told {w w' : World} {f : ByteArray} {e : Ending} (h : DecEnds w (dec f) e w') : w.grownBy w' none ∧ ∃ v, e = .returned (.tuple #[v, .int .i64 (erOf (dec f)).1, .int .i64 (erOf (dec f)).2]) ∧ isCl w.heap.size w' v (clOf (dec f)) := by
  obtain ⟨hg, v, c, he, hm⟩ := h
  refine ⟨hg, v, ?_⟩
  cases hd : dec f with
  | ok k =>
    rw [hd] at hm
    obtain ⟨h1, rfl⟩ := hm
    exact ⟨he, h1⟩
  | error er =>
    rw [hd] at hm
    obtain ⟨rfl, rfl⟩ := hm
    exact ⟨he, zero_isCl _ _⟩
theorem small_told (f : ByteArray) : Small (clOf (dec f)) := by
  cases hd : dec f with
  | ok k => exact dec_small hd
  | error er => exact zero_small

theorem num_any (w : World) (x : Nat) : Calls Tryd.prog 9 #[.int .i64 x] w fun e w' => e = .returned (.int .i64 x) ∧ w = w' := by
  go_enter Tryd.func9, Tryd.ntmps9
  go_wp2_with fail
  go_ret
  exact ⟨rfl, rfl⟩

theorem DecEnds.told2 {w w' : World} {f : ByteArray} {e : Ending} {C : Cl} {K : Er} (h : DecEnds w (dec f) e w') (hC : Hid (C = clOf (dec f))) (hK : Hid (K = erOf (dec f))) :
    Hid (w.grownBy w' none) ∧ ∃ a1 k1 a2 k2, e = .returned (.tuple #[.agg #[.string C.name, .string C.super, .slice a1 C.fields.length k1, .slice a2 C.methods.length k2], .int .i64 K.1, .int .i64 K.2]) ∧
      Hid (isCl w.heap.size w' (.agg #[.string C.name, .string C.super, .slice a1 C.fields.length k1, .slice a2 C.methods.length k2]) C) := by
  obtain ⟨hg, v, he, hc⟩ := h.told
  rw [← hC.out] at hc
  rw [← hK.out] at he
  have hcc := hc
  obtain ⟨a1, k1, a2, k2, rfl, -, -⟩ := hc
  exact ⟨hg, a1, k1, a2, k2, he, hcc⟩

set_option maxRecDepth 100000 in
set_option maxHeartbeats 1000000 in
theorem decodes_any (w : World) (f : ByteArray) (hf : f.size ≤ maxLen) (hS : Hid (Shp w)) :
    Calls Tryd.prog 4 #[.string f] w fun e w' => e = .returned (.bool true) ∧ w.grownBy w' none := by
  obtain ⟨C, hC⟩ : ∃ C, C = clOf (dec f) := ⟨_, rfl⟩
  obtain ⟨K, hK⟩ : ∃ K, K = erOf (dec f) := ⟨_, rfl⟩
  have HC : Hid (C = clOf (dec f)) := hC
  have HK : Hid (K = erOf (dec f)) := hK
  have HSM : Hid (Small C) := by rw [hC]; exact small_told f
  clear hC hK
  obtain ⟨K1, K2⟩ := K
  go_enter Tryd.func4, Tryd.ntmps4
  go_wp2_with (first
    | (go_at_call 9
       refine (num_any _ _).mono ?_
       rintro e w4 ⟨rfl, rfl⟩
       try dsimp only)
    | (go_at_call 12
       refine (same_any _ w.heap.size (w1.heap.size + 1) _ _ C HI1 HI2 HSM).mono ?_
       rintro e w3 ⟨rfl, hg3⟩
       have HG3 : Hid (w.grownBy w3 none) := gb_tr HG2.out hg3
       clear hg3 HI1 HI2 HG2
       try dsimp only)
    | (go_at_call 11
       refine (edecode_any _ f hf).mono ?_
       intro e w2 he
       obtain ⟨hg2, a3, k3, a4, k4, rfl, hc2⟩ := he.told2 HC HK
       have HD1 : Hid (Blk w2 w1.heap.size #[.string C.name, .string C.super, .slice a1 C.fields.length k1, .slice a2 C.methods.length k2] 25) := (Blk.new w1 _ _).keep hg2.out (by simp)
       have hlt : w1.heap.size < w2.heap.size := HD1.out.lt
       have hne : w2.heap.size ≠ w1.heap.size := by omega
       have c0 := HD1.out.cell 0 _ rfl
       have c1 := HD1.out.cell 1 _ rfl
       have c2 := HD1.out.cell 2 _ rfl
       have c3 := HD1.out.cell 3 _ rfl
       have HG2 : Hid (w.grownBy (w2.alloc (.cells #[.string C.name, .string C.super, .slice a3 C.fields.length k3, .slice a4 C.methods.length k4] 25)) none) := gb_tr (gb_tr (gb_tr HG1.out (gb_alloc _ _ _)) hg2.out) (gb_alloc _ _ _)
       have HI1 : Hid (isCl w.heap.size (w2.alloc (.cells #[.string C.name, .string C.super, .slice a3 C.fields.length k3, .slice a4 C.methods.length k4] 25)) (.agg #[.string C.name, .string C.super, .slice a1 C.fields.length k1, .slice a2 C.methods.length k2]) C) := ((HI.out.keep (gb_alloc w1 _ none) (by simp)).keep hg2.out (by simp)).keep (gb_alloc _ _ none) (by simp)
       have HI2 : Hid (isCl (w1.heap.size + 1) (w2.alloc (.cells #[.string C.name, .string C.super, .slice a3 C.fields.length k3, .slice a4 C.methods.length k4] 25)) (.agg #[.string C.name, .string C.super, .slice a3 C.fields.length k3, .slice a4 C.methods.length k4]) C) := (hc2.out.base (by simp)).keep (gb_alloc _ _ none) (by simp)
       clear he hg2 hc2 HI HG1
       try dsimp only)
    | (go_at_call 10
       refine (decode_any _ f hf hS).mono ?_
       intro e w1 he
       obtain ⟨hg1, a1, k1, a2, k2, rfl, hc1⟩ := he.told2 HC HK
       have HI : Hid (isCl w.heap.size w1 _ _) := hc1
       have HG1 : Hid (w.grownBy w1 none) := hg1
       clear he hg1 hc1
       try dsimp only))
  go_ret
  exact ⟨rfl, HG3.out⟩
end Go.Proofs.YtcpicefhhnbgkaaDoor
