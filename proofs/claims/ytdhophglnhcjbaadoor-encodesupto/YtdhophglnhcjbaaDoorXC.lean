/- Contracts of the functions that the law goes through: a part of the proof that the last text tells. -/
import Derived.Test.YtdhophglnhcjbaaDoorXB
import Derived.Maps.OwnSet
import Derived.StringKeys
set_option linter.unusedVariables false
set_option linter.unusedSimpArgs false
namespace Go.Proofs.YtdhophglnhcjbaaDoor
open Go.RowKit Cf

def byteV (x : UInt8) : Value := .int .u8 x.toNat
/-- the program's writer in memory: its struct, its map (an object that is looked at elsewhere), the pool's bytes and the body's -/
structure Wr (w : World) (b mb : Nat) (mo : Obj) (pv bv : Value) (pool body : List UInt8) (wrong : Bool) : Prop where
  blk : Blk w b #[.map (some mb), pv, bv, .bool wrong] 78
  map : w.heap[mb]? = some mo
  notCells : ∀ cs t fr, mo ≠ .cells cs t fr
  poolR : w.ownsRow (b + 1) 5 1 pv pool.length (pool.map byteV)
  bodyR : w.ownsRow (b + 1) 5 1 bv body.length (body.map byteV)
  apart : pv.ownBlock = none ∨ pv.ownBlock ≠ bv.ownBlock
/-- what a writer's call may change -/
def wrMay (w : World) (b mb k : Nat) : Prop := k = b ∨ k = mb ∨ (b < k ∧ ∃ cs fr, w.heap[k]? = some (.cells cs 5 fr))
structure KeptW (w w' : World) (b mb : Nat) : Prop where
  os : w'.os = w.os
  tape : w'.tape = w.tape
  output : w'.output = w.output
  size : w.heap.size ≤ w'.heap.size
  block : ∀ k, k < w.heap.size → ¬ wrMay w b mb k → w'.heap[k]? = w.heap[k]?
theorem KeptW.refl (w : World) (b mb : Nat) : KeptW w w b mb := ⟨rfl, rfl, rfl, Nat.le_refl _, fun _ _ _ => rfl⟩
theorem KeptW.trans {w w1 w2 : World} {b mb : Nat} (h : KeptW w w1 b mb) (h1 : KeptW w1 w2 b mb) : KeptW w w2 b mb :=
  ⟨h1.os.trans h.os, h1.tape.trans h.tape, h1.output.trans h.output, Nat.le_trans h.size h1.size, fun k hk hm => by
    have e := h.block k hk hm
    refine (h1.block k (Nat.lt_of_lt_of_le hk h.size) (fun hm1 => hm ?_)).trans e
    rcases hm1 with h2 | h2 | ⟨h2, cs, fr, h3⟩
    · exact .inl h2
    · exact .inr (.inl h2)
    · exact .inr (.inr ⟨h2, cs, fr, by rw [← e]; exact h3⟩)⟩
theorem KeptW.of {w w' : World} {b mb : Nat} {row : Option Nat} (h : w.grownBy w' row) (hr : ∀ k, row = some k → k < w.heap.size → wrMay w b mb k) : KeptW w w' b mb :=
  ⟨h.os, h.tape, h.output, h.size, fun k hk hm => h.block k hk (fun e => hm (hr k e.symm hk))⟩
theorem KeptW.ofNone {w w' : World} {b mb : Nat} (h : w.grownBy w' none) : KeptW w w' b mb := KeptW.of h (fun _ e => by cases e)
theorem KeptW.ofB {w w' : World} {b mb : Nat} (h : w.grownBy w' (some b)) : KeptW w w' b mb := KeptW.of h (fun k e _ => .inl (by cases e; rfl))
theorem KeptW.blk {w w' : World} {b mb g : Nat} {cs : Array Value} {t : TypeId} (h : KeptW w w' b mb) (hb : Blk w g cs t) (hg : g ≠ b) (hg2 : g ≠ mb) (ht : t ≠ 5) : Blk w' g cs t :=
  (h.block g hb.lt (fun hm => by
    rcases hm with h2 | h2 | ⟨_, cs', fr, h3⟩
    · exact hg h2
    · exact hg2 h2
    · have : some (Obj.cells cs t (0, 0)) = some (Obj.cells cs' 5 fr) := by rw [← h3]; exact hb.symm
      simp at this
      exact ht this.2.1)).trans hb
theorem KeptW.cell {w w' : World} {b mb : Nat} {a : Addr} {v : Value} (h : KeptW w w' b mb) (hc : w.cell? a = some v) (ha : a.block < b) (hm : a.block ≠ mb) (hb : b < w.heap.size) : w'.cell? a = some v := by
  rw [World.cell?_of_block (h.block a.block (by omega) (fun hm' => by rcases hm' with h2 | h2 | ⟨h2, _⟩ <;> omega))]
  exact hc
theorem own_may8 {w : World} {b mb sz n : Nat} {v : Value} {cs : List Value} (h : w.ownsRow (b + 1) 5 sz v n cs) : ∀ k, v.ownBlock = some k → wrMay w b mb k := by
  intro k hk
  rcases h.2 with ⟨rfl, _⟩ | ⟨g, cap, cur, rfl, hb, hg, _⟩
  · simp [Value.ownBlock] at hk
  · simp only [Value.ownBlock, Option.some.injEq] at hk
    subst hk
    exact .inr (.inr ⟨by omega, _, _, hg⟩)
theorem own_notMap {w : World} {base e sz n mb : Nat} {mo : Obj} {v : Value} {cs : List Value} (h : w.ownsRow base e sz v n cs) (hm : w.heap[mb]? = some mo) (hc : ∀ cs t fr, mo ≠ .cells cs t fr) : v.ownBlock ≠ some mb := by
  intro hk
  rcases h.2 with ⟨rfl, _⟩ | ⟨g, cap, cur, rfl, hb, hg, _⟩
  · simp [Value.ownBlock] at hk
  · simp only [Value.ownBlock, Option.some.injEq] at hk
    subst hk
    rw [hm] at hg
    exact hc _ _ _ (Option.some.inj hg)
section
variable {w w' : World} {b mb : Nat} {mo : Obj} {pv bv : Value} {pool body : List UInt8} {wrong : Bool}
theorem Wr.mbne (h : Wr w b mb mo pv bv pool body wrong) : mb ≠ b := by
  rintro rfl
  have h1 := h.map
  have h2 := h.blk
  unfold Blk at h2
  rw [h1] at h2
  exact h.notCells _ _ _ (Option.some.inj h2)
theorem Wr.mblt (h : Wr w b mb mo pv bv pool body wrong) : mb < w.heap.size := (Array.getElem?_eq_some_iff.1 h.map).1
theorem Wr.keep (h : Wr w b mb mo pv bv pool body wrong) (hg : w.grownBy w' none) : Wr w' b mb mo pv bv pool body wrong :=
  ⟨h.blk.keep hg (by simp), (hg.block mb h.mblt (by simp)).trans h.map, h.notCells, h.poolR.kept hg (by cases pv.ownBlock <;> simp), h.bodyR.kept hg (by cases bv.ownBlock <;> simp), h.apart⟩
theorem Wr.spoil (h : Wr w b mb mo pv bv pool body wrong) : Wr (w.setCell ⟨b, 3, none⟩ (.bool true)) b mb mo pv bv pool body true :=
  ⟨h.blk.set 3 _, ((gb_set w ⟨b, 3, none⟩ (.bool true)).block mb h.mblt (by simpa using h.mbne)).trans h.map, h.notCells, h.poolR.kept (gb_set w ⟨b, 3, none⟩ _) (.inr (own_ne h.poolR (Nat.lt_succ_self _))), h.bodyR.kept (gb_set w ⟨b, 3, none⟩ _) (.inr (own_ne h.bodyR (Nat.lt_succ_self _))), h.apart⟩
/-- the body's slice turns -/
theorem Wr.setBody {w1 : World} {bv' : Value} {body' : List UInt8} (h : Wr w b mb mo pv bv pool body wrong) (h1 : w.grownBy w1 bv.ownBlock) (ho : w1.ownsRow (b + 1) 5 1 bv' body'.length (body'.map byteV)) (ha : bv'.ownBlock = bv.ownBlock ∨ ∀ k, bv'.ownBlock = some k → w.heap.size ≤ k) :
    Wr (w1.setCell ⟨b, 2, none⟩ bv') b mb mo pv bv' pool body' wrong := by
  have hnb : bv.ownBlock ≠ some b := own_ne h.bodyR (Nat.lt_succ_self _)
  have hnm : bv.ownBlock ≠ some mb := own_notMap h.bodyR h.map h.notCells
  refine ⟨(h.blk.keep h1 (fun e => hnb e.symm)).set 2 _, ?_, h.notCells, ?_, ho.kept (gb_set w1 ⟨b, 2, none⟩ _) (.inr (own_ne ho (Nat.lt_succ_self _))), ?_⟩
  · exact ((gb_set w1 ⟨b, 2, none⟩ bv').block mb (Nat.lt_of_lt_of_le h.mblt h1.size) (by simpa using h.mbne)).trans ((h1.block mb h.mblt (fun e => hnm e.symm)).trans h.map)
  · exact (World.ownsRow.kept h.poolR h1 h.apart).kept (gb_set w1 ⟨b, 2, none⟩ _) (.inr (own_ne h.poolR (Nat.lt_succ_self _)))
  · rcases ha with ha | ha
    · rw [ha]; exact h.apart
    · cases hp : pv.ownBlock with
      | none => exact .inl rfl
      | some g =>
        refine .inr (fun e => ?_)
        have h2 := ha g e.symm
        have h3 := (own_some h.poolR hp).2
        omega
end
def putB (body : List UInt8) (x : UInt8) : List UInt8 := if body.length ≤ 2048 then body ++ [x] else body
theorem putB_len {body : List UInt8} {x : UInt8} (h : body.length ≤ 2049) : (putB body x).length ≤ 2049 := by
  unfold putB
  split <;> (try simp) <;> omega
theorem putB_take (l : List UInt8) (x : UInt8) : putB (l.take 2049) x = (l ++ [x]).take 2049 := by
  unfold putB
  by_cases h : l.length ≤ 2048
  · rw [List.take_of_length_le (by omega), if_pos h, List.take_of_length_le (by simp; omega)]
  · rw [if_neg (by rw [List.length_take]; omega), List.take_append_of_le_length (by omega)]

set_option maxRecDepth 100000 in
set_option maxHeartbeats 1000000 in
theorem wput_any (w : World) (b mb : Nat) (mo : Obj) (pv bv : Value) (pool body : List UInt8) (wrong : Bool) (x : UInt8) (h : Hid (Wr w b mb mo pv bv pool body wrong)) (hl : body.length ≤ 2049) :
    Calls Tryd.prog 50 #[.pointer (some ⟨b, 0, none⟩), .int .u8 x.toNat] w fun e w' => e = .returned (.tuple #[]) ∧ KeptW w w' b mb ∧ ∃ bv', Wr w' b mb mo pv bv' pool (putB body x) wrong := by
  obtain ⟨a, k, rfl⟩ := own_slice h.out.bodyR
  have c2 := h.out.blk.cell 2 _ rfl
  have z2 := h.out.blk.frozen 2
  have hbl : b < w.heap.size := h.out.blk.lt
  by_cases hs : body.length ≤ 2048
  · obtain ⟨i, hi, hz0, hz1, hz2⟩ := info_parts info_U8
    have hne : (Value.slice a body.length k).ownBlock ≠ some b := own_ne h.out.bodyR (Nat.lt_succ_self _)
    go_enter Tryd.func50, Tryd.ntmps50
    go_wp2_with (at_builtin; go_loud (refine wpList_append_lies _ rfl _ _ 61 rfl (b + 1) 5 i _ 1 1 Tryd.underlying61 hi hz0 hz1 hz2 rfl (by decide) _ body.length (body.map byteV) rfl (World.ownsRow.alloc h.out.bodyR _) ⟨w.heap.size, 0, none⟩ 1 1 [byteV x] rfl rfl (new_cells w [byteV x] 5) (by simp [byteV, Value.oneCell']) (by omega) (by unfold maxLen; omega) (by omega) (by simp; omega) (w.heap.size + 1) (by simp) ?_))
    intro g cap w8 hown hgrow hlie hglt
    have hp : putB body x = body ++ [x] := by unfold putB; rw [if_pos hs]
    have hgA := gb_tr (gb_alloc w (.cells #[.int .u8 x.toNat] 5) _) hgrow
    have hO8 : w8.ownsRow (b + 1) 5 1 (.slice (some ⟨g, 0, none⟩) (body.length + 1) cap) (body ++ [x]).length ((body ++ [x]).map byteV) := by simpa using hown
    have HW8 : Hid (Wr (w8.setCell ⟨b, 2, none⟩ (.slice (some ⟨g, 0, none⟩) (body.length + 1) cap)) b mb mo pv (.slice (some ⟨g, 0, none⟩) (body.length + 1) cap) pool (body ++ [x]) wrong) :=
      h.out.setBody hgA hO8 (by
        rcases hlie with hlie | hlie
        · exact .inl (by rw [hlie]; rfl)
        · refine .inr (fun q hq => ?_)
          simp only [Value.ownBlock, Option.some.injEq] at hq
          omega)
    have HK8 : Hid (KeptW w (w8.setCell ⟨b, 2, none⟩ (.slice (some ⟨g, 0, none⟩) (body.length + 1) cap)) b mb) := (KeptW.of hgA (fun q hq _ => own_may8 h.out.bodyR q hq)).trans (.ofB (gb_set _ ⟨b, 2, none⟩ _))
    have d2 : w8.cell? ⟨b, 2, none⟩ = some (.slice a body.length k) := (hgA.cell_far ⟨b, 2, none⟩ hbl (fun e => hne e.symm)).trans c2
    have y2 : w8.frozen? ⟨b, 2, none⟩ = false := (hgA.frozen_far ⟨b, 2, none⟩ hbl (fun e => hne e.symm)).trans z2
    clear hown hgrow hgA hO8 c2 z2 hlie
    go_wp2_with fail
    go_end0
    rw [hp]
    exact ⟨rfl, HK8.out, _, HW8.out⟩
  · have hp : putB body x = body := by unfold putB; rw [if_neg hs]
    go_enter Tryd.func50, Tryd.ntmps50
    go_wp2_with fail
    go_end0
    rw [hp]
    exact ⟨rfl, .refl _ _ _, _, h.out⟩
end Go.Proofs.YtdhophglnhcjbaaDoor

namespace Go.Proofs.YtdhophglnhcjbaaDoor
open Go.RowKit Cf

def loB (m : Nat) : Int := if m = 4 then -2147483648 else 0
def hiB (m : Nat) : Int := if m = 4 then 2147483647 else 256 ^ m - 1
theorem wbounds_any (m : Nat) (hm : m = 0 ∨ m = 1 ∨ m = 2 ∨ m = 4) (w : World) :
    Calls Tryd.prog 68 #[.int .i64 m] w fun e w' => e = .returned (.tuple #[.int .i64 (loB m), .int .i64 (hiB m)]) ∧ w.grownBy w' none := by
  rcases hm with rfl | rfl | rfl | rfl
  · go_enter Tryd.func68, Tryd.ntmps68
    go_wp2_with fail
    go_quiet (fail)
    go_wp2_with fail
    go_ret2
    exact ⟨rfl, gb_drewN _ _ _⟩
  · go_enter Tryd.func68, Tryd.ntmps68
    go_wp2_with fail
    go_quiet (fail)
    go_wp2_with fail
    go_ret2
    exact ⟨rfl, gb_drewN _ _ _⟩
  · go_enter Tryd.func68, Tryd.ntmps68
    go_wp2_with fail
    go_quiet (fail)
    go_wp2_with fail
    go_ret2
    exact ⟨rfl, gb_drewN _ _ _⟩
  · go_enter Tryd.func68, Tryd.ntmps68
    go_wp2_with fail
    go_ret2
    exact ⟨rfl, gb_refl _ _⟩

theorem byte_of (z : Int) (h0 : 0 ≤ z) (h1 : z < 256) : z = ((UInt8.ofNat z.toNat).toNat : Int) := by
  have : (UInt8.ofNat z.toNat).toNat = z.toNat := by rw [UInt8.toNat_ofNat']; omega
  rw [this]; omega
theorem wput_z (w : World) (b mb : Nat) (mo : Obj) (pv bv : Value) (pool body : List UInt8) (wrong : Bool) (x : UInt8) (z : Int) (hz : z = (x.toNat : Int)) (h : Hid (Wr w b mb mo pv bv pool body wrong)) (hl : body.length ≤ 2049) :
    Calls Tryd.prog 50 #[.pointer (some ⟨b, 0, none⟩), .int .u8 z] w fun e w' => e = .returned (.tuple #[]) ∧ KeptW w w' b mb ∧ ∃ bv', Wr w' b mb mo pv bv' pool (putB body x) wrong := by
  subst hz
  exact wput_any w b mb mo pv bv pool body wrong x h hl
def putAll (body : List UInt8) (l : List UInt8) : List UInt8 := l.foldl putB body
theorem putAll_len {l : List UInt8} : ∀ {body : List UInt8}, body.length ≤ 2049 → (putAll body l).length ≤ 2049 := by
  induction l with
  | nil => intro body h; exact h
  | cons x l ih => intro body h; exact ih (putB_len h)
theorem putAll_take (l : List UInt8) (body : List UInt8) : putAll (body.take 2049) l = (body ++ l).take 2049 := by
  induction l generalizing body with
  | nil => simp [putAll]
  | cons x l ih =>
    show putAll (putB (body.take 2049) x) l = _
    rw [putB_take, ih]
    simp



def bytes1 (n : Int) : List UInt8 := [UInt8.ofNat (n % 256).toNat]

set_option maxRecDepth 100000 in
set_option maxHeartbeats 1000000 in
theorem wnumber_yes1 (w : World) (b mb : Nat) (mo : Obj) (pv bv : Value) (pool body : List UInt8) (wrong : Bool) (n : Int) (h : Hid (Wr w b mb mo pv bv pool body wrong)) (hl : body.length ≤ 2049) (hr : 0 ≤ n ∧ n ≤ 255) :
    Calls Tryd.prog 51 #[.pointer (some ⟨b, 0, none⟩), .int .i64 n, .int .i64 1] w fun e w' => e = .returned (.tuple #[]) ∧ KeptW w w' b mb ∧ ∃ bv', Wr w' b mb mo pv bv' pool (putAll body (bytes1 n)) wrong := by
  go_enter Tryd.func51, Tryd.ntmps51
  go_wp2_with (go_at_call 68; refine (wbounds_any 1 (by omega) w).mono ?_; rintro e w1 ⟨rfl, hg1⟩; have HW1 : Hid (Wr w1 b mb mo pv bv pool body wrong) := h.out.keep hg1; have HK1 : Hid (KeptW w w1 b mb) := .ofNone hg1; clear hg1; simp only [loB, hiB]; try dsimp only)

  go_loopw [8] (fun i wr => ∃ (j : Nat) (bv' : Value), j ≤ 1 ∧ i = .int .i64 (8 * ((j : Int) - 1)) ∧ Wr wr b mb mo pv bv' pool (putAll body ((bytes1 n).take (1 - j))) wrong ∧ KeptW w wr b mb) (fun i _ => (intOf i + 8).toNat)
  case atStart => exact ⟨1, bv, by omega, rfl, HW1.out, HK1.out⟩
  case round =>
    clear HW1 HK1
    obtain ⟨j, bv', hj, rfl, hw, hkp⟩ := hrel
    have HW : Hid (Wr wr b mb mo pv bv' pool (putAll body ((bytes1 n).take (1 - j))) wrong) := hw
    have HK : Hid (KeptW w wr b mb) := hkp
    have hbl : (putAll body ((bytes1 n).take (1 - j))).length ≤ 2049 := putAll_len hl
    clear hw hkp
    have hj5 : j = 0 ∨ j = 1 := by omega
    rcases hj5 with rfl | rfl
    · go_wp2_with fail
      go_end0
      exact ⟨rfl, HK.out, _, HW.out⟩
    · have e : (n : Int) = ((UInt8.ofNat (n % 256).toNat).toNat : Int) := by
        have := byte_of (n % 256) (by omega) (by omega)
        rw [← this]; omega
      have HE : Hid ((n : Int) = ((UInt8.ofNat (n % 256).toNat).toNat : Int)) := e
      clear e
      go_wp2_with (go_at_call 50; refine (wput_z wr b mb mo pv bv' pool _ wrong _ _ HE.out HW hbl).mono ?_; rintro e w4 ⟨rfl, hk4, bv4, hw4⟩; try dsimp only)
      first
        | exact ⟨⟨0, bv4, by omega, rfl, hw4, HK.out.trans hk4⟩, by simp [intOf]⟩
        | (go_roundw
           case rel => exact ⟨0, bv4, by omega, rfl, hw4, HK.out.trans hk4⟩
           case measure => simp [intOf])

def bytes2 (n : Int) : List UInt8 := [UInt8.ofNat (n / 256 % 256).toNat, UInt8.ofNat (n % 256).toNat]

set_option maxRecDepth 100000 in
set_option maxHeartbeats 1000000 in
theorem wnumber_yes2 (w : World) (b mb : Nat) (mo : Obj) (pv bv : Value) (pool body : List UInt8) (wrong : Bool) (n : Int) (h : Hid (Wr w b mb mo pv bv pool body wrong)) (hl : body.length ≤ 2049) (hr : 0 ≤ n ∧ n ≤ 65535) :
    Calls Tryd.prog 51 #[.pointer (some ⟨b, 0, none⟩), .int .i64 n, .int .i64 2] w fun e w' => e = .returned (.tuple #[]) ∧ KeptW w w' b mb ∧ ∃ bv', Wr w' b mb mo pv bv' pool (putAll body (bytes2 n)) wrong := by
  go_enter Tryd.func51, Tryd.ntmps51
  go_wp2_with (go_at_call 68; refine (wbounds_any 2 (by omega) w).mono ?_; rintro e w1 ⟨rfl, hg1⟩; have HW1 : Hid (Wr w1 b mb mo pv bv pool body wrong) := h.out.keep hg1; have HK1 : Hid (KeptW w w1 b mb) := .ofNone hg1; clear hg1; simp only [loB, hiB]; try dsimp only)

  go_loopw [8] (fun i wr => ∃ (j : Nat) (bv' : Value), j ≤ 2 ∧ i = .int .i64 (8 * ((j : Int) - 1)) ∧ Wr wr b mb mo pv bv' pool (putAll body ((bytes2 n).take (2 - j))) wrong ∧ KeptW w wr b mb) (fun i _ => (intOf i + 8).toNat)
  case atStart => exact ⟨2, bv, by omega, rfl, HW1.out, HK1.out⟩
  case round =>
    clear HW1 HK1
    obtain ⟨j, bv', hj, rfl, hw, hkp⟩ := hrel
    have HW : Hid (Wr wr b mb mo pv bv' pool (putAll body ((bytes2 n).take (2 - j))) wrong) := hw
    have HK : Hid (KeptW w wr b mb) := hkp
    have hbl : (putAll body ((bytes2 n).take (2 - j))).length ≤ 2049 := putAll_len hl
    clear hw hkp
    have hj5 : j = 0 ∨ j = 1 ∨ j = 2 := by omega
    rcases hj5 with rfl | rfl | rfl
    · go_wp2_with fail
      go_end0
      exact ⟨rfl, HK.out, _, HW.out⟩
    · have e : (n % 256 : Int) = ((UInt8.ofNat (n % 256).toNat).toNat : Int) := by
        have := byte_of (n % 256) (by omega) (by omega)
        rw [← this]
      have HE : Hid ((n % 256 : Int) = ((UInt8.ofNat (n % 256).toNat).toNat : Int)) := e
      clear e
      go_wp2_with (go_at_call 50; refine (wput_z wr b mb mo pv bv' pool _ wrong _ _ HE.out HW hbl).mono ?_; rintro e w4 ⟨rfl, hk4, bv4, hw4⟩; try dsimp only)
      first
        | exact ⟨⟨0, bv4, by omega, rfl, hw4, HK.out.trans hk4⟩, by simp [intOf]⟩
        | (go_roundw
           case rel => exact ⟨0, bv4, by omega, rfl, hw4, HK.out.trans hk4⟩
           case measure => simp [intOf])
    · have e : (n / 256 : Int) = ((UInt8.ofNat (n / 256 % 256).toNat).toNat : Int) := by
        have := byte_of (n / 256 % 256) (by omega) (by omega)
        rw [← this]; omega
      have HE : Hid ((n / 256 : Int) = ((UInt8.ofNat (n / 256 % 256).toNat).toNat : Int)) := e
      clear e
      go_wp2_with (go_at_call 50; refine (wput_z wr b mb mo pv bv' pool _ wrong _ _ HE.out HW hbl).mono ?_; rintro e w4 ⟨rfl, hk4, bv4, hw4⟩; try dsimp only)
      first
        | exact ⟨⟨1, bv4, by omega, rfl, hw4, HK.out.trans hk4⟩, by simp [intOf]⟩
        | (go_roundw
           case rel => exact ⟨1, bv4, by omega, rfl, hw4, HK.out.trans hk4⟩
           case measure => simp [intOf])

def bytes4 (n : Int) : List UInt8 := [UInt8.ofNat (n / 16777216 % 256).toNat, UInt8.ofNat (n / 65536 % 256).toNat, UInt8.ofNat (n / 256 % 256).toNat, UInt8.ofNat (n % 256).toNat]

set_option maxRecDepth 100000 in
set_option maxHeartbeats 1000000 in
theorem wnumber_yes4 (w : World) (b mb : Nat) (mo : Obj) (pv bv : Value) (pool body : List UInt8) (wrong : Bool) (n : Int) (h : Hid (Wr w b mb mo pv bv pool body wrong)) (hl : body.length ≤ 2049) (hr : -2147483648 ≤ n ∧ n ≤ 2147483647) :
    Calls Tryd.prog 51 #[.pointer (some ⟨b, 0, none⟩), .int .i64 n, .int .i64 4] w fun e w' => e = .returned (.tuple #[]) ∧ KeptW w w' b mb ∧ ∃ bv', Wr w' b mb mo pv bv' pool (putAll body (bytes4 n)) wrong := by
  go_enter Tryd.func51, Tryd.ntmps51
  go_wp2_with (go_at_call 68; refine (wbounds_any 4 (by omega) w).mono ?_; rintro e w1 ⟨rfl, hg1⟩; have HW1 : Hid (Wr w1 b mb mo pv bv pool body wrong) := h.out.keep hg1; have HK1 : Hid (KeptW w w1 b mb) := .ofNone hg1; clear hg1; simp only [loB, hiB]; try dsimp only)

  go_loopw [8] (fun i wr => ∃ (j : Nat) (bv' : Value), j ≤ 4 ∧ i = .int .i64 (8 * ((j : Int) - 1)) ∧ Wr wr b mb mo pv bv' pool (putAll body ((bytes4 n).take (4 - j))) wrong ∧ KeptW w wr b mb) (fun i _ => (intOf i + 8).toNat)
  case atStart => exact ⟨4, bv, by omega, rfl, HW1.out, HK1.out⟩
  case round =>
    clear HW1 HK1
    obtain ⟨j, bv', hj, rfl, hw, hkp⟩ := hrel
    have HW : Hid (Wr wr b mb mo pv bv' pool (putAll body ((bytes4 n).take (4 - j))) wrong) := hw
    have HK : Hid (KeptW w wr b mb) := hkp
    have hbl : (putAll body ((bytes4 n).take (4 - j))).length ≤ 2049 := putAll_len hl
    clear hw hkp
    have hj5 : j = 0 ∨ j = 1 ∨ j = 2 ∨ j = 3 ∨ j = 4 := by omega
    rcases hj5 with rfl | rfl | rfl | rfl | rfl
    · go_wp2_with fail
      go_end0
      exact ⟨rfl, HK.out, _, HW.out⟩
    · have e : (n % 256 : Int) = ((UInt8.ofNat (n % 256).toNat).toNat : Int) := by
        have := byte_of (n % 256) (by omega) (by omega)
        rw [← this]
      have HE : Hid ((n % 256 : Int) = ((UInt8.ofNat (n % 256).toNat).toNat : Int)) := e
      clear e
      go_wp2_with (go_at_call 50; refine (wput_z wr b mb mo pv bv' pool _ wrong _ _ HE.out HW hbl).mono ?_; rintro e w4 ⟨rfl, hk4, bv4, hw4⟩; try dsimp only)
      first
        | exact ⟨⟨0, bv4, by omega, rfl, hw4, HK.out.trans hk4⟩, by simp [intOf]⟩
        | (go_roundw
           case rel => exact ⟨0, bv4, by omega, rfl, hw4, HK.out.trans hk4⟩
           case measure => simp [intOf])
    · have e : (n / 256 % 256 : Int) = ((UInt8.ofNat (n / 256 % 256).toNat).toNat : Int) := by
        have := byte_of (n / 256 % 256) (by omega) (by omega)
        rw [← this]
      have HE : Hid ((n / 256 % 256 : Int) = ((UInt8.ofNat (n / 256 % 256).toNat).toNat : Int)) := e
      clear e
      go_wp2_with (go_at_call 50; refine (wput_z wr b mb mo pv bv' pool _ wrong _ _ HE.out HW hbl).mono ?_; rintro e w4 ⟨rfl, hk4, bv4, hw4⟩; try dsimp only)
      first
        | exact ⟨⟨1, bv4, by omega, rfl, hw4, HK.out.trans hk4⟩, by simp [intOf]⟩
        | (go_roundw
           case rel => exact ⟨1, bv4, by omega, rfl, hw4, HK.out.trans hk4⟩
           case measure => simp [intOf])
    · have e : (n / 65536 % 256 : Int) = ((UInt8.ofNat (n / 65536 % 256).toNat).toNat : Int) := by
        have := byte_of (n / 65536 % 256) (by omega) (by omega)
        rw [← this]
      have HE : Hid ((n / 65536 % 256 : Int) = ((UInt8.ofNat (n / 65536 % 256).toNat).toNat : Int)) := e
      clear e
      go_wp2_with (go_at_call 50; refine (wput_z wr b mb mo pv bv' pool _ wrong _ _ HE.out HW hbl).mono ?_; rintro e w4 ⟨rfl, hk4, bv4, hw4⟩; try dsimp only)
      first
        | exact ⟨⟨2, bv4, by omega, rfl, hw4, HK.out.trans hk4⟩, by simp [intOf]⟩
        | (go_roundw
           case rel => exact ⟨2, bv4, by omega, rfl, hw4, HK.out.trans hk4⟩
           case measure => simp [intOf])
    · have e : (n / 16777216 % 256 : Int) = ((UInt8.ofNat (n / 16777216 % 256).toNat).toNat : Int) := by
        have := byte_of (n / 16777216 % 256) (by omega) (by omega)
        rw [← this]
      have HE : Hid ((n / 16777216 % 256 : Int) = ((UInt8.ofNat (n / 16777216 % 256).toNat).toNat : Int)) := e
      clear e
      go_wp2_with (go_at_call 50; refine (wput_z wr b mb mo pv bv' pool _ wrong _ _ HE.out HW hbl).mono ?_; rintro e w4 ⟨rfl, hk4, bv4, hw4⟩; try dsimp only)
      first
        | exact ⟨⟨3, bv4, by omega, rfl, hw4, HK.out.trans hk4⟩, by simp [intOf]⟩
        | (go_roundw
           case rel => exact ⟨3, bv4, by omega, rfl, hw4, HK.out.trans hk4⟩
           case measure => simp [intOf])
end Go.Proofs.YtdhophglnhcjbaaDoor

namespace Go.Proofs.YtdhophglnhcjbaaDoor
open Go.RowKit Cf

set_option maxRecDepth 100000 in
set_option maxHeartbeats 1000000 in
theorem wnumber_no1 (w : World) (b mb : Nat) (mo : Obj) (pv bv : Value) (pool body : List UInt8) (wrong : Bool) (n : Int) (h : Hid (Wr w b mb mo pv bv pool body wrong)) (hr : n < 0 ∨ 255 < n) :
    Calls Tryd.prog 51 #[.pointer (some ⟨b, 0, none⟩), .int .i64 n, .int .i64 1] w fun e w' => e = .returned (.tuple #[]) ∧ KeptW w w' b mb ∧ Wr w' b mb mo pv bv pool body true := by
  go_enter Tryd.func51, Tryd.ntmps51
  rcases hr with hr | hr
  all_goals
    go_wp2_with (go_at_call 68; refine (wbounds_any 1 (by omega) w).mono ?_; rintro e w1 ⟨rfl, hg1⟩; have HW1 : Hid (Wr w1 b mb mo pv bv pool body wrong) := h.out.keep hg1; have HK1 : Hid (KeptW w w1 b mb) := .ofNone hg1; have c3 := HW1.out.blk.cell 3 _ rfl; have z3 := HW1.out.blk.frozen 3; clear hg1; simp only [loB, hiB]; try dsimp only)
    all_goals
      refine bodyPost_ret (results_none rfl _ _ _) rfl ?_
      exact ⟨rfl, HK1.out.trans (.ofB (gb_set _ ⟨b, 3, none⟩ _)), HW1.out.spoil⟩
set_option maxRecDepth 100000 in
set_option maxHeartbeats 1000000 in
theorem wnumber_no2 (w : World) (b mb : Nat) (mo : Obj) (pv bv : Value) (pool body : List UInt8) (wrong : Bool) (n : Int) (h : Hid (Wr w b mb mo pv bv pool body wrong)) (hr : n < 0 ∨ 65535 < n) :
    Calls Tryd.prog 51 #[.pointer (some ⟨b, 0, none⟩), .int .i64 n, .int .i64 2] w fun e w' => e = .returned (.tuple #[]) ∧ KeptW w w' b mb ∧ Wr w' b mb mo pv bv pool body true := by
  go_enter Tryd.func51, Tryd.ntmps51
  rcases hr with hr | hr
  all_goals
    go_wp2_with (go_at_call 68; refine (wbounds_any 2 (by omega) w).mono ?_; rintro e w1 ⟨rfl, hg1⟩; have HW1 : Hid (Wr w1 b mb mo pv bv pool body wrong) := h.out.keep hg1; have HK1 : Hid (KeptW w w1 b mb) := .ofNone hg1; have c3 := HW1.out.blk.cell 3 _ rfl; have z3 := HW1.out.blk.frozen 3; clear hg1; simp only [loB, hiB]; try dsimp only)
    all_goals
      refine bodyPost_ret (results_none rfl _ _ _) rfl ?_
      exact ⟨rfl, HK1.out.trans (.ofB (gb_set _ ⟨b, 3, none⟩ _)), HW1.out.spoil⟩
set_option maxRecDepth 100000 in
set_option maxHeartbeats 1000000 in
theorem wnumber_no4 (w : World) (b mb : Nat) (mo : Obj) (pv bv : Value) (pool body : List UInt8) (wrong : Bool) (n : Int) (h : Hid (Wr w b mb mo pv bv pool body wrong)) (hr : n < -2147483648 ∨ 2147483647 < n) :
    Calls Tryd.prog 51 #[.pointer (some ⟨b, 0, none⟩), .int .i64 n, .int .i64 4] w fun e w' => e = .returned (.tuple #[]) ∧ KeptW w w' b mb ∧ Wr w' b mb mo pv bv pool body true := by
  go_enter Tryd.func51, Tryd.ntmps51
  rcases hr with hr | hr
  all_goals
    go_wp2_with (go_at_call 68; refine (wbounds_any 4 (by omega) w).mono ?_; rintro e w1 ⟨rfl, hg1⟩; have HW1 : Hid (Wr w1 b mb mo pv bv pool body wrong) := h.out.keep hg1; have HK1 : Hid (KeptW w w1 b mb) := .ofNone hg1; have c3 := HW1.out.blk.cell 3 _ rfl; have z3 := HW1.out.blk.frozen 3; clear hg1; simp only [loB, hiB]; try dsimp only)
    all_goals
      refine bodyPost_ret (results_none rfl _ _ _) rfl ?_
      exact ⟨rfl, HK1.out.trans (.ofB (gb_set _ ⟨b, 3, none⟩ _)), HW1.out.spoil⟩
set_option maxRecDepth 100000 in
set_option maxHeartbeats 1000000 in
theorem wnumber_no0 (w : World) (b mb : Nat) (mo : Obj) (pv bv : Value) (pool body : List UInt8) (wrong : Bool) (n : Int) (h : Hid (Wr w b mb mo pv bv pool body wrong)) (hr : n < 0 ∨ 0 < n) :
    Calls Tryd.prog 51 #[.pointer (some ⟨b, 0, none⟩), .int .i64 n, .int .i64 0] w fun e w' => e = .returned (.tuple #[]) ∧ KeptW w w' b mb ∧ Wr w' b mb mo pv bv pool body true := by
  go_enter Tryd.func51, Tryd.ntmps51
  rcases hr with hr | hr
  all_goals
    go_wp2_with (go_at_call 68; refine (wbounds_any 0 (by omega) w).mono ?_; rintro e w1 ⟨rfl, hg1⟩; have HW1 : Hid (Wr w1 b mb mo pv bv pool body wrong) := h.out.keep hg1; have HK1 : Hid (KeptW w w1 b mb) := .ofNone hg1; have c3 := HW1.out.blk.cell 3 _ rfl; have z3 := HW1.out.blk.frozen 3; clear hg1; simp only [loB, hiB]; try dsimp only)
    all_goals
      refine bodyPost_ret (results_none rfl _ _ _) rfl ?_
      exact ⟨rfl, HK1.out.trans (.ofB (gb_set _ ⟨b, 3, none⟩ _)), HW1.out.spoil⟩
set_option maxRecDepth 100000 in
set_option maxHeartbeats 1000000 in
theorem wnumber_yes0 (w : World) (b mb : Nat) (mo : Obj) (pv bv : Value) (pool body : List UInt8) (wrong : Bool) (h : Hid (Wr w b mb mo pv bv pool body wrong)) :
    Calls Tryd.prog 51 #[.pointer (some ⟨b, 0, none⟩), .int .i64 0, .int .i64 0] w fun e w' => e = .returned (.tuple #[]) ∧ KeptW w w' b mb ∧ Wr w' b mb mo pv bv pool body wrong := by
  go_enter Tryd.func51, Tryd.ntmps51
  go_wp2_with (go_at_call 68; refine (wbounds_any 0 (by omega) w).mono ?_; rintro e w1 ⟨rfl, hg1⟩; have HW1 : Hid (Wr w1 b mb mo pv bv pool body wrong) := h.out.keep hg1; have HK1 : Hid (KeptW w w1 b mb) := .ofNone hg1; clear hg1; simp only [loB, hiB]; try dsimp only)
  go_loop [8] (fun i => i = .int .i64 (-8)) (fun _ => 0)
  case atStart => rfl
  case round =>
    subst hrel
    go_wp2_with fail
    go_end0
    exact ⟨rfl, HK1.out, HW1.out⟩
end Go.Proofs.YtdhophglnhcjbaaDoor

namespace Go.Proofs.YtdhophglnhcjbaaDoor
open Go.RowKit Cf

abbrev DU := DataW Unit
def keyL (s : ByteArray) : Lit := .string s.data.toList
theorem keyL_ne {s t : ByteArray} (h : s ≠ t) : keyL s ≠ keyL t := by
  intro e
  apply h
  unfold keyL at e
  injection e with e
  apply ByteArray.ext
  exact Array.toList_inj.1 e
/-- the map's datum, name by name -/
def mapDn (l : List ByteArray) : Nat → DU
  | 0 => .map []
  | n + 1 => (mapDn l n).put (keyL (l.getD n ByteArray.empty)) (.lit (.int .i64 n))
def mapD (l : List ByteArray) : DU := mapDn l l.length
theorem mapDn_ext (l : List ByteArray) (x : ByteArray) : ∀ n, n ≤ l.length → mapDn (l ++ [x]) n = mapDn l n
  | 0, _ => rfl
  | n + 1, h => by
    have e : (l ++ [x]).getD n ByteArray.empty = l.getD n ByteArray.empty := by
      simp only [List.getD]
      rw [List.getElem?_append_left (by omega)]
    show (mapDn (l ++ [x]) n).put _ _ = (mapDn l n).put _ _
    rw [mapDn_ext l x n (by omega), e]
theorem mapD_snoc (l : List ByteArray) (x : ByteArray) : mapD (l ++ [x]) = (mapD l).put (keyL x) (.lit (.int .i64 l.length)) := by
  unfold mapD
  rw [List.length_append, List.length_singleton]
  show (mapDn (l ++ [x]) l.length).put _ _ = _
  rw [mapDn_ext l x _ (Nat.le_refl _)]
  congr 2
  simp [List.getD]
theorem posOf_get {l : List ByteArray} (hn : l.Nodup) {n : Nat} (h : n < l.length) : posOf l (l.getD n ByteArray.empty) = n := by
  refine posOf_at h rfl (fun i hi e => ?_)
  have hi2 : i < l.length := by omega
  simp only [List.getD, List.getElem?_eq_getElem hi2, List.getElem?_eq_getElem h, Option.getD_some] at e
  have := (List.getElem_inj hn).1 e
  omega
theorem posOf_lt {l : List ByteArray} {s : ByteArray} {n : Nat} (h : posOf l s = n) (hn : n < l.length) : l.getD n ByteArray.empty = s := by
  have h1 := List.findIdx_getElem (p := fun x => decide (x = s)) (xs := l) (w := by unfold posOf at h; omega)
  unfold posOf at h
  subst h
  simp only [List.getD, List.getElem?_eq_getElem hn, Option.getD_some]
  simpa using h1
structure MapFacts (l : List ByteArray) (n : Nat) : Prop where
  tidy : Maps.Tidy (mapDn l n)
  size : Maps.size (mapDn l n) = n
  has : ∀ s, Maps.has (mapDn l n) (keyL s) = decide (posOf l s < n)
  at_ : ∀ s z, (mapDn l n).atKey (keyL s) z = if posOf l s < n then .lit (.int .i64 (posOf l s)) else z
theorem mapFacts (l : List ByteArray) (hn : l.Nodup) : ∀ n, n ≤ l.length → MapFacts l n
  | 0, _ => ⟨Maps.tidy_empty, rfl, fun s => by simp [mapDn, Maps.has], fun s z => by simp [mapDn, DataW.atKey]⟩
  | n + 1, h => by
    have F := mapFacts l hn n (by omega)
    have hk : WideAt.IsKeyLit (keyL (l.getD n ByteArray.empty)) := trivial
    have hp := posOf_get hn (n := n) (by omega)
    refine ⟨F.tidy.put hk _, ?_, fun s => ?_, fun s z => ?_⟩
    · show Maps.size ((mapDn l n).put _ _) = _
      rw [Maps.size_put F.tidy, F.has, hp, F.size]
      simp
    · show Maps.has ((mapDn l n).put _ _) _ = _
      by_cases e : s = l.getD n ByteArray.empty
      · subst e
        rw [Maps.has_put_same F.tidy.isMap hk, hp]
        simp
      · rw [Maps.has_put_other (keyL_ne e), F.has]
        by_cases h1 : posOf l s < n
        · simp [h1, show posOf l s < n + 1 by omega]
        · by_cases h2 : posOf l s = n
          · exact absurd (posOf_lt h2 (by omega)).symm e
          · simp [h1, show ¬ posOf l s < n + 1 by omega]
    · show ((mapDn l n).put _ _).atKey _ _ = _
      by_cases e : s = l.getD n ByteArray.empty
      · subst e
        rw [Maps.atKey_put_same F.tidy.isMap hk, hp]
        simp
      · rw [Maps.atKey_put_other (keyL_ne e), F.at_]
        by_cases h1 : posOf l s < n
        · simp [h1, show posOf l s < n + 1 by omega]
        · by_cases h2 : posOf l s = n
          · exact absurd (posOf_lt h2 (by omega)).symm e
          · simp [h1, show ¬ posOf l s < n + 1 by omega]
end Go.Proofs.YtdhophglnhcjbaaDoor

namespace Go.Proofs.YtdhophglnhcjbaaDoor
open Go.RowKit Cf

/-- the map of the names to their numbers -/
def MapIs (w : World) (mb : Nat) (names : List ByteArray) : Prop := w.ownsMap (H := Unit) Tryd.prog 9 (plainElem Tryd.prog 3) mb names.length (mapD names)
theorem MapIs.same {w w' : World} {mb : Nat} {names : List ByteArray} (h : MapIs w mb names) (e : w'.heap[mb]? = w.heap[mb]?) : MapIs w' mb names := by
  obtain ⟨es, clock, h1, h2⟩ := h
  exact ⟨es, clock, e.trans h1, h2⟩
/-- the writer behind some tokens, with what the plain writer has -/
def WrS (w : World) (b mb : Nat) (r : Option WS) : Prop :=
  ∃ mo pv bv body wrong names, Wr w b mb mo pv bv (poolBytes names) body wrong ∧ MapIs w mb names ∧ names.Nodup ∧ names.length ≤ 255 ∧ (∀ x ∈ names, isName x = true) ∧ body.length ≤ 2049 ∧
    (∀ s, r = some s → s.names.length ≤ 255 → wrong = false ∧ names = s.names ∧ body = s.out.take 2049) ∧ ((∀ s, r = some s → 255 < s.names.length) → wrong = true)
theorem WrS.lt {w : World} {b mb : Nat} {r : Option WS} (h : WrS w b mb r) : b < w.heap.size := by
  obtain ⟨mo, pv, bv, body, wrong, names, hW, -⟩ := h
  exact hW.blk.lt
theorem WrS.keep {w w' : World} {b mb : Nat} {r : Option WS} (h : WrS w b mb r) (hg : w.grownBy w' none) : WrS w' b mb r := by
  obtain ⟨mo, pv, bv, body, wrong, names, hW, hM, h1⟩ := h
  exact ⟨mo, pv, bv, body, wrong, names, hW.keep hg, hM.same (hg.block mb hW.mblt (by simp)), h1⟩
theorem Wr.sameMap {w w' : World} {b mb : Nat} {mo : Obj} {pv bv pv' bv' : Value} {pool body pool' body' : List UInt8} {wrong wrong' : Bool} (h : Wr w b mb mo pv bv pool body wrong) (h' : Wr w' b mb mo pv' bv' pool' body' wrong') : w'.heap[mb]? = w.heap[mb]? := h'.map.trans h.map.symm

theorem aTok_num {m : Nat} (hm : m = 1 ∨ m = 2) (n : Int) : aTok m n = [.num n m] := by
  rcases hm with rfl | rfl <;> rfl
/-- what a number's token does, told apart -/
theorem num_in {m : Nat} {n : Int} (h : 0 ≤ n ∧ n < 256 ^ m) (s : WS) : wstep (.num n m) s = some ⟨s.names, s.out ++ beN m n.toNat⟩ := by
  simp only [wstep]; rw [if_pos h]
theorem num_out {m : Nat} {n : Int} (h : ¬ (0 ≤ n ∧ n < 256 ^ m)) (r : Option WS) : r.bind (wstep (.num n m)) = none := by
  cases r with
  | none => rfl
  | some s => simp only [Option.bind_some, wstep]; rw [if_neg h]

/-- bytes behind the body -/
theorem WrS.more {w w' : World} {b mb : Nat} {mo : Obj} {pv bv bv' : Value} {body : List UInt8} {wrong : Bool} {names : List ByteArray} {r r' : Option WS} (l : List UInt8) (hW : Wr w b mb mo pv bv (poolBytes names) body wrong) (hM : MapIs w mb names) (h1 : names.Nodup) (h2 : names.length ≤ 255) (h3 : ∀ x ∈ names, isName x = true) (h4 : body.length ≤ 2049)
    (h5 : ∀ s, r = some s → s.names.length ≤ 255 → wrong = false ∧ names = s.names ∧ body = s.out.take 2049) (h6 : (∀ s, r = some s → 255 < s.names.length) → wrong = true)
    (hr : r' = r.map fun s => (⟨s.names, s.out ++ l⟩ : WS)) (hW' : Wr w' b mb mo pv bv' (poolBytes names) (putAll body l) wrong) : WrS w' b mb r' := by
  refine ⟨mo, pv, bv', _, wrong, names, hW', hM.same (hW.sameMap hW'), h1, h2, h3, putAll_len h4, ?_, ?_⟩
  · intro s hs hs2
    rw [hr] at hs
    cases r with
    | none => cases hs
    | some s0 =>
      simp only [Option.map_some, Option.some.injEq] at hs
      subst hs
      obtain ⟨g1, g2, g3⟩ := h5 s0 rfl hs2
      exact ⟨g1, g2, by rw [g3, putAll_take]⟩
  · intro hs
    refine h6 (fun s e => ?_)
    subst e
    exact hs ⟨s.names, s.out ++ l⟩ (by rw [hr]; rfl)
/-- the writer is wrong -/
theorem WrS.bad {w w' : World} {b mb : Nat} {mo : Obj} {pv bv pv' bv' : Value} {body : List UInt8} {wrong : Bool} {names : List ByteArray} (hW : Wr w b mb mo pv bv (poolBytes names) body wrong) (hM : MapIs w mb names) (h1 : names.Nodup) (h2 : names.length ≤ 255) (h3 : ∀ x ∈ names, isName x = true) (h4 : body.length ≤ 2049)
    (hW' : Wr w' b mb mo pv' bv' (poolBytes names) body true) : WrS w' b mb none :=
  ⟨mo, pv', bv', body, true, names, hW', hM.same (hW.sameMap hW'), h1, h2, h3, h4, (fun s e => by cases e), fun _ => rfl⟩

theorem beN1 {n : Int} (h : 0 ≤ n ∧ n < 256) : bytes1 n = beN 1 n.toNat := by
  obtain ⟨x, rfl⟩ : ∃ x : Nat, n = x := ⟨n.toNat, by omega⟩
  simp only [bytes1, beN, Int.toNat_natCast, List.cons.injEq, and_true]
  apply UInt8.toNat_inj.1
  simp only [UInt8.toNat_ofNat']
  omega
theorem beN2 {n : Int} (h : 0 ≤ n ∧ n < 65536) : bytes2 n = beN 2 n.toNat := by
  obtain ⟨x, rfl⟩ : ∃ x : Nat, n = x := ⟨n.toNat, by omega⟩
  simp only [bytes2, beN, Int.toNat_natCast, List.cons.injEq, and_true]
  refine ⟨?_, ?_⟩ <;> apply UInt8.toNat_inj.1 <;> simp only [UInt8.toNat_ofNat'] <;> omega
theorem beN4 {n : Int} (h : -2147483648 ≤ n ∧ n ≤ 2147483647) : bytes4 n = beN 4 (if n < 0 then n + 4294967296 else n).toNat := by
  by_cases hn : n < 0
  · rw [if_pos hn]
    obtain ⟨x, hx⟩ : ∃ x : Nat, n + 4294967296 = x := ⟨(n + 4294967296).toNat, by omega⟩
    rw [hx]
    obtain rfl : n = (x : Int) - 4294967296 := by omega
    simp only [bytes4, beN, Int.toNat_natCast, List.cons.injEq, and_true]
    refine ⟨?_, ?_, ?_, ?_⟩ <;> apply UInt8.toNat_inj.1 <;> simp only [UInt8.toNat_ofNat'] <;> omega
  · rw [if_neg hn]
    obtain ⟨x, rfl⟩ : ∃ x : Nat, n = x := ⟨n.toNat, by omega⟩
    simp only [bytes4, beN, Int.toNat_natCast, List.cons.injEq, and_true]
    refine ⟨?_, ?_, ?_, ?_⟩ <;> apply UInt8.toNat_inj.1 <;> simp only [UInt8.toNat_ofNat'] <;> omega
theorem bind_num {m : Nat} {n : Int} (h : 0 ≤ n ∧ n < 256 ^ m) (r : Option WS) : r.bind (wstep (.num n m)) = r.map fun s => (⟨s.names, s.out ++ beN m n.toNat⟩ : WS) := by
  cases r with
  | none => rfl
  | some s => rw [Option.bind_some, num_in h]; rfl

/-- a number is written, or the writer is wrong -/
theorem wnumber_any (w : World) (b mb : Nat) (r : Option WS) (n : Int) (m : Nat) (hm : m = 0 ∨ m = 1 ∨ m = 2 ∨ m = 4) (h : Hid (WrS w b mb r)) :
    Calls Tryd.prog 51 #[.pointer (some ⟨b, 0, none⟩), .int .i64 n, .int .i64 m] w fun e w' => e = .returned (.tuple #[]) ∧ KeptW w w' b mb ∧ WrS w' b mb (wrun (aTok m n) r) := by
  obtain ⟨mo, pv, bv, body, wrong, names, hW, hM, h1, h2, h3, h4, h5, h6⟩ := h.out
  rcases hm with rfl | rfl | rfl | rfl
  · by_cases hn : n = 0
    · subst hn
      refine (wnumber_yes0 w b mb mo pv bv _ body wrong hW).mono ?_
      rintro e w' ⟨rfl, hk, hw⟩
      exact ⟨rfl, hk, mo, pv, bv, body, wrong, names, hw, hM.same (hW.sameMap hw), h1, h2, h3, h4, h5, h6⟩
    · refine (wnumber_no0 w b mb mo pv bv _ body wrong n hW (by omega)).mono ?_
      rintro e w' ⟨rfl, hk, hw⟩
      have e : wrun (aTok 0 n) r = none := by
        simp only [aTok, hn]
        exact wrun_bad r
      rw [e]
      exact ⟨rfl, hk, .bad hW hM h1 h2 h3 h4 hw⟩
  · rw [aTok_num (.inl rfl)]
    show Calls _ _ _ _ (fun e w' => e = .returned (.tuple #[]) ∧ KeptW w w' b mb ∧ WrS w' b mb (r.bind (wstep (.num n 1))))
    by_cases hn : 0 ≤ n ∧ n < 256 ^ 1
    · refine (wnumber_yes1 w b mb mo pv bv _ body wrong n hW h4 (by omega)).mono ?_
      rintro e w' ⟨rfl, hk, bv', hw⟩
      rw [beN1 (by omega)] at hw
      exact ⟨rfl, hk, .more _ hW hM h1 h2 h3 h4 h5 h6 (bind_num hn r) hw⟩
    · refine (wnumber_no1 w b mb mo pv bv _ body wrong n hW (by omega)).mono ?_
      rintro e w' ⟨rfl, hk, hw⟩
      rw [num_out hn]
      exact ⟨rfl, hk, .bad hW hM h1 h2 h3 h4 hw⟩
  · rw [aTok_num (.inr rfl)]
    show Calls _ _ _ _ (fun e w' => e = .returned (.tuple #[]) ∧ KeptW w w' b mb ∧ WrS w' b mb (r.bind (wstep (.num n 2))))
    by_cases hn : 0 ≤ n ∧ n < 256 ^ 2
    · refine (wnumber_yes2 w b mb mo pv bv _ body wrong n hW h4 (by omega)).mono ?_
      rintro e w' ⟨rfl, hk, bv', hw⟩
      rw [beN2 (by omega)] at hw
      exact ⟨rfl, hk, .more _ hW hM h1 h2 h3 h4 h5 h6 (bind_num hn r) hw⟩
    · refine (wnumber_no2 w b mb mo pv bv _ body wrong n hW (by omega)).mono ?_
      rintro e w' ⟨rfl, hk, hw⟩
      rw [num_out hn]
      exact ⟨rfl, hk, .bad hW hM h1 h2 h3 h4 hw⟩
  · by_cases hn : -2147483648 ≤ n ∧ n ≤ 2147483647
    · refine (wnumber_yes4 w b mb mo pv bv _ body wrong n hW h4 hn).mono ?_
      rintro e w' ⟨rfl, hk, bv', hw⟩
      rw [beN4 hn] at hw
      have e : wrun (aTok 4 n) r = r.bind (wstep (.num (if n < 0 then n + 4294967296 else n) 4)) := by
        simp only [aTok, hn]
        rfl
      rw [e]
      exact ⟨rfl, hk, .more _ hW hM h1 h2 h3 h4 h5 h6 (bind_num (by split <;> omega) r) hw⟩
    · refine (wnumber_no4 w b mb mo pv bv _ body wrong n hW (by omega)).mono ?_
      rintro e w' ⟨rfl, hk, hw⟩
      have e : wrun (aTok 4 n) r = none := by
        simp only [aTok, hn]
        exact wrun_bad r
      rw [e]
      exact ⟨rfl, hk, .bad hW hM h1 h2 h3 h4 hw⟩
end Go.Proofs.YtdhophglnhcjbaaDoor
