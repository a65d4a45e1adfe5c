/- Contracts of the functions that the law goes through: a part of the proof that the last text tells. -/
import Derived.Test.YtdhophglnhcjbaaDoorXE
import Derived.Lib.SlBytesConst
set_option linter.unusedVariables false
set_option linter.unusedSimpArgs false
namespace Go.Proofs.YtdhophglnhcjbaaDoor
open Go.RowKit Cf

set_option maxRecDepth 100000 in
set_option maxHeartbeats 2000000 in
/-- A METHOD -/
theorem wmethod_any (w : World) (b mb lim : Nat) (r : Option WS) (m : XMe) (pa ca ha : Option Addr) (pk ck hk0 : Nat) (hl : lim ≤ b) (hlm : lim ≤ mb) (hb0 : 0 < b) (hm0 : 0 < mb) (hm : Hid (okMe m)) (hxp : m.params.length ≤ 1099511627776) (hxc : m.code.length ≤ 1099511627776) (hxh : m.handlers.length ≤ 1099511627776)
    (hp : ∀ x ∈ m.params, okTy x) (hc : ∀ x ∈ m.code, okIn x) (hh : ∀ x ∈ m.handlers, okHd x) (h : Hid (WrS w b mb r)) (hS : Hid (Shp w))
    (hrp : Hid (RdRow w lim 2 xTy pa m.params)) (hrc : Hid (RdRow w lim 4 xIn ca m.code)) (hrh : Hid (RdRow w lim 4 xHd ha m.handlers)) :
    Calls Tryd.prog 40 #[.pointer (some ⟨b, 0, none⟩), .agg #[.string m.name, .slice pa m.params.length pk, .int .i64 m.ret.kind, .string m.ret.name, .int .i64 m.stack, .int .i64 m.locals, .slice ca m.code.length ck, .slice ha m.handlers.length hk0]] w
      fun e w' => e = .returned (.tuple #[]) ∧ KeptW w w' b mb ∧ WrS w' b mb (wrun (meTok m) r) := by
  have hbl : b < w.heap.size := h.out.lt
  have e : wrun (meTok m) r = (wrun (listTok 1 hdTok m.handlers) (wrun (listTok 2 insTok m.code) (wrun (aTok 1 m.locals) (wrun (aTok 1 m.stack) (wrun (kindTok m.ret) (wrun (listTok 1 kindTok m.params) (wrun [.nm m.name] r))))))) := by
    rw [aTok_num (.inl rfl), aTok_num (.inl rfl)]
    unfold meTok
    simp only [← wrun_append]
    simp
  rw [e]; clear e
  have HW0 : Hid (WrS (w.alloc (.cells #[.string m.name, .slice pa m.params.length pk, .int .i64 m.ret.kind, .string m.ret.name, .int .i64 m.stack, .int .i64 m.locals, .slice ca m.code.length ck, .slice ha m.handlers.length hk0] 48)) b mb r) := h.out.keep (gb_alloc w _ _)
  have HK0 : Hid (KeptW w (w.alloc (.cells #[.string m.name, .slice pa m.params.length pk, .int .i64 m.ret.kind, .string m.ret.name, .int .i64 m.stack, .int .i64 m.locals, .slice ca m.code.length ck, .slice ha m.handlers.length hk0] 48)) b mb) := .ofNone (gb_alloc w _ _)
  have HB0 : Hid (Blk (w.alloc (.cells #[.string m.name, .slice pa m.params.length pk, .int .i64 m.ret.kind, .string m.ret.name, .int .i64 m.stack, .int .i64 m.locals, .slice ca m.code.length ck, .slice ha m.handlers.length hk0] 48)) w.heap.size #[.string m.name, .slice pa m.params.length pk, .int .i64 m.ret.kind, .string m.ret.name, .int .i64 m.stack, .int .i64 m.locals, .slice ca m.code.length ck, .slice ha m.handlers.length hk0] 48) := Blk.new w _ _
  have hnb : w.heap.size ≠ b := by have := h.out.lt; omega
  have hnm : w.heap.size ≠ mb := by have := h.out.mblt; omega
  go_enter Tryd.func40, Tryd.ntmps40
  go_wp2_with fail
  refine (wname_any _ b mb r m.name hm.out.name HW0).mono ?_
  rintro e w1 ⟨rfl, hk1, hw1⟩
  have HK1 : Hid (KeptW w w1 b mb) := HK0.out.trans hk1
  have HW1 : Hid (WrS w1 b mb (wrun [.nm m.name] r)) := hw1
  have HB1 : Hid (Blk w1 w.heap.size #[.string m.name, .slice pa m.params.length pk, .int .i64 m.ret.kind, .string m.ret.name, .int .i64 m.stack, .int .i64 m.locals, .slice ca m.code.length ck, .slice ha m.handlers.length hk0] 48) := hk1.blk HB0.out hnb hnm (by decide)
  clear hk1 hw1 HK0 HW0 HB0
  have c11 := HB1.out.cell 1 _ rfl
  dsimp only
  go_wp2_with fail
  refine (wlist_ty _ b mb lim (wrun [.nm m.name] r) 1 m.params pa pk (.inl rfl) hl hlm hxp HW1 (hrp.out.keepW HK1.out hl hlm hbl) (fun w' r' x hx _ hw => wkind_any w' b mb r' x (hp x hx).2 hw)).mono ?_
  rintro e w2 ⟨rfl, hk2, hw2⟩
  have HK2 : Hid (KeptW w w2 b mb) := HK1.out.trans hk2
  have HW2 : Hid (WrS w2 b mb (wrun (listTok 1 kindTok m.params) (wrun [.nm m.name] r))) := hw2
  have HB2 : Hid (Blk w2 w.heap.size #[.string m.name, .slice pa m.params.length pk, .int .i64 m.ret.kind, .string m.ret.name, .int .i64 m.stack, .int .i64 m.locals, .slice ca m.code.length ck, .slice ha m.handlers.length hk0] 48) := hk2.blk HB1.out hnb hnm (by decide)
  clear hk2 hw2 HK1 HW1 HB1
  have c22 := HB2.out.cell 2 _ rfl
  have c23 := HB2.out.cell 3 _ rfl
  dsimp only
  go_wp2_with fail
  refine (wkind_any _ b mb (wrun (listTok 1 kindTok m.params) (wrun [.nm m.name] r)) m.ret hm.out.ret.2 HW2).mono ?_
  rintro e w3 ⟨rfl, hk3, hw3⟩
  have HK3 : Hid (KeptW w w3 b mb) := HK2.out.trans hk3
  have HW3 : Hid (WrS w3 b mb (wrun (kindTok m.ret) (wrun (listTok 1 kindTok m.params) (wrun [.nm m.name] r)))) := hw3
  have HB3 : Hid (Blk w3 w.heap.size #[.string m.name, .slice pa m.params.length pk, .int .i64 m.ret.kind, .string m.ret.name, .int .i64 m.stack, .int .i64 m.locals, .slice ca m.code.length ck, .slice ha m.handlers.length hk0] 48) := hk3.blk HB2.out hnb hnm (by decide)
  clear hk3 hw3 HK2 HW2 HB2
  have c34 := HB3.out.cell 4 _ rfl
  dsimp only
  go_wp2_with fail
  refine (wnumber_any _ b mb (wrun (kindTok m.ret) (wrun (listTok 1 kindTok m.params) (wrun [.nm m.name] r))) m.stack 1 (by simp) HW3).mono ?_
  rintro e w4 ⟨rfl, hk4, hw4⟩
  have HK4 : Hid (KeptW w w4 b mb) := HK3.out.trans hk4
  have HW4 : Hid (WrS w4 b mb (wrun (aTok 1 m.stack) (wrun (kindTok m.ret) (wrun (listTok 1 kindTok m.params) (wrun [.nm m.name] r))))) := hw4
  have HB4 : Hid (Blk w4 w.heap.size #[.string m.name, .slice pa m.params.length pk, .int .i64 m.ret.kind, .string m.ret.name, .int .i64 m.stack, .int .i64 m.locals, .slice ca m.code.length ck, .slice ha m.handlers.length hk0] 48) := hk4.blk HB3.out hnb hnm (by decide)
  clear hk4 hw4 HK3 HW3 HB3
  have c45 := HB4.out.cell 5 _ rfl
  dsimp only
  go_wp2_with fail
  refine (wnumber_any _ b mb (wrun (aTok 1 m.stack) (wrun (kindTok m.ret) (wrun (listTok 1 kindTok m.params) (wrun [.nm m.name] r)))) m.locals 1 (by simp) HW4).mono ?_
  rintro e w5 ⟨rfl, hk5, hw5⟩
  have HK5 : Hid (KeptW w w5 b mb) := HK4.out.trans hk5
  have HW5 : Hid (WrS w5 b mb (wrun (aTok 1 m.locals) (wrun (aTok 1 m.stack) (wrun (kindTok m.ret) (wrun (listTok 1 kindTok m.params) (wrun [.nm m.name] r)))))) := hw5
  have HB5 : Hid (Blk w5 w.heap.size #[.string m.name, .slice pa m.params.length pk, .int .i64 m.ret.kind, .string m.ret.name, .int .i64 m.stack, .int .i64 m.locals, .slice ca m.code.length ck, .slice ha m.handlers.length hk0] 48) := hk5.blk HB4.out hnb hnm (by decide)
  clear hk5 hw5 HK4 HW4 HB4
  have c56 := HB5.out.cell 6 _ rfl
  dsimp only
  go_wp2_with fail
  refine (wlist_in _ b mb lim (wrun (aTok 1 m.locals) (wrun (aTok 1 m.stack) (wrun (kindTok m.ret) (wrun (listTok 1 kindTok m.params) (wrun [.nm m.name] r))))) 2 m.code ca ck (.inr rfl) hl hlm hxc HW5 (hrc.out.keepW HK5.out hl hlm hbl) (fun w' r' x hx hk' hw => wins_any w' b mb r' x (hc x hx).2.2.1 (hc x hx).2.2.2 hw ((hS.out.keepW HK5.out hb0 hm0).keepW hk'.out hb0 hm0) hb0 hm0)).mono ?_
  rintro e w6 ⟨rfl, hk6, hw6⟩
  have HK6 : Hid (KeptW w w6 b mb) := HK5.out.trans hk6
  have HW6 : Hid (WrS w6 b mb (wrun (listTok 2 insTok m.code) (wrun (aTok 1 m.locals) (wrun (aTok 1 m.stack) (wrun (kindTok m.ret) (wrun (listTok 1 kindTok m.params) (wrun [.nm m.name] r))))))) := hw6
  have HB6 : Hid (Blk w6 w.heap.size #[.string m.name, .slice pa m.params.length pk, .int .i64 m.ret.kind, .string m.ret.name, .int .i64 m.stack, .int .i64 m.locals, .slice ca m.code.length ck, .slice ha m.handlers.length hk0] 48) := hk6.blk HB5.out hnb hnm (by decide)
  clear hk6 hw6 HK5 HW5 HB5
  have c67 := HB6.out.cell 7 _ rfl
  dsimp only
  go_wp2_with fail
  refine (wlist_hd _ b mb lim (wrun (listTok 2 insTok m.code) (wrun (aTok 1 m.locals) (wrun (aTok 1 m.stack) (wrun (kindTok m.ret) (wrun (listTok 1 kindTok m.params) (wrun [.nm m.name] r)))))) 1 m.handlers ha hk0 (.inl rfl) hl hlm hxh HW6 (hrh.out.keepW HK6.out hl hlm hbl) (fun w' r' x hx _ hw => whandler_any w' b mb r' x (hh x hx).2.2.2 hw)).mono ?_
  rintro e w7 ⟨rfl, hk7, hw7⟩
  dsimp only
  go_wp2_with fail
  go_end0
  exact ⟨rfl, HK6.out.trans hk7, hw7⟩
end Go.Proofs.YtdhophglnhcjbaaDoor

namespace Go.Proofs.YtdhophglnhcjbaaDoor
open Go.RowKit Cf
theorem RdMes.keepW {w w' : World} {lim b mb : Nat} {a : Option Addr} {ms : List XMe} (h : RdMes w lim a ms) (hk : KeptW w w' b mb) (hl : lim ≤ b) (hm : lim ≤ mb) (hb : b < w.heap.size) : RdMes w' lim a ms := by
  intro j hj
  obtain ⟨p, pa, ca, ha, pk, ck, hhk, h1, h2, h3, h4, h5, h6⟩ := h j hj
  exact ⟨p, pa, ca, ha, pk, ck, hhk, h1, h2, h3.keepW hk hl hm hb, h4.keepW hk hl hm hb, h5.keepW hk hl hm hb, fun r u hu => hk.cell (h6 r u hu) (by rw [add_block]; omega) (by rw [add_block]; omega) hb⟩

set_option maxRecDepth 100000 in
set_option maxHeartbeats 2000000 in
theorem wlist_me (w : World) (b mb lim : Nat) (r : Option WS) (m : Nat) (xs : List XMe) (a : Option Addr) (cap : Nat) (hm : m = 1 ∨ m = 2) (hlim : lim ≤ b) (hlm : lim ≤ mb) (hb0 : 0 < b) (hm0 : 0 < mb) (hxl : xs.length ≤ 1099511627776) (hok : ∀ j (hj : j < xs.length), okMe xs[j]) (hcost : ∀ j (hj : j < xs.length), costMe xs[j] ≤ 1099511627776) (h : Hid (WrS w b mb r)) (hS : Hid (Shp w)) (hrow : Hid (RdMes w lim a xs)) :
    Calls Tryd.prog 39 #[.pointer (some ⟨b, 0, none⟩), .int .i64 m, .slice a xs.length cap, .func (.func 40) #[.pointer (some ⟨b, 0, none⟩)] #[]] w
      fun e w' => e = .returned (.tuple #[]) ∧ KeptW w w' b mb ∧ WrS w' b mb (wrun (listTok m meTok xs) r) := by
  have hbl : b < w.heap.size := h.out.lt
  have e0 : ∀ j, j ≤ xs.length → wrun (listTok m meTok xs) r = wrun ((xs.drop j).flatMap meTok) (wrun ((xs.take j).flatMap meTok) (wrun (aTok m xs.length) r)) := by
    intro j _
    rw [aTok_num hm, ← wrun_append, ← wrun_append, ← List.flatMap_append, List.take_append_drop]
    rfl
  have HE : Hid (∀ j, j ≤ xs.length → wrun (listTok m meTok xs) r = wrun ((xs.drop j).flatMap meTok) (wrun ((xs.take j).flatMap meTok) (wrun (aTok m xs.length) r))) := e0
  clear e0
  go_enter Tryd.func39, Tryd.ntmps39
  go_wp2_with (go_at_call 51; refine (wnumber_any _ b mb r (xs.length : Int) m (by omega) h).mono ?_; rintro e w1 ⟨rfl, hk1, hw1⟩; have HK1 : Hid (KeptW w w1 b mb) := hk1; have HW1 : Hid (WrS w1 b mb (wrun (aTok m xs.length) r)) := hw1; clear hk1 hw1; try dsimp only)
  obtain ⟨r2, hr2⟩ : ∃ r2, r2 = wrun (aTok m xs.length) r := ⟨_, rfl⟩
  rw [← hr2] at HW1 HE
  clear hr2
  go_loopw [17] (fun i wr => ∃ j : Nat, j ≤ xs.length ∧ i = .int .i64 j ∧ WrS wr b mb (wrun ((xs.take j).flatMap meTok) r2) ∧ KeptW w wr b mb) (fun i _ => xs.length - (intOf i).toNat)
  case atStart => exact ⟨0, Nat.zero_le _, rfl, HW1.out, HK1.out⟩
  case round =>
    clear HW1 HK1
    obtain ⟨j, hj, rfl, hps, hkp⟩ := hrel
    have HW : Hid (WrS wr b mb (wrun ((xs.take j).flatMap meTok) r2)) := hps
    have HK : Hid (KeptW w wr b mb) := hkp
    clear hps hkp
    by_cases hlt : j < xs.length
    · have HSk : Hid (Shp wr) := hS.out.keepW HK.out hb0 hm0
      obtain ⟨p, pa, ca, ha, pk, ck, hk0, rfl, hp1, hrp, hrc, hrh, hpc⟩ := hrow.out.keepW HK.out hlim hlm hbl j hlt
      have f0 : wr.cell? (p.add (j * 8)) = some (.string xs[j].name) := hpc 0 _ rfl
      have f1 : wr.cell? ⟨(p.add (j * 8)).block, (p.add (j * 8)).off + 1, none⟩ = some (.slice pa xs[j].params.length pk) := by rw [add_at p (j * 8) 0]; exact hpc 1 _ rfl
      have f2 : wr.cell? ⟨(p.add (j * 8)).block, (p.add (j * 8)).off + 2, none⟩ = some (.int .i64 xs[j].ret.kind) := by rw [add_at p (j * 8) 1]; exact hpc 2 _ rfl
      have f3 : wr.cell? ⟨(p.add (j * 8)).block, (p.add (j * 8)).off + 3, none⟩ = some (.string xs[j].ret.name) := by rw [add_at p (j * 8) 2]; exact hpc 3 _ rfl
      have f4 : wr.cell? ⟨(p.add (j * 8)).block, (p.add (j * 8)).off + 4, none⟩ = some (.int .i64 xs[j].stack) := by rw [add_at p (j * 8) 3]; exact hpc 4 _ rfl
      have f5 : wr.cell? ⟨(p.add (j * 8)).block, (p.add (j * 8)).off + 5, none⟩ = some (.int .i64 xs[j].locals) := by rw [add_at p (j * 8) 4]; exact hpc 5 _ rfl
      have f6 : wr.cell? ⟨(p.add (j * 8)).block, (p.add (j * 8)).off + 6, none⟩ = some (.slice ca xs[j].code.length ck) := by rw [add_at p (j * 8) 5]; exact hpc 6 _ rfl
      have f7 : wr.cell? ⟨(p.add (j * 8)).block, (p.add (j * 8)).off + 7, none⟩ = some (.slice ha xs[j].handlers.length hk0) := by rw [add_at p (j * 8) 6]; exact hpc 7 _ rfl
      have hokj := hok j hlt
      have hcj := hcost j hlt
      unfold costMe at hcj
      have HSa : Hid (Shp (wr.alloc (.cells #[.string xs[j].name, .slice pa xs[j].params.length pk, .int .i64 xs[j].ret.kind, .string xs[j].ret.name, .int .i64 xs[j].stack, .int .i64 xs[j].locals, .slice ca xs[j].code.length ck, .slice ha xs[j].handlers.length hk0] 48))) := HSk.out.keep (gb_alloc wr _ none) (by simp)
      have HRP : Hid (RdRow (wr.alloc (.cells #[.string xs[j].name, .slice pa xs[j].params.length pk, .int .i64 xs[j].ret.kind, .string xs[j].ret.name, .int .i64 xs[j].stack, .int .i64 xs[j].locals, .slice ca xs[j].code.length ck, .slice ha xs[j].handlers.length hk0] 48)) lim 2 xTy pa xs[j].params) := hrp.keep (gb_alloc wr _ none)
      have HRC : Hid (RdRow (wr.alloc (.cells #[.string xs[j].name, .slice pa xs[j].params.length pk, .int .i64 xs[j].ret.kind, .string xs[j].ret.name, .int .i64 xs[j].stack, .int .i64 xs[j].locals, .slice ca xs[j].code.length ck, .slice ha xs[j].handlers.length hk0] 48)) lim 4 xIn ca xs[j].code) := hrc.keep (gb_alloc wr _ none)
      have HRH : Hid (RdRow (wr.alloc (.cells #[.string xs[j].name, .slice pa xs[j].params.length pk, .int .i64 xs[j].ret.kind, .string xs[j].ret.name, .int .i64 xs[j].stack, .int .i64 xs[j].locals, .slice ca xs[j].code.length ck, .slice ha xs[j].handlers.length hk0] 48)) lim 4 xHd ha xs[j].handlers) := hrh.keep (gb_alloc wr _ none)
      have hP : ∀ x ∈ xs[j].params, okTy x := fun x hx => by obtain ⟨q, hq, rfl⟩ := List.getElem_of_mem hx; exact hokj.params q hq
      have hC : ∀ x ∈ xs[j].code, okIn x := fun x hx => by obtain ⟨q, hq, rfl⟩ := List.getElem_of_mem hx; exact hokj.code q hq
      have hH : ∀ x ∈ xs[j].handlers, okHd x := fun x hx => by obtain ⟨q, hq, rfl⟩ := List.getElem_of_mem hx; exact hokj.handlers q hq
      clear hrp hrc hrh
      clear hpc
      have HWa : Hid (WrS (wr.alloc (.cells #[.string xs[j].name, .slice pa xs[j].params.length pk, .int .i64 xs[j].ret.kind, .string xs[j].ret.name, .int .i64 xs[j].stack, .int .i64 xs[j].locals, .slice ca xs[j].code.length ck, .slice ha xs[j].handlers.length hk0] 48)) b mb (wrun ((xs.take j).flatMap meTok) r2)) := HW.out.keep (gb_alloc wr _ _)
      have HKa : Hid (KeptW w (wr.alloc (.cells #[.string xs[j].name, .slice pa xs[j].params.length pk, .int .i64 xs[j].ret.kind, .string xs[j].ret.name, .int .i64 xs[j].stack, .int .i64 xs[j].locals, .slice ca xs[j].code.length ck, .slice ha xs[j].handlers.length hk0] 48)) b mb) := HK.out.trans (.ofNone (gb_alloc wr _ _))
      obtain ⟨mo, pv, bv, body, wrong, names, hW, hM, h1, h2, h3, h4, h5, h6⟩ := HWa.out
      have c3 := hW.blk.cell 3 _ rfl
      cases wrong with
      | true =>
        have HD : Hid (WrS (wr.alloc (.cells #[.string xs[j].name, .slice pa xs[j].params.length pk, .int .i64 xs[j].ret.kind, .string xs[j].ret.name, .int .i64 xs[j].stack, .int .i64 xs[j].locals, .slice ca xs[j].code.length ck, .slice ha xs[j].handlers.length hk0] 48)) b mb (wrun (listTok m meTok xs) r)) := by
          unfold Hid
          rw [HE.out j hj]
          exact .skip _ hW hM h1 h2 h3 h4 h5
        clear hW hM h1 h2 h3 h4 h5 h6
        go_wp2_with fail
        (try simp only [Exit.inBlock, Exit.then]); refine bodyPost_ret (results_none rfl _ _ _) rfl ?_
        exact ⟨rfl, HKa.out, HD.out⟩
      | false =>
        clear hW hM h1 h2 h3 h4 h5 h6
        go_wp2_with (go_at_call 40; refine (wmethod_any _ b mb lim _ xs[j] pa ca ha pk ck hk0 hlim hlm hb0 hm0 hokj (by omega) (by omega) (by omega) hP hC hH HWa HSa HRP HRC HRH).mono ?_; rintro e w4 ⟨rfl, hk4, hw4⟩; try dsimp only)
        go_roundw
        case rel => exact ⟨j + 1, hlt, by go_num, by rw [flat_take meTok xs j hlt]; exact hw4, HKa.out.trans hk4⟩
        case measure => simp [intOf]; omega
    · have hje : j = xs.length := by omega
      subst hje
      go_wp2_with fail
      go_end0
      refine ⟨rfl, HK.out, ?_⟩
      rw [HE.out xs.length (Nat.le_refl _), List.drop_length]
      exact HW.out
end Go.Proofs.YtdhophglnhcjbaaDoor

namespace Go.Proofs.YtdhophglnhcjbaaDoor
open Go.RowKit Cf

theorem costMes_each : ∀ (ms : List XMe) (j : Nat) (hj : j < ms.length), costMe ms[j] ≤ costMes ms
  | x :: l, 0, _ => by simp [costMes]
  | x :: l, j + 1, h => by
    have := costMes_each l j (by simpa using h)
    simp only [costMes, List.map_cons, List.sum_cons, List.getElem_cons_succ] at this ⊢
    omega

set_option maxRecDepth 100000 in
set_option maxHeartbeats 2000000 in
/-- THE CLASS -/
theorem wclass_any (w : World) (b mb lim : Nat) (r : Option WS) (c : XCl) (fa ma : Option Addr) (fk mk : Nat) (hl : lim ≤ b) (hlm : lim ≤ mb) (hb0 : 0 < b) (hm0 : 0 < mb) (hm : Hid (okCl c)) (hc : costCl c ≤ 2 ^ 40) (h : Hid (WrS w b mb r)) (hS : Hid (Shp w))
    (hrf : Hid (RdRow w lim 3 xFld fa c.fields)) (hrm : Hid (RdMes w lim ma c.methods)) :
    Calls Tryd.prog 27 #[.pointer (some ⟨b, 0, none⟩), .agg #[.string c.name, .string c.super, .slice fa c.fields.length fk, .slice ma c.methods.length mk]] w
      fun e w' => e = .returned (.tuple #[]) ∧ KeptW w w' b mb ∧ WrS w' b mb (wrun (clTok c) r) := by
  have hbl : b < w.heap.size := h.out.lt
  have hcl : 10 + 5 * c.fields.length + costMes c.methods ≤ 1099511627776 := by unfold costCl at hc; omega
  have hxf : c.fields.length ≤ 1099511627776 := by omega
  have hxm : c.methods.length ≤ 1099511627776 := by have := costMes_len c.methods; omega
  have hcj : ∀ j (hj : j < c.methods.length), costMe c.methods[j] ≤ 1099511627776 := fun j hj => by have := costMes_each c.methods j hj; omega
  have hF : ∀ x ∈ c.fields, okFld x := fun x hx => by obtain ⟨q, hq, rfl⟩ := List.getElem_of_mem hx; exact hm.out.fields q hq
  clear hc hcl
  have e : wrun (clTok c) r = (wrun (listTok 1 meTok c.methods) (wrun (listTok 1 fldTok c.fields) (wrun [.nm c.super] (wrun [.nm c.name] r)))) := by
    unfold clTok
    simp only [← wrun_append]
    simp
  rw [e]; clear e
  have HW0 : Hid (WrS (w.alloc (.cells #[.string c.name, .string c.super, .slice fa c.fields.length fk, .slice ma c.methods.length mk] 25)) b mb r) := h.out.keep (gb_alloc w _ _)
  have HK0 : Hid (KeptW w (w.alloc (.cells #[.string c.name, .string c.super, .slice fa c.fields.length fk, .slice ma c.methods.length mk] 25)) b mb) := .ofNone (gb_alloc w _ _)
  have HB0 : Hid (Blk (w.alloc (.cells #[.string c.name, .string c.super, .slice fa c.fields.length fk, .slice ma c.methods.length mk] 25)) w.heap.size #[.string c.name, .string c.super, .slice fa c.fields.length fk, .slice ma c.methods.length mk] 25) := Blk.new w _ _
  have hnb : w.heap.size ≠ b := by have := h.out.lt; omega
  have hnm : w.heap.size ≠ mb := by have := h.out.mblt; omega
  go_enter Tryd.func27, Tryd.ntmps27
  go_wp2_with fail
  refine (wname_any _ b mb r c.name hm.out.name HW0).mono ?_
  rintro e w1 ⟨rfl, hk1, hw1⟩
  have HK1 : Hid (KeptW w w1 b mb) := HK0.out.trans hk1
  have HW1 : Hid (WrS w1 b mb (wrun [.nm c.name] r)) := hw1
  have HB1 : Hid (Blk w1 w.heap.size #[.string c.name, .string c.super, .slice fa c.fields.length fk, .slice ma c.methods.length mk] 25) := hk1.blk HB0.out hnb hnm (by decide)
  clear hk1 hw1 HK0 HW0 HB0
  have c11 := HB1.out.cell 1 _ rfl
  dsimp only
  go_wp2_with fail
  refine (wname_any _ b mb (wrun [.nm c.name] r) c.super hm.out.super HW1).mono ?_
  rintro e w2 ⟨rfl, hk2, hw2⟩
  have HK2 : Hid (KeptW w w2 b mb) := HK1.out.trans hk2
  have HW2 : Hid (WrS w2 b mb (wrun [.nm c.super] (wrun [.nm c.name] r))) := hw2
  have HB2 : Hid (Blk w2 w.heap.size #[.string c.name, .string c.super, .slice fa c.fields.length fk, .slice ma c.methods.length mk] 25) := hk2.blk HB1.out hnb hnm (by decide)
  clear hk2 hw2 HK1 HW1 HB1
  have c22 := HB2.out.cell 2 _ rfl
  dsimp only
  go_wp2_with fail
  refine (wlist_fld _ b mb lim (wrun [.nm c.super] (wrun [.nm c.name] r)) 1 c.fields fa fk (.inl rfl) hl hlm hxf HW2 (hrf.out.keepW HK2.out hl hlm hbl) (fun w' r' x hx _ hw => wfield_any w' b mb r' x (hF x hx).1 (hF x hx).2.2 hw)).mono ?_
  rintro e w3 ⟨rfl, hk3, hw3⟩
  have HK3 : Hid (KeptW w w3 b mb) := HK2.out.trans hk3
  have HW3 : Hid (WrS w3 b mb (wrun (listTok 1 fldTok c.fields) (wrun [.nm c.super] (wrun [.nm c.name] r)))) := hw3
  have HB3 : Hid (Blk w3 w.heap.size #[.string c.name, .string c.super, .slice fa c.fields.length fk, .slice ma c.methods.length mk] 25) := hk3.blk HB2.out hnb hnm (by decide)
  clear hk3 hw3 HK2 HW2 HB2
  have c33 := HB3.out.cell 3 _ rfl
  dsimp only
  go_wp2_with fail
  refine (wlist_me _ b mb lim (wrun (listTok 1 fldTok c.fields) (wrun [.nm c.super] (wrun [.nm c.name] r))) 1 c.methods ma mk (.inl rfl) hl hlm hb0 hm0 hxm hm.out.methods hcj HW3 (hS.out.keepW HK3.out hb0 hm0) (hrm.out.keepW HK3.out hl hlm hbl)).mono ?_
  rintro e w4 ⟨rfl, hk4, hw4⟩
  dsimp only
  go_wp2_with fail
  go_end0
  exact ⟨rfl, HK3.out.trans hk4, hw4⟩
end Go.Proofs.YtdhophglnhcjbaaDoor

namespace Go.Proofs.YtdhophglnhcjbaaDoor
open Go.RowKit Cf

/-- the writer as it is made -/
theorem WrS.made (w : World) : WrS ((w.alloc (.map #[] 0)).alloc (.cells #[.map (some w.heap.size), .slice none 0 0, .slice none 0 0, .bool false] 78)) (w.heap.size + 1) w.heap.size (some ⟨[], []⟩) := by
  have hB : Blk ((w.alloc (.map #[] 0)).alloc (.cells #[.map (some w.heap.size), .slice none 0 0, .slice none 0 0, .bool false] 78)) (w.heap.size + 1) #[.map (some w.heap.size), .slice none 0 0, .slice none 0 0, .bool false] 78 := by
    have := Blk.new (w.alloc (.map #[] 0)) #[.map (some w.heap.size), .slice none 0 0, .slice none 0 0, .bool false] 78
    simp only [size_alloc] at this
    exact this
  have hm : ((w.alloc (.map #[] 0)).alloc (.cells #[.map (some w.heap.size), .slice none 0 0, .slice none 0 0, .bool false] 78)).heap[w.heap.size]? = some (.map #[] 0) :=
    ((gb_alloc (w.alloc (.map #[] 0)) _ none).block w.heap.size (by simp) (by simp)).trans (heap_alloc_new w _)
  have hM := World.ownsMap_made (H := Unit) w Tryd.prog 9 (plainElem Tryd.prog 3)
  refine ⟨.map #[] 0, .slice none 0 0, .slice none 0 0, [], false, [], ⟨hB, hm, (fun cs t fr e => by cases e), World.ownsRow_nil _ _ _ _, World.ownsRow_nil _ _ _ _, .inl rfl⟩, ?_, List.nodup_nil, by simp, by simp, by simp, ?_, ?_⟩
  · exact ownsMap_same (w := w.alloc (.map #[] 0)) hM ((gb_alloc (w.alloc (.map #[] 0)) _ none).block w.heap.size (by simp) (by simp))
  · intro s hs _
    cases hs
    exact ⟨rfl, rfl, rfl⟩
  · intro hs
    have := hs ⟨[], []⟩ rfl
    simp at this

section
variable {P : Program}
/-- append onto a row that is full and may be marked: the new row is a new block -/
theorem run_append_full (w : World) (t ty : TypeId) (base : Nat) (e : TypeId) (i : TypeInfo) (z : Value) (size bytes : Nat) (ht : P.underlying t = some (.slice e)) (hi : P.info? e = some i) (hz : i.zero = some z)
    (hsize : i.size = size) (hby : i.bytes = bytes) (hzs : z.cells.size = size)
    (b : Addr) (sLen sCap : Nat) (olds : List Value) (hlo : olds.length = sLen * size) (holds : ∀ j v, olds[j]? = some v → w.cell? (b.add j) = some v)
    (ad : Addr) (m c : Nat) (news : List Value) (hl : news.length = m * size) (hnews : ∀ j u, news[j]? = some u → w.cell? (ad.add j) = some u)
    (hg : sCap < sLen + m) (h63 : sLen + m ≤ maxLen) (hbytes : (sLen + m) * bytes ≤ 140737488355328) (hbase : base ≤ w.heap.size) (H : Nat) (hH : w.heap.size = H) :
    ∃ cap w', (Builtin.append_ #[t, t] ty #[.slice (some b) sLen sCap, .slice (some ad) m c]).run P w = .ok (.slice (some ⟨H, 0, none⟩) (sLen + m) cap) w' ∧
      w'.ownsRow base e size (.slice (some ⟨H, 0, none⟩) (sLen + m) cap) (sLen + m) (olds ++ news) ∧ w.grownBy w' none ∧ H < w'.heap.size := by
  subst hsize hby hH
  have hr := run_append_grow (P := P) w t ty e i z ht hi hz b sLen sCap olds hlo holds ad m c news hl hnews hg (by simp only [maxLen] at h63; omega) (growslice_fits (by omega) (by omega))
  have hge := grownCap_ge w (sLen + m) sCap e
  have hcm : grownCap w (sLen + m) sCap e ≤ maxLen := grownCap_le_maxLen w (sLen + m) sCap e h63
  have hlen : (olds ++ news).length = (sLen + m) * i.size := by rw [List.length_append, hlo, hl, Nat.add_mul]
  refine ⟨_, _, hr, ⟨hlen, .inr ⟨w.heap.size, _, _, rfl, hbase, heap_alloc_new w.drew _, hge, hcm, ?_, ?_⟩⟩, ⟨rfl, rfl, rfl, by simp, fun k hk _ => heap_alloc_old w.drew _ hk⟩, by simp⟩
  · simp only [Array.size_append, List.size_toArray, size_zeroCells, hzs, hlo, hl, ← Nat.add_mul]
    congr 1
    omega
  · simp only [Array.toList_append, List.append_assoc]
    rw [← List.append_assoc, ← hlen]
    exact List.take_left
theorem wpList_append_full {w : World} {ops : Array Oper} {rest : List Oper} {o : Oper} {a : Act} {Q : Exit → Act → World → Prop} (hgd : o.guard = none) (s x : Operand) (t : TypeId)
    (ho : o.op = .call { callee := .builtin .append, args := #[s, x], argTypes := #[t, t] })
    (base : Nat) (e : TypeId) (i : TypeInfo) (z : Value) (size bytes : Nat) (ht : P.underlying t = some (.slice e)) (hi : P.info? e = some i) (hz : i.zero = some z)
    (hsize : i.size = size) (hby : i.bytes = bytes) (hzs : z.cells.size = size)
    (b : Addr) (sLen sCap : Nat) (olds : List Value) (hs : a.eval s = .slice (some b) sLen sCap) (hlo : olds.length = sLen * size) (holds : ∀ j v, olds[j]? = some v → w.cell? (b.add j) = some v)
    (ad : Addr) (m c : Nat) (news : List Value) (hx : a.eval x = .slice (some ad) m c) (hl : news.length = m * size) (hnews : ∀ j u, news[j]? = some u → w.cell? (ad.add j) = some u)
    (hg : sCap < sLen + m) (h63 : sLen + m ≤ maxLen) (hbytes : (sLen + m) * bytes ≤ 140737488355328) (hbase : base ≤ w.heap.size) (H : Nat) (hH : w.heap.size = H)
    (h : ∀ cap w', w'.ownsRow base e size (.slice (some ⟨H, 0, none⟩) (sLen + m) cap) (sLen + m) (olds ++ news) → w.grownBy w' none → H < w'.heap.size → wpList P ops Q rest (a.put o.dst (.slice (some ⟨H, 0, none⟩) (sLen + m) cap)) w') : wpList P ops Q (o :: rest) a w := by
  refine wpList_plain hgd fun K hK => ?_
  obtain ⟨cap, w', hr, h2, h3, h4⟩ := run_append_full (P := P) w t o.type base e i z size bytes ht hi hz hsize hby hzs b sLen sCap olds hlo holds ad m c news hl hnews hg h63 hbytes hbase H hH
  unfold Oper.wp execOp
  simp only [ho, resolve, invoke, builtin, Sem.run_bind, Sem.run_pure, Result.andThen_ok, List.map_toArray, List.map_cons, List.map_nil, hs, hx, hr]
  exact hK _ _ (h cap w' h2 h3 h4)
end
theorem wstep_grow {t : WTok} {s s' : WS} (h : wstep t s = some s') : s.names.length ≤ s'.names.length ∧ s.out.length ≤ s'.out.length := by
  match t, h with
  | some (.inl (n, w)), h =>
    simp only [wstep] at h
    split at h
    · cases h; simp
    · cases h
  | none, h => cases h
  | some (.inr y), h =>
    obtain ⟨_, rfl⟩ := WName s.names y s s' h
    exact ⟨withName_le s.names y, by simp⟩
theorem wrun_grow : ∀ (l : List WTok) {s s' : WS}, wrun l (some s) = some s' → s.names.length ≤ s'.names.length ∧ s.out.length ≤ s'.out.length
  | [], s, s', h => by cases h; exact ⟨Nat.le_refl _, Nat.le_refl _⟩
  | t :: l, s, s', h => by
    rw [wrun_cons] at h
    cases ht : wstep t s with
    | none => rw [Option.bind_some, ht, wrun_none] at h; cases h
    | some s1 =>
      rw [Option.bind_some, ht] at h
      have h1 := wstep_grow ht
      have h2 := wrun_grow l h
      exact ⟨Nat.le_trans h1.1 h2.1, Nat.le_trans h1.2 h2.2⟩
/-- a class's file holds a name, and its number -/
theorem wrun_some {c : XCl} {s : WS} (h : wrun (clTok c) (some ⟨[], []⟩) = some s) : 0 < s.names.length ∧ 0 < s.out.length := by
  unfold clTok at h
  rw [wrun_cons] at h
  cases ht : wstep (.nm c.name) ⟨[], []⟩ with
  | none => rw [Option.bind_some, ht, wrun_none] at h; cases h
  | some s1 =>
    rw [Option.bind_some, ht] at h
    obtain ⟨_, rfl⟩ := WName [] c.name ⟨[], []⟩ s1 ht
    have h2 := wrun_grow _ h
    have h3 : (withName [] c.name).length = 1 := by unfold withName posOf; simp
    simp only [h3, List.nil_append, List.length_singleton] at h2
    exact ⟨by omega, by omega⟩
theorem map_byteV_cells {w : World} {base n : Nat} {v : Value} {l : List UInt8} (h : w.ownsRow base 5 1 v n (l.map byteV)) : n = l.length := by
  have := h.1; simpa using this.symm
/-- the bytes of a row as a string -/
theorem conv_row (W : World) (base g n cap : Nat) (l : List UInt8) (h : W.ownsRow base 5 1 (.slice (some ⟨g, 0, none⟩) n cap) n (l.map byteV)) : (convert 61 9 (.slice (some ⟨g, 0, none⟩) n cap)).run Tryd.prog W = .ok (.string ⟨l.toArray⟩) W := by
  rw [run_convert_bytes_string _ 61 9 5 _ n cap Tryd.underlying61 Tryd.underlying5 Tryd.underlying9]
  have hn := map_byteV_cells h
  have hl := run_loadCells_list (P := Tryd.prog) W ⟨g, 0, none⟩ (l.map byteV) (h.cells (g := g) rfl)
  have e : l.map byteV = (l.map fun x => (x.toNat : Int)).map fun z => Value.int .u8 z := by simp [byteV]
  rw [e] at hl
  have := run_bytesToString (P := Tryd.prog) W _ n cap (l.map fun x => (x.toNat : Int)) (by rw [hn]; simpa using hl)
  rw [this]
  have e2 : ∀ (q : List UInt8) (r : ByteArray), (q.map fun x => (x.toNat : Int)).foldl (fun r n => r.push (UInt8.ofNat n.toNat)) r = ⟨(r.data.toList ++ q).toArray⟩ := by
    intro q
    induction q with
    | nil => intro r; apply ByteArray.ext; simp
    | cons x q ih =>
      intro r
      rw [List.map_cons, List.foldl_cons, ih]
      apply ByteArray.ext
      simp
  rw [e2]
  rfl

set_option maxRecDepth 100000 in
set_option maxHeartbeats 2000000 in
theorem write_any (w : World) (lim : Nat) (c : XCl) (fa ma : Option Addr) (fk mk : Nat) (hl : lim ≤ w.heap.size) (hm : Hid (okCl c)) (hc : costCl c ≤ 2 ^ 40) (hS : Hid (Shp w))
    (hrf : Hid (RdRow w lim 3 xFld fa c.fields)) (hrm : Hid (RdMes w lim ma c.methods)) :
    Calls Tryd.prog 13 #[.agg #[.string c.name, .string c.super, .slice fa c.fields.length fk, .slice ma c.methods.length mk]] w fun e w' => e = .returned (.tuple #[.string (strOf (enc c)), .int .i64 (codeOf (enc c))]) ∧ w.grownBy w' none := by
  have hs0 : 0 < w.heap.size := hS.out.1
  obtain ⟨mb, hmb⟩ : ∃ mb, mb = w.heap.size + 1 := ⟨_, rfl⟩
  obtain ⟨b, hb⟩ : ∃ b, b = w.heap.size + 1 + 1 := ⟨_, rfl⟩
  obtain ⟨w0, hw0⟩ : ∃ w0, w0 = w.alloc (.cells #[.string c.name, .string c.super, .slice fa c.fields.length fk, .slice ma c.methods.length mk] 25) := ⟨_, rfl⟩
  have hsz0 : w0.heap.size = w.heap.size + 1 := by rw [hw0]; simp
  obtain ⟨wb, hwb⟩ : ∃ wb, wb = (w0.alloc (.map #[] 0)).alloc (.cells #[.map (some (w.heap.size + 1)), .slice none 0 0, .slice none 0 0, .bool false] 78) := ⟨_, rfl⟩
  have hG0 : w.grownBy w0 none := by rw [hw0]; exact gb_alloc _ _ _
  have hG1 : w0.grownBy wb none := by rw [hwb]; exact gb_tr (gb_alloc _ _ _) (gb_alloc _ _ _)
  have HG : Hid (w.grownBy wb none) := gb_tr hG0 hG1
  have HW0 : Hid (WrS wb b mb (some ⟨[], []⟩)) := by
    have := WrS.made w0
    rw [hsz0, ← hb, ← hmb] at this
    unfold Hid
    rw [hwb, ← hmb]
    exact this
  have HB0 : Hid (Blk wb w.heap.size #[.string c.name, .string c.super, .slice fa c.fields.length fk, .slice ma c.methods.length mk] 25) := by
    have := Blk.new w #[.string c.name, .string c.super, .slice fa c.fields.length fk, .slice ma c.methods.length mk] 25
    rw [← hw0] at this
    exact this.keep hG1 (by simp)
  have HSb : Hid (Shp wb) := hS.out.keep HG.out (by simp)
  have HRF : Hid (RdRow wb lim 3 xFld fa c.fields) := hrf.out.keep HG.out
  have HRM : Hid (RdMes wb lim ma c.methods) := hrm.out.keep HG.out
  have c0 := HB0.out.cell 0 _ rfl
  have c1 := HB0.out.cell 1 _ rfl
  have c2 := HB0.out.cell 2 _ rfl
  have c3 := HB0.out.cell 3 _ rfl
  have hlb : lim ≤ b := by omega
  have hlm : lim ≤ mb := by omega
  have hb0 : 0 < b := by omega
  have hm0 : 0 < mb := by omega
  clear hG0 hG1
  go_enter Tryd.func13, Tryd.ntmps13
  go_wp2_with fail
  rw [run_makeMap]
  simp only [Result.andThen_ok]
  go_wp2_with fail
  rw [← hw0]
  rw [← hwb]
  rw [← hb]
  have hbg : Hid (w.heap.size < b) := by unfold Hid; omega
  have hmg : Hid (w.heap.size < mb) := by unfold Hid; omega
  clear hw0 hwb hsz0 hb hmb c0 c1 c2 c3
  refine (wclass_any wb b mb lim (some ⟨[], []⟩) c fa ma fk mk hlb hlm hb0 hm0 hm hc HW0 HSb HRF HRM).mono ?_
  rintro e w1 ⟨rfl, hk1, hw1⟩
  obtain ⟨r, hr⟩ : ∃ r, r = wrun (clTok c) (some ⟨[], []⟩) := ⟨_, rfl⟩
  rw [← hr] at hw1
  have HK : Hid (w.grownBy w1 none) := ⟨hk1.os.trans HG.out.os, hk1.tape.trans HG.out.tape, hk1.output.trans HG.out.output, Nat.le_trans HG.out.size hk1.size, fun k hk _ =>
    (hk1.block k (Nat.lt_of_lt_of_le hk HG.out.size) (fun hm' => by have h1 := hbg.out; have h2 := hmg.out; rcases hm' with h | h | ⟨h, _⟩ <;> omega)).trans (HG.out.block k hk (by simp))⟩
  clear hk1 HB0 HW0 HSb HRF HRM HG hrf hrm hS
  obtain ⟨mo, pv, bv, body, wrong, names, hW, hM, h1, h2, h3, h4, h5, h6⟩ := hw1
  have HWr : Hid (Wr w1 b mb mo pv bv (poolBytes names) body wrong) := hW
  have HM : Hid (MapIs w1 mb names) := hM
  have c3 := HWr.out.blk.cell 3 _ rfl
  clear hW hM
  dsimp only
  cases wrong with
  | true =>
    have he : Hid (enc c = .error 19) := by
      unfold Hid enc
      rw [← hr]
      cases r with
      | none => rfl
      | some s =>
        have : 255 < s.names.length := by
          by_cases hc : s.names.length ≤ 255
          · have := (h5 s rfl hc).1; cases this
          · omega
        simp only [this, if_true]
    clear hr h5 h6
    go_wp2_with fail
    go_ret2
    rw [he.out]
    exact ⟨rfl, HK.out⟩
  | false =>
    obtain ⟨s, hrs, hsl, hsn, hsb⟩ : ∃ s : WS, r = some s ∧ s.names.length ≤ 255 ∧ names = s.names ∧ body = s.out.take 2049 := by
      cases hrr : r with
      | none => have := h6 (fun s e => by rw [hrr] at e; cases e); cases this
      | some s =>
        by_cases hl : s.names.length ≤ 255
        · exact ⟨s, rfl, hl, (h5 s hrr hl).2⟩
        · have := h6 (fun s' e => by rw [hrr] at e; injection e with e; subst e; omega)
          cases this
    obtain ⟨file, hfile⟩ : ∃ file, file = ([87, 49, UInt8.ofNat names.length] ++ poolBytes names ++ body : List UInt8) := ⟨_, rfl⟩
    have he : Hid (enc c = if 2048 < file.length then .error 1 else .ok file) := by
      unfold Hid enc
      rw [← hr, hrs]
      simp only
      rw [if_neg (by omega), hfile, hsb, ← hsn]
      by_cases hlen : s.out.length ≤ 2049
      · rw [List.take_of_length_le hlen]
      · rw [if_pos (by simp only [List.length_append, List.length_cons, List.length_nil]; omega), if_pos (by simp only [List.length_append, List.length_cons, List.length_nil, List.length_take]; omega)]
    have hfl : Hid (file.length = 3 + (poolBytes names).length + body.length) := by unfold Hid; rw [hfile]; simp only [List.length_append, List.length_cons, List.length_nil]
    have hpl := poolBytes_cap h2 h3
    have HF : Hid (file = ([87, 49, UInt8.ofNat names.length] ++ poolBytes names ++ body : List UInt8)) := hfile
    have hne := wrun_some (hr.symm.trans hrs)
    have hn0 : 0 < (poolBytes names).length := by
      rw [hsn]
      have := hne.1
      cases hq : s.names with
      | nil => rw [hq] at this; simp at this
      | cons x q => simp [poolBytes]
    have hb0' : 0 < body.length := by rw [hsb, List.length_take]; omega
    clear hfile hr hrs h5 h6 hsl hsn hsb hne
    have HP := HWr.out.poolR.form hn0
    obtain ⟨pg, pk, rfl, -, -⟩ := HP
    have HB := HWr.out.bodyR.form hb0'
    obtain ⟨bg, bk, rfl, -, -⟩ := HB
    have d0 := HWr.out.blk.cell 0 _ rfl
    have d1 := HWr.out.blk.cell 1 _ rfl
    have d2 := HWr.out.blk.cell 2 _ rfl
    have HL : Hid (Maps.size (mapD names) = names.length) := (mapFacts names h1 names.length (Nat.le_refl _)).size
    obtain ⟨i, hi, hz0, hz1, hz2⟩ := info_parts info_U8
    go_wp2_with fail
    rw [Go.Lib.run_convert_bytes_const w1 61 5 #[.int .u8 87, .int .u8 49] 2 2 Tryd.underlying61 Tryd.underlying5]
    simp only [Result.andThen_ok]
    obtain ⟨wm, hwm⟩ : ∃ wm, wm = w1.alloc (.cells #[.int .u8 87, .int .u8 49] 5 ((#[.int .u8 87, .int .u8 49] : Array Value).size, (#[.int .u8 87, .int .u8 49] : Array Value).size + 1)) := ⟨_, rfl⟩
    have HGm : Hid (w1.grownBy wm none) := by unfold Hid; rw [hwm]; exact gb_alloc _ _ _
    have HWa : Hid (Wr wm b mb mo (.slice (some ⟨pg, 0, none⟩) (poolBytes names).length pk) (.slice (some ⟨bg, 0, none⟩) body.length bk) (poolBytes names) body false) := HWr.out.keep HGm.out
    have HMa : Hid (MapIs wm mb names) := HM.out.same (HGm.out.block mb HWr.out.mblt (by simp))
    clear d0 d1 d2
    have d0 := HWa.out.blk.cell 0 _ rfl
    rw [← hwm]
    have m0 : wm.cell? ⟨w1.heap.size, 0, none⟩ = some (.int .u8 87) := by rw [hwm]; exact World.cell?_alloc_mark w1 _ _ _ 0
    have m1 : wm.cell? ⟨w1.heap.size, 1, none⟩ = some (.int .u8 49) := by rw [hwm]; exact World.cell?_alloc_mark w1 _ _ _ 1
    have hszm : wm.heap.size = w1.heap.size + 1 := by rw [hwm]; simp
    clear hwm
    have hsw : w.heap.size ≤ wm.heap.size := by rw [hszm]; have := HK.out.size; omega
    have hmk : ∀ j v, ([.int .u8 87, .int .u8 49] : List Value)[j]? = some v → (wm.alloc (.cells #[.int .u8 names.length] 5)).cell? ((⟨w1.heap.size, 0, none⟩ : Addr).add j) = some v := by
      intro j v hj
      have hadd : (⟨w1.heap.size, 0, none⟩ : Addr).add j = ⟨w1.heap.size, j, none⟩ := by unfold Addr.add; split <;> simp_all
      rw [hadd, ((gb_alloc wm _ none).cell_far ⟨w1.heap.size, j, none⟩ (by rw [hszm]; simp) (by simp))]
      have hj2 : j < 2 := by have := (List.getElem?_eq_some_iff.1 hj).1; simpa using this
      have : j = 0 ∨ j = 1 := by omega
      rcases this with rfl | rfl
      · rw [m0]; exact hj
      · rw [m1]; exact hj
    have HMK : Hid (∀ j v, ([.int .u8 87, .int .u8 49] : List Value)[j]? = some v → (wm.alloc (.cells #[.int .u8 names.length] 5)).cell? ((⟨w1.heap.size, 0, none⟩ : Addr).add j) = some v) := hmk
    obtain ⟨file2, hf2⟩ : ∃ file2, file2 = ([87, 49, UInt8.ofNat names.length] : List UInt8) := ⟨_, rfl⟩
    have HF2 : Hid (file2 = ([87, 49, UInt8.ofNat names.length] : List UInt8)) := hf2
    have HB2 : Hid (file2.map byteV = ([.int .u8 87, .int .u8 49] ++ [.int .u8 names.length] : List Value)) := by
      unfold Hid
      rw [hf2]
      have : (UInt8.ofNat names.length).toNat = names.length := by rw [UInt8.toNat_ofNat']; omega
      simp only [List.map_cons, List.map_nil, byteV, this]
      rfl
    clear hf2 hmk m0 m1
    go_wp2_with (first
      | (at_len; go_loud (refine wpList_len_own _ rfl _ 76 rfl 9 3 Tryd.underlying76 _ mb names.length (mapD names) rfl HMa.out ?_); rw [HL.out])
      | (at_builtin; first
          | (go_loud (refine wpList_append_lies _ rfl _ _ 61 rfl w.heap.size 5 i _ 1 1 Tryd.underlying61 hi hz0 hz1 hz2 rfl (by decide) (.slice (some ⟨g3, 0, none⟩) (3 + (poolBytes names).length) k3) (3 + (poolBytes names).length) _ rfl HO3.out ⟨bg, 0, none⟩ body.length bk (body.map byteV) rfl (by simp) (HW3.out.bodyR.cells rfl) (by simp [byteV, Value.oneCell']) hb0' (by unfold maxLen; omega) (by omega) (by have := HW3.out.blk.lt; have := hbg.out; omega) w3.heap.size rfl ?_)
             intro g4 k4 w4 hown4 hgrow4 hlie4 hlt4
             go_loud (
               have HO4 : Hid (w4.ownsRow w.heap.size 5 1 (.slice (some ⟨g4, 0, none⟩) (3 + (poolBytes names).length + body.length) k4) (3 + (poolBytes names).length + body.length) (file.map byteV)) := by
                 unfold Hid
                 rw [HF.out, List.map_append, List.map_append]
                 exact hown4
               have HG4 : Hid (wm.grownBy w4 none) := gb_trans HG3.out hgrow4 (fun k e => .inl (by simp only [Value.ownBlock, Option.some.injEq] at e; have := hg3.out; omega))
               have hconv := conv_row w4 w.heap.size g4 _ k4 file HO4.out
               clear hown4 hgrow4 hlie4 hlt4))
          | (go_loud (refine wpList_append_lies _ rfl _ _ 61 rfl w.heap.size 5 i _ 1 1 Tryd.underlying61 hi hz0 hz1 hz2 rfl (by decide) (.slice (some ⟨w1.heap.size + 1 + 1, 0, none⟩) 3 k2) 3 _ rfl HO2.out ⟨pg, 0, none⟩ (poolBytes names).length pk ((poolBytes names).map byteV) rfl (by simp) (HW2.out.poolR.cells rfl) (by simp [byteV, Value.oneCell']) hn0 (by unfold maxLen; omega) (by omega) (by have := HW2.out.blk.lt; have := hbg.out; omega) w2.heap.size rfl ?_)
             intro g3 k3 w3 hown3 hgrow3 hlie3 hlt3
             go_loud (
               have HO3 : Hid (w3.ownsRow w.heap.size 5 1 (.slice (some ⟨g3, 0, none⟩) (3 + (poolBytes names).length) k3) (3 + (poolBytes names).length) (([87, 49, UInt8.ofNat names.length] : List UInt8).map byteV ++ (poolBytes names).map byteV)) := hown3
               have HG3 : Hid (wm.grownBy w3 none) := gb_trans HG2.out hgrow3 (fun k e => .inl (by simp only [Value.ownBlock, Option.some.injEq] at e; omega))
               have HW3 : Hid (Wr w3 b mb mo (.slice (some ⟨pg, 0, none⟩) (poolBytes names).length pk) (.slice (some ⟨bg, 0, none⟩) body.length bk) (poolBytes names) body false) := HWa.out.keep HG3.out
               have hg3 : Hid (wm.heap.size ≤ g3) := by
                 unfold Hid
                 rcases hlie3 with e | e
                 · simp only [Value.ownBlock, Option.some.injEq] at e; omega
                 · have := HG2.out.size; omega
               clear hown3 hgrow3 hlie3 hlt3
               clear d1
               have d2 := HW3.out.blk.cell 2 _ rfl))
          | (go_loud (refine wpList_append_full rfl _ _ 61 rfl w.heap.size 5 i _ 1 1 Tryd.underlying61 hi hz0 hz1 hz2 rfl ⟨w1.heap.size, 0, none⟩ 2 2 [.int .u8 87, .int .u8 49] rfl rfl HMK.out ⟨w1.heap.size + 1, 0, none⟩ 1 1 [.int .u8 names.length] rfl rfl (by rw [← hszm]; exact new_cells wm [.int .u8 names.length] 5) (by omega) (by unfold maxLen; omega) (by omega) (by simp; omega) (w1.heap.size + 1 + 1) (by simp [hszm]) ?_)
             intro k2 w2 hown2 hgrow2 hlt2
             go_loud (
               have HO2 : Hid (w2.ownsRow w.heap.size 5 1 (.slice (some ⟨w1.heap.size + 1 + 1, 0, none⟩) 3 k2) 3 (([87, 49, UInt8.ofNat names.length] : List UInt8).map byteV)) := by
                 unfold Hid
                 rw [← HF2.out, HB2.out]
                 exact hown2
               have HG2 : Hid (wm.grownBy w2 none) := gb_tr (gb_alloc _ _ _) hgrow2
               have HW2 : Hid (Wr w2 b mb mo (.slice (some ⟨pg, 0, none⟩) (poolBytes names).length pk) (.slice (some ⟨bg, 0, none⟩) body.length bk) (poolBytes names) body false) := HWa.out.keep HG2.out
               clear hown2 hgrow2 hlt2
               clear d0
               have d1 := HW2.out.blk.cell 1 _ rfl))))
    all_goals
      go_ret2
      have hgw : w.grownBy w4 none := gb_tr (gb_tr HK.out HGm.out) HG4.out
      rw [he.out]
      first
        | (rw [if_pos (by rw [hfl.out]; omega)]; exact ⟨rfl, hgw⟩)
        | (rw [if_neg (by rw [hfl.out]; omega)]; exact ⟨rfl, hgw⟩)
end Go.Proofs.YtdhophglnhcjbaaDoor
