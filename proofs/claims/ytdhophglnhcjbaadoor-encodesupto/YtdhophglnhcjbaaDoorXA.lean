/- The document's writer of class files as a plain function: a class becomes a row of tokens; these are written one behind the other. -/
import Derived.Test.YtdhophglnhcjbaaDoorGA
import Derived.Test.YtdhophglnhcjbaaDoorGH
set_option linter.unusedVariables false
set_option linter.unusedSimpArgs false
namespace Go.Proofs.YtdhophglnhcjbaaDoor
namespace Cf

structure XTy where
  kind : Int
  name : ByteArray
structure XFld where
  name : ByteArray
  ty : XTy
structure XIn where
  op : Int
  a : Int
  cls : ByteArray
  mem : ByteArray
structure XHd where
  from_ : Int
  to : Int
  at_ : Int
  cls : ByteArray
structure XMe where
  name : ByteArray
  params : List XTy
  ret : XTy
  stack : Int
  locals : Int
  code : List XIn
  handlers : List XHd
structure XCl where
  name : ByteArray
  super : ByteArray
  fields : List XFld
  methods : List XMe

/-- what is written: a number of so many bytes, a name's number; or what cannot be written -/
abbrev WTok := Option (Int × Nat ⊕ ByteArray)
abbrev WTok.num (n : Int) (w : Nat) : WTok := some (.inl (n, w))
abbrev WTok.nm (s : ByteArray) : WTok := some (.inr s)
abbrev WTok.bad : WTok := none

/-- the names so far, and what stands behind them -/
structure WS where
  names : List ByteArray
  out : List UInt8

/-- so many bytes of a number, the highest first -/
def beN : Nat → Nat → List UInt8
  | 0, _ => []
  | w + 1, n => UInt8.ofNat (n / 256 ^ w) :: beN w n
theorem beN_len : ∀ (w n : Nat), (beN w n).length = w
  | 0, _ => rfl
  | w + 1, n => by simp [beN, beN_len w n]

/-- where a name stands, or how many there are -/
def posOf (l : List ByteArray) (s : ByteArray) : Nat := l.findIdx fun x => decide (x = s)
def withName (l : List ByteArray) (s : ByteArray) : List ByteArray := if posOf l s < l.length then l else l ++ [s]

def wstep (t : WTok) (s : WS) : Option WS :=
  match t with
  | some (.inl (n, w)) => if 0 ≤ n ∧ n < 256 ^ w then some ⟨s.names, s.out ++ beN w n.toNat⟩ else none
  | some (.inr x) => if isName x ∧ posOf s.names x < 256 then some ⟨withName s.names x, s.out ++ [UInt8.ofNat (posOf s.names x)]⟩ else none
  | none => none
def wrun : List WTok → Option WS → Option WS
  | [], s => s
  | t :: l, s => wrun l (s.bind (wstep t))
theorem wrun_append (a b : List WTok) (s : Option WS) : wrun (a ++ b) s = wrun b (wrun a s) := by
  induction a generalizing s with
  | nil => rfl
  | cons t a ih => simp [wrun, ih]
theorem wrun_none (l : List WTok) : wrun l none = none := by
  induction l with
  | nil => rfl
  | cons t l ih => simpa [wrun] using ih

/-- a name that is needed, or none at all -/
def nameTok (b : Bool) (s : ByteArray) : List WTok := if b then [.nm s] else if s.size = 0 then [] else [.bad]
def kindTok (t : XTy) : List WTok := if 0 ≤ t.kind ∧ t.kind ≤ 4 then .num t.kind 1 :: nameTok (hasName t.kind.toNat) t.name else [.bad]
def fldTok (f : XFld) : List WTok := .nm f.name :: kindTok f.ty
/-- a number with a sign is written as the one that is 2 to the 32 above it -/
def aTok (w : Nat) (a : Int) : List WTok :=
  if w = 4 then (if -2147483648 ≤ a ∧ a ≤ 2147483647 then [.num (if a < 0 then a + 4294967296 else a) 4] else [.bad])
  else if w = 0 then (if a = 0 then [] else [.bad]) else [.num a w]
def insTok (i : XIn) : List WTok :=
  if 0 ≤ i.op ∧ i.op < 32 then .num i.op 1 :: (aTok (width i.op.toNat) i.a ++ nameTok (wantsC i.op.toNat) i.cls ++ nameTok (wantsM i.op.toNat) i.mem) else [.bad]
def hdTok (h : XHd) : List WTok := [.num h.from_ 2, .num h.to 2, .num h.at_ 2, .nm h.cls]
def listTok {α : Type} (w : Nat) (f : α → List WTok) (l : List α) : List WTok := .num l.length w :: l.flatMap f
def meTok (m : XMe) : List WTok := .nm m.name :: (listTok 1 kindTok m.params ++ kindTok m.ret ++ [.num m.stack 1, .num m.locals 1] ++ listTok 2 insTok m.code ++ listTok 1 hdTok m.handlers)
def clTok (c : XCl) : List WTok := .nm c.name :: .nm c.super :: (listTok 1 fldTok c.fields ++ listTok 1 meTok c.methods)

def poolBytes (l : List ByteArray) : List UInt8 := l.flatMap fun s => UInt8.ofNat s.size :: s.data.toList
/-- the file; or ErrValue; or ErrLong -/
def enc (c : XCl) : Except Nat (List UInt8) :=
  match wrun (clTok c) (some ⟨[], []⟩) with
  | none => .error 19
  | some s => if 255 < s.names.length then .error 19 else
    let file := [87, 49, UInt8.ofNat s.names.length] ++ poolBytes s.names ++ s.out
    if 2048 < file.length then .error 1 else .ok file

end Cf
end Go.Proofs.YtdhophglnhcjbaaDoor

namespace Go.Proofs.YtdhophglnhcjbaaDoor
open Go.RowKit Cf

/-- the reference's pen in memory -/
structure Pn (w : World) (b : Nat) (nv : Value) (out : ByteArray) (names : List ByteArray) (bad : Bool) : Prop where
  blk : Blk w b #[.string out, nv, .bool bad] 56
  own : w.ownsRow (b + 1) 9 1 nv names.length (names.map Value.string)
set_option maxHeartbeats 400000 in
theorem pnumber_no (w : World) (b : Nat) (nv : Value) (out : ByteArray) (names : List ByteArray) (bad : Bool) (n : Int) (m : Nat) (hm : m = 1 ∨ m = 2 ∨ m = 4) (hn : -9223372036854775808 ≤ n ∧ n ≤ 9223372036854775807) (h : Hid (Pn w b nv out names bad)) (hr : ¬ (0 ≤ n ∧ n < 256 ^ m)) :
    Calls Tryd.prog 15 #[.pointer (some ⟨b, 0, none⟩), .int .i64 n, .int .i64 m] w fun e w' => e = .returned (.tuple #[]) ∧ w.grownBy w' (some b) ∧ Pn w' b nv out names true := by
  have hP := h.out
  have c2 := hP.blk.cell 2 _ rfl
  have z2 := hP.blk.frozen 2
  have HF : Hid (Pn (w.setCell ⟨b, 2, none⟩ (.bool true)) b nv out names true) := ⟨hP.blk.set 2 _, hP.own.kept (gb_set w ⟨b, 2, none⟩ _) (.inr (own_ne hP.own (Nat.lt_succ_self _)))⟩
  clear hP
  rcases hm with rfl | rfl | rfl
  · have hr' : n < 0 ∨ 256 ≤ n := by omega
    clear hr
    go_enter Tryd.func15, Tryd.ntmps15
    rcases hr' with hr' | hr'
    all_goals
      go_wp2_with fail
      all_goals
        refine bodyPost_ret (results_none rfl _ _ _) rfl ?_
        exact ⟨rfl, gb_set _ ⟨b, 2, none⟩ _, HF.out⟩
  · have hr' : n < 0 ∨ 65536 ≤ n := by omega
    clear hr
    go_enter Tryd.func15, Tryd.ntmps15
    rcases hr' with hr' | hr'
    all_goals
      go_wp2_with fail
      all_goals
        refine bodyPost_ret (results_none rfl _ _ _) rfl ?_
        exact ⟨rfl, gb_set _ ⟨b, 2, none⟩ _, HF.out⟩
  · have hr' : n < 0 ∨ 4294967296 ≤ n := by omega
    clear hr
    go_enter Tryd.func15, Tryd.ntmps15
    rcases hr' with hr' | hr'
    all_goals
      go_wp2_with fail
      all_goals
        refine bodyPost_ret (results_none rfl _ _ _) rfl ?_
        exact ⟨rfl, gb_set _ ⟨b, 2, none⟩ _, HF.out⟩

/-- one byte as a string -/
theorem conv_one (W : World) (z : Int) (T : TypeId) : (convert 61 9 (.slice (some ⟨W.heap.size, 0, none⟩) 1 1)).run Tryd.prog (W.alloc (.cells #[.int .u8 z] T)).drew = .ok (.string ⟨#[UInt8.ofNat z.toNat]⟩) (W.alloc (.cells #[.int .u8 z] T)).drew := by
  rw [run_convert_bytes_string _ 61 9 5 _ 1 1 Tryd.underlying61 Tryd.underlying5 Tryd.underlying9]
  have hl := run_loadCells_list (P := Tryd.prog) (W.alloc (.cells #[.int .u8 z] T)).drew ⟨W.heap.size, 0, none⟩ [.int .u8 z] (fun j v hj => by
    have hj0 : j = 0 := by
      have := (List.getElem?_eq_some_iff.1 hj).1
      simp at this; omega
    subst hj0
    have := (Blk.new W #[.int .u8 z] T).cell 0 _ rfl
    simp at hj
    subst hj
    exact this)
  exact run_bytesToString _ _ 1 1 [z] hl

/-- a string and bytes behind it -/
def apB (out : ByteArray) (l : List UInt8) : ByteArray := ⟨(out.data.toList ++ l).toArray⟩

theorem apB_size (out : ByteArray) (l : List UInt8) : (apB out l).size = out.size + l.length := by
  unfold apB ByteArray.size
  simp
theorem apB_snoc (out : ByteArray) (l : List UInt8) (x : UInt8) : apB out l ++ ⟨#[x]⟩ = apB out (l ++ [x]) := by
  unfold apB
  apply ByteArray.ext
  simp

/-- a string turns, a new block beside it -/
theorem Pn.put {w : World} {b : Nat} {nv : Value} {cur : ByteArray} {names : List ByteArray} {bad : Bool} (h : Pn w b nv cur names bad) (s' : ByteArray) (o : Obj) :
    Pn (((w.setCell ⟨b, 0, none⟩ (.string s')).alloc o).drew) b nv s' names bad ∧ w.grownBy (((w.setCell ⟨b, 0, none⟩ (.string s')).alloc o).drew) (some b) := by
  have hg : (w.setCell ⟨b, 0, none⟩ (.string s')).grownBy (((w.setCell ⟨b, 0, none⟩ (.string s')).alloc o).drew) none := gb_tr (gb_alloc _ _ _) (gb_drew _ _)
  exact ⟨⟨(h.blk.set 0 _).keep hg (by simp), (h.own.kept (gb_set w ⟨b, 0, none⟩ _) (.inr (own_ne h.own (Nat.lt_succ_self _)))).kept hg (by cases nv.ownBlock <;> simp)⟩, gb_tn (gb_set w ⟨b, 0, none⟩ _) hg⟩
theorem u8mod (x : Nat) : UInt8.ofNat (x % 256) = UInt8.ofNat x := by
  apply UInt8.toNat_inj.1
  simp

set_option maxHeartbeats 400000 in
theorem pnumber_yes1 (w : World) (b : Nat) (nv : Value) (out : ByteArray) (names : List ByteArray) (bad : Bool) (n : Nat) (h : Hid (Pn w b nv out names bad)) (hr : n < 256) (hz : out.size ≤ 2 ^ 43) :
    Calls Tryd.prog 15 #[.pointer (some ⟨b, 0, none⟩), .int .i64 n, .int .i64 1] w fun e w' => e = .returned (.tuple #[]) ∧ w.grownBy w' (some b) ∧ Pn w' b nv (apB out (beN 1 n)) names bad := by
  have kc := conv_one
  go_enter Tryd.func15, Tryd.ntmps15
  go_wp2_with fail
  go_loopw [6] (fun i wr => ∃ j : Nat, j ≤ 1 ∧ i = .int .i64 ((j : Int) - 1) ∧ Pn wr b nv (apB out ((beN 1 n).take (1 - j))) names bad ∧ w.grownBy wr (some b)) (fun i _ => (intOf i + 1).toNat)
  case atStart => exact ⟨1, by omega, rfl, by simpa [apB] using h.out, gb_refl _ _⟩
  case round =>
    obtain ⟨j, hj, rfl, hP, hg⟩ := hrel
    have HG : Hid (w.grownBy wr (some b)) := hg
    obtain ⟨cur, hcur⟩ : ∃ cur, cur = apB out ((beN 1 n).take (1 - j)) := ⟨_, rfl⟩
    have hcs : cur.size ≤ 17592186044416 := by rw [hcur, apB_size]; simp [beN_len]; omega
    rw [← hcur] at hP
    have HC : Hid (cur = apB out ((beN 1 n).take (1 - j))) := hcur
    clear hcur
    have c0 := hP.blk.cell 0 _ rfl
    have z0 := hP.blk.frozen 0
    have hbl : b < wr.heap.size := hP.blk.lt
    have hne : wr.heap.size ≠ b := by omega
    have HQ : Hid (Pn wr b nv cur names bad) := hP
    clear hP hg
    have hj5 : j = 0 ∨ j = 1 := by omega
    rcases hj5 with rfl | rfl
    · go_wp2_with fail
      go_end0
      have := HQ.out
      rw [HC.out, List.take_of_length_le (by simp [beN_len])] at this
      exact ⟨rfl, HG.out, this⟩
    · have e : cur ++ ⟨#[UInt8.ofNat (n)]⟩ = apB out ((beN 1 n).take (1 - 0)) := by rw [HC.out, apB_snoc]; first | rfl | simp [beN]
      have HE : Hid (cur ++ ⟨#[UInt8.ofNat (n)]⟩ = apB out ((beN 1 n).take (1 - 0))) := e
      clear e
      go_wp2_with fail
      go_region
      go_wp2_with fail
      refine ⟨⟨0, by omega, rfl, ?_, gb_tr HG.out (HQ.out.put _ _).2⟩, by simp [intOf]⟩
      rw [← HE.out]
      exact (HQ.out.put _ _).1

set_option maxHeartbeats 400000 in
theorem pnumber_yes2 (w : World) (b : Nat) (nv : Value) (out : ByteArray) (names : List ByteArray) (bad : Bool) (n : Nat) (h : Hid (Pn w b nv out names bad)) (hr : n < 65536) (hz : out.size ≤ 2 ^ 43) :
    Calls Tryd.prog 15 #[.pointer (some ⟨b, 0, none⟩), .int .i64 n, .int .i64 2] w fun e w' => e = .returned (.tuple #[]) ∧ w.grownBy w' (some b) ∧ Pn w' b nv (apB out (beN 2 n)) names bad := by
  have kc := conv_one
  go_enter Tryd.func15, Tryd.ntmps15
  go_wp2_with fail
  go_loopw [6] (fun i wr => ∃ j : Nat, j ≤ 2 ∧ i = .int .i64 ((j : Int) - 1) ∧ Pn wr b nv (apB out ((beN 2 n).take (2 - j))) names bad ∧ w.grownBy wr (some b)) (fun i _ => (intOf i + 1).toNat)
  case atStart => exact ⟨2, by omega, rfl, by simpa [apB] using h.out, gb_refl _ _⟩
  case round =>
    obtain ⟨j, hj, rfl, hP, hg⟩ := hrel
    have HG : Hid (w.grownBy wr (some b)) := hg
    obtain ⟨cur, hcur⟩ : ∃ cur, cur = apB out ((beN 2 n).take (2 - j)) := ⟨_, rfl⟩
    have hcs : cur.size ≤ 17592186044416 := by rw [hcur, apB_size]; simp [beN_len]; omega
    rw [← hcur] at hP
    have HC : Hid (cur = apB out ((beN 2 n).take (2 - j))) := hcur
    clear hcur
    have c0 := hP.blk.cell 0 _ rfl
    have z0 := hP.blk.frozen 0
    have hbl : b < wr.heap.size := hP.blk.lt
    have hne : wr.heap.size ≠ b := by omega
    have HQ : Hid (Pn wr b nv cur names bad) := hP
    clear hP hg
    have hj5 : j = 0 ∨ j = 1 ∨ j = 2 := by omega
    rcases hj5 with rfl | rfl | rfl
    · go_wp2_with fail
      go_end0
      have := HQ.out
      rw [HC.out, List.take_of_length_le (by simp [beN_len])] at this
      exact ⟨rfl, HG.out, this⟩
    · have e : cur ++ ⟨#[UInt8.ofNat (n % 256)]⟩ = apB out ((beN 2 n).take (2 - 0)) := by rw [HC.out, apB_snoc, u8mod]; first | rfl | simp [beN]
      have HE : Hid (cur ++ ⟨#[UInt8.ofNat (n % 256)]⟩ = apB out ((beN 2 n).take (2 - 0))) := e
      clear e
      go_wp2_with fail
      go_region
      go_wp2_with fail
      refine ⟨⟨0, by omega, rfl, ?_, gb_tr HG.out (HQ.out.put _ _).2⟩, by simp [intOf]⟩
      rw [← HE.out]
      exact (HQ.out.put _ _).1
    · have e : cur ++ ⟨#[UInt8.ofNat (n / 256)]⟩ = apB out ((beN 2 n).take (2 - 1)) := by rw [HC.out, apB_snoc]; first | rfl | simp [beN]
      have HE : Hid (cur ++ ⟨#[UInt8.ofNat (n / 256)]⟩ = apB out ((beN 2 n).take (2 - 1))) := e
      clear e
      go_wp2_with fail
      go_region
      go_wp2_with fail
      refine ⟨⟨1, by omega, rfl, ?_, gb_tr HG.out (HQ.out.put _ _).2⟩, by simp [intOf]⟩
      rw [← HE.out]
      exact (HQ.out.put _ _).1

set_option maxHeartbeats 400000 in
theorem pnumber_yes4 (w : World) (b : Nat) (nv : Value) (out : ByteArray) (names : List ByteArray) (bad : Bool) (n : Nat) (h : Hid (Pn w b nv out names bad)) (hr : n < 4294967296) (hz : out.size ≤ 2 ^ 43) :
    Calls Tryd.prog 15 #[.pointer (some ⟨b, 0, none⟩), .int .i64 n, .int .i64 4] w fun e w' => e = .returned (.tuple #[]) ∧ w.grownBy w' (some b) ∧ Pn w' b nv (apB out (beN 4 n)) names bad := by
  have kc := conv_one
  go_enter Tryd.func15, Tryd.ntmps15
  go_wp2_with fail
  go_loopw [6] (fun i wr => ∃ j : Nat, j ≤ 4 ∧ i = .int .i64 ((j : Int) - 1) ∧ Pn wr b nv (apB out ((beN 4 n).take (4 - j))) names bad ∧ w.grownBy wr (some b)) (fun i _ => (intOf i + 1).toNat)
  case atStart => exact ⟨4, by omega, rfl, by simpa [apB] using h.out, gb_refl _ _⟩
  case round =>
    obtain ⟨j, hj, rfl, hP, hg⟩ := hrel
    have HG : Hid (w.grownBy wr (some b)) := hg
    obtain ⟨cur, hcur⟩ : ∃ cur, cur = apB out ((beN 4 n).take (4 - j)) := ⟨_, rfl⟩
    have hcs : cur.size ≤ 17592186044416 := by rw [hcur, apB_size]; simp [beN_len]; omega
    rw [← hcur] at hP
    have HC : Hid (cur = apB out ((beN 4 n).take (4 - j))) := hcur
    clear hcur
    have c0 := hP.blk.cell 0 _ rfl
    have z0 := hP.blk.frozen 0
    have hbl : b < wr.heap.size := hP.blk.lt
    have hne : wr.heap.size ≠ b := by omega
    have HQ : Hid (Pn wr b nv cur names bad) := hP
    clear hP hg
    have hj5 : j = 0 ∨ j = 1 ∨ j = 2 ∨ j = 3 ∨ j = 4 := by omega
    rcases hj5 with rfl | rfl | rfl | rfl | rfl
    · go_wp2_with fail
      go_end0
      have := HQ.out
      rw [HC.out, List.take_of_length_le (by simp [beN_len])] at this
      exact ⟨rfl, HG.out, this⟩
    · have e : cur ++ ⟨#[UInt8.ofNat (n % 256)]⟩ = apB out ((beN 4 n).take (4 - 0)) := by rw [HC.out, apB_snoc, u8mod]; first | rfl | simp [beN]
      have HE : Hid (cur ++ ⟨#[UInt8.ofNat (n % 256)]⟩ = apB out ((beN 4 n).take (4 - 0))) := e
      clear e
      go_wp2_with fail
      go_region
      go_wp2_with fail
      refine ⟨⟨0, by omega, rfl, ?_, gb_tr HG.out (HQ.out.put _ _).2⟩, by simp [intOf]⟩
      rw [← HE.out]
      exact (HQ.out.put _ _).1
    · have e : cur ++ ⟨#[UInt8.ofNat (n / 256 % 256)]⟩ = apB out ((beN 4 n).take (4 - 1)) := by rw [HC.out, apB_snoc, u8mod]; first | rfl | simp [beN]
      have HE : Hid (cur ++ ⟨#[UInt8.ofNat (n / 256 % 256)]⟩ = apB out ((beN 4 n).take (4 - 1))) := e
      clear e
      go_wp2_with fail
      go_region
      go_wp2_with fail
      refine ⟨⟨1, by omega, rfl, ?_, gb_tr HG.out (HQ.out.put _ _).2⟩, by simp [intOf]⟩
      rw [← HE.out]
      exact (HQ.out.put _ _).1
    · have e : cur ++ ⟨#[UInt8.ofNat (n / 65536 % 256)]⟩ = apB out ((beN 4 n).take (4 - 2)) := by rw [HC.out, apB_snoc, u8mod]; first | rfl | simp [beN]
      have HE : Hid (cur ++ ⟨#[UInt8.ofNat (n / 65536 % 256)]⟩ = apB out ((beN 4 n).take (4 - 2))) := e
      clear e
      go_wp2_with fail
      go_region
      go_wp2_with fail
      refine ⟨⟨2, by omega, rfl, ?_, gb_tr HG.out (HQ.out.put _ _).2⟩, by simp [intOf]⟩
      rw [← HE.out]
      exact (HQ.out.put _ _).1
    · have e : cur ++ ⟨#[UInt8.ofNat (n / 16777216)]⟩ = apB out ((beN 4 n).take (4 - 3)) := by rw [HC.out, apB_snoc]; first | rfl | simp [beN]
      have HE : Hid (cur ++ ⟨#[UInt8.ofNat (n / 16777216)]⟩ = apB out ((beN 4 n).take (4 - 3))) := e
      clear e
      go_wp2_with fail
      go_region
      go_wp2_with fail
      refine ⟨⟨3, by omega, rfl, ?_, gb_tr HG.out (HQ.out.put _ _).2⟩, by simp [intOf]⟩
      rw [← HE.out]
      exact (HQ.out.put _ _).1

/-- what a pen's call may change: its own block, and rows of strings behind it -/
def penMay (w : World) (b k : Nat) : Prop := k = b ∨ (b < k ∧ ∃ cs fr, w.heap[k]? = some (.cells cs 9 fr))
structure KeptP (w w' : World) (b : Nat) : Prop where
  os : w'.os = w.os
  tape : w'.tape = w.tape
  output : w'.output = w.output
  size : w.heap.size ≤ w'.heap.size
  block : ∀ k, k < w.heap.size → ¬ penMay w b k → w'.heap[k]? = w.heap[k]?
theorem KeptP.refl (w : World) (b : Nat) : KeptP w w b := ⟨rfl, rfl, rfl, Nat.le_refl _, fun _ _ _ => rfl⟩
theorem KeptP.trans {w w1 w2 : World} {b : Nat} (h : KeptP w w1 b) (h1 : KeptP w1 w2 b) : KeptP w w2 b :=
  ⟨h1.os.trans h.os, h1.tape.trans h.tape, h1.output.trans h.output, Nat.le_trans h.size h1.size, fun k hk hm => by
    have e := h.block k hk hm
    refine (h1.block k (Nat.lt_of_lt_of_le hk h.size) (fun hm1 => hm ?_)).trans e
    rcases hm1 with h2 | ⟨h2, cs, fr, h3⟩
    · exact .inl h2
    · exact .inr ⟨h2, cs, fr, by rw [← e]; exact h3⟩⟩
theorem KeptP.of {w w' : World} {b : Nat} {row : Option Nat} (h : w.grownBy w' row) (hr : ∀ k, row = some k → k < w.heap.size → penMay w b k) : KeptP w w' b :=
  ⟨h.os, h.tape, h.output, h.size, fun k hk hm => h.block k hk (fun e => hm (hr k e.symm hk))⟩
theorem KeptP.ofNone {w w' : World} {b : Nat} (h : w.grownBy w' none) : KeptP w w' b := KeptP.of h (fun _ e => by cases e)
theorem KeptP.ofB {w w' : World} {b : Nat} (h : w.grownBy w' (some b)) : KeptP w w' b := KeptP.of h (fun k e _ => .inl (by cases e; rfl))
theorem KeptP.blk {w w' : World} {b g : Nat} {cs : Array Value} {t : TypeId} (h : KeptP w w' b) (hb : Blk w g cs t) (hg : g ≠ b) (ht : t ≠ 9) : Blk w' g cs t :=
  (h.block g hb.lt (fun hm => by
    rcases hm with h2 | ⟨_, cs', fr, h3⟩
    · exact hg h2
    · have : some (Obj.cells cs t (0, 0)) = some (Obj.cells cs' 9 fr) := by rw [← h3]; exact hb.symm
      simp at this
      exact ht this.2.1)).trans hb
theorem KeptP.cell {w w' : World} {b : Nat} {a : Addr} {v : Value} (h : KeptP w w' b) (hc : w.cell? a = some v) (ha : a.block < b) (hb : b < w.heap.size) : w'.cell? a = some v := by
  rw [World.cell?_of_block (h.block a.block (by omega) (fun hm => by rcases hm with h2 | ⟨h2, _⟩ <;> omega))]
  exact hc

/-- the pen behind k steps, with what the plain writer has -/
def PnS (w : World) (b : Nat) (k : Nat) (r : Option WS) : Prop :=
  ∃ nv out names bad, Pn w b nv out names bad ∧ out.size ≤ 4 * k ∧ names.length ≤ k ∧ k ≤ 2 ^ 40 ∧
    (∀ s, r = some s → out.data.toList = s.out ∧ names = s.names ∧ bad = false) ∧ (r = none → bad = true)
theorem PnS.mono {w : World} {b k k' : Nat} {r : Option WS} (h : PnS w b k r) (hk : k ≤ k') (h2 : k' ≤ 2 ^ 40) : PnS w b k' r := by
  obtain ⟨nv, out, names, bad, hP, h1, h3, h4, h5, h6⟩ := h
  exact ⟨nv, out, names, bad, hP, by omega, by omega, h2, h5, h6⟩
/-- a world that only grew keeps the pen -/
theorem Pn.keep {w w' : World} {b : Nat} {nv : Value} {out : ByteArray} {names : List ByteArray} {bad : Bool} (h : Pn w b nv out names bad) (hg : w.grownBy w' none) : Pn w' b nv out names bad :=
  ⟨h.blk.keep hg (by simp), h.own.kept hg (by cases nv.ownBlock <;> simp)⟩
theorem PnS.keep {w w' : World} {b k : Nat} {r : Option WS} (h : PnS w b k r) (hg : w.grownBy w' none) : PnS w' b k r := by
  obtain ⟨nv, out, names, bad, hP, h1⟩ := h
  exact ⟨nv, out, names, bad, hP.keep hg, h1⟩
theorem PnS.lt {w : World} {b k : Nat} {r : Option WS} (h : PnS w b k r) : b < w.heap.size := by
  obtain ⟨nv, out, names, bad, hP, h1⟩ := h
  exact hP.blk.lt

/-- a number is written, or the pen is bad -/
theorem pnumber_any (w : World) (b : Nat) (k : Nat) (r : Option WS) (n : Int) (m : Nat) (hm : m = 1 ∨ m = 2 ∨ m = 4) (hn : -9223372036854775808 ≤ n ∧ n ≤ 9223372036854775807) (h : Hid (PnS w b k r)) (hk : k + 1 ≤ 2 ^ 40) :
    Calls Tryd.prog 15 #[.pointer (some ⟨b, 0, none⟩), .int .i64 n, .int .i64 m] w fun e w' => e = .returned (.tuple #[]) ∧ KeptP w w' b ∧ PnS w' b (k + 1) (r.bind (wstep (.num n m))) := by
  obtain ⟨nv, out, names, bad, hP, h1, h2, h3, h4, h5⟩ := h.out
  by_cases hr : 0 ≤ n ∧ n < 256 ^ m
  · obtain ⟨x, rfl⟩ : ∃ x : Nat, n = x := ⟨n.toNat, by omega⟩
    have key : Calls Tryd.prog 15 #[.pointer (some ⟨b, 0, none⟩), .int .i64 x, .int .i64 m] w fun e w' => e = .returned (.tuple #[]) ∧ w.grownBy w' (some b) ∧ Pn w' b nv (apB out (beN m x)) names bad := by
      rcases hm with rfl | rfl | rfl
      · exact pnumber_yes1 w b nv out names bad x hP (by omega) (by omega)
      · exact pnumber_yes2 w b nv out names bad x hP (by omega) (by omega)
      · exact pnumber_yes4 w b nv out names bad x hP (by omega) (by omega)
    refine key.mono ?_
    rintro e w' ⟨rfl, hg, hP'⟩
    have hm4 : m ≤ 4 := by omega
    refine ⟨rfl, .ofB hg, nv, apB out (beN m x), names, bad, hP', by rw [apB_size, beN_len]; omega, by omega, hk, ?_, ?_⟩
    · intro s hs
      cases r with
      | none => cases hs
      | some s0 =>
        obtain ⟨g1, g2, g3⟩ := h4 s0 rfl
        simp only [Option.bind_some, wstep, hr, and_self, if_true, Option.some.injEq] at hs
        subst hs
        exact ⟨by simp [apB, g1], g2, g3⟩
    · intro hs
      cases r with
      | none => exact h5 rfl
      | some s0 => simp [wstep, hr] at hs
  · refine (pnumber_no w b nv out names bad n m hm hn hP hr).mono ?_
    rintro e w' ⟨rfl, hg, hP'⟩
    refine ⟨rfl, .ofB hg, nv, out, names, true, hP', by omega, by omega, hk, ?_, fun _ => rfl⟩
    intro s hs
    cases r with
    | none => cases hs
    | some s0 => simp [wstep, hr] at hs
end Go.Proofs.YtdhophglnhcjbaaDoor

namespace Go.Proofs.YtdhophglnhcjbaaDoor
open Go.RowKit Cf

set_option maxHeartbeats 400000 in
theorem eisNameX_any (s : ByteArray) (w : World) (hs : s.size ≤ 1099511627776) :
    Calls Tryd.prog 28 #[.string s] w fun e w' => e = .returned (.bool (isName s)) ∧ w = w' := by
  go_enter Tryd.func28, Tryd.ntmps28
  go_wp2_with fail
  go_loop [3] (fun i => ∃ k : Nat, k ≤ s.size ∧ i = .int .i64 k ∧ Hid (∀ j (hj : j < s.size), j < k → nameByte s.data[j] = true)) (fun i => s.size - (intOf i).toNat)
  case atStart => exact ⟨0, by omega, rfl, fun j hj h => by omega⟩
  case round =>
    obtain ⟨k, hk, rfl, hall⟩ := hrel
    by_cases hlt : k < s.size
    · obtain ⟨a, ha⟩ : ∃ a, (s[k]'hlt).toNat = a := ⟨_, rfl⟩
      have HA : Hid ((s[k]'hlt).toNat = a) := ha
      have hkey : Hid ((97 ≤ a ∧ a ≤ 122 ∨ 65 ≤ a ∧ a ≤ 90 ∨ 48 ≤ a ∧ a ≤ 57) → ∀ j (hj : j < s.size), j < k + 1 → nameByte s.data[j] = true) := by
        intro h j hj hk
        by_cases e : j = k
        · subst e; exact name_yes _ HA.out h
        · exact hall.out j hj (by omega)
      have hend : Hid (s.size - (intOf (Value.int IntKind.i64 ((k : Int) + 1))).toNat < s.size - (intOf (Value.int IntKind.i64 (k : Int))).toNat) := by unfold Hid; simp [intOf]; omega
      by_cases hyes : 97 ≤ a ∧ a ≤ 122 ∨ 65 ≤ a ∧ a ≤ 90 ∨ 48 ≤ a ∧ a ≤ 57
      · have HY : Hid (97 ≤ a ∧ a ≤ 122 ∨ 65 ≤ a ∧ a ≤ 90 ∨ 48 ≤ a ∧ a ≤ 57) := hyes
        clear hyes
        go_wp2_with fail
        all_goals first
          | exact ⟨⟨k + 1, hlt, by go_num, hkey.out HY.out⟩, hend.out⟩
          | (exfalso; have := HY.out; try simp only [Bool.not_eq_true', decide_eq_false_iff_not] at *
             omega)
      · have HN : Hid (¬ (97 ≤ a ∧ a ≤ 122 ∨ 65 ≤ a ∧ a ≤ 90 ∨ 48 ≤ a ∧ a ≤ 57)) := hyes
        clear hyes
        go_wp2_with fail
        all_goals first
          | (go_ret; exact ⟨by rw [isName_not k hlt (name_no _ HA.out HN.out)]; rfl, rfl⟩)
          | (exfalso; have := HN.out; try simp only [Bool.not_eq_false', decide_eq_true_eq] at *
             omega)
    · go_wp2_with fail
      all_goals
        go_ret
        refine ⟨congrArg (fun x => Ending.returned (.bool x)) ?_, rfl⟩
        have hA : s.data.toList.all nameByte = true := by
          simp only [List.all_eq_true]
          intro c hc
          obtain ⟨j, hj, rfl⟩ := List.getElem_of_mem hc
          exact hall.out j (by simpa using hj) (by simp at hj; have : s.data.size = s.size := rfl; omega)
        simp only [isName, hA, Bool.and_true]
        by_cases q1 : 1 ≤ s.size <;> by_cases q2 : s.size ≤ 12 <;> simp [q1, q2] <;> omega
end Go.Proofs.YtdhophglnhcjbaaDoor

namespace Go.Proofs.YtdhophglnhcjbaaDoor
open Go.RowKit Cf

theorem posOf_le (l : List ByteArray) (s : ByteArray) : posOf l s ≤ l.length := List.findIdx_le_length
theorem posOf_at {l : List ByteArray} {s : ByteArray} {j : Nat} (hj : j < l.length) (h : l.getD j ByteArray.empty = s) (h0 : ∀ i, i < j → l.getD i ByteArray.empty ≠ s) : posOf l s = j := by
  unfold posOf
  rw [List.findIdx_eq hj]
  refine ⟨by simpa [List.getD, hj] using h, fun i hi => ?_⟩
  have := h0 i hi
  simpa [List.getD, show i < l.length by omega] using this
theorem posOf_none {l : List ByteArray} {s : ByteArray} (h0 : ∀ i, i < l.length → l.getD i ByteArray.empty ≠ s) : posOf l s = l.length := by
  unfold posOf
  rw [List.findIdx_eq_length]
  intro x hx
  obtain ⟨i, hi, rfl⟩ := List.getElem_of_mem hx
  have := h0 i hi
  simpa [List.getD, hi] using this

/-- a name's two steps make one -/
theorem nm_step {s : ByteArray} (hs : isName s = true) (r : Option WS) (names : List ByteArray) (hr : ∀ s0, r = some s0 → names = s0.names) (j : Nat) (hj : posOf names s = j) :
    (r.map fun s0 => (⟨withName s0.names s, s0.out⟩ : WS)).bind (wstep (.num (j : Int) 1)) = r.bind (wstep (.nm s)) := by
  cases r with
  | none => simp
  | some s0 =>
    cases hr s0 rfl
    subst hj
    obtain ⟨j, hj⟩ : ∃ j, j = posOf s0.names s := ⟨_, rfl⟩
    simp only [Option.map_some, Option.bind_some, wstep, hs, true_and, ← hj]
    by_cases h : j < 256
    · have h1 : (0 : Int) ≤ (j : Int) ∧ (j : Int) < 256 ^ 1 := ⟨by omega, by rw [Int.pow_one]; omega⟩
      rw [if_pos h1, if_pos h]
      simp [beN]
    · have h1 : ¬ ((0 : Int) ≤ (j : Int) ∧ (j : Int) < 256 ^ 1) := by
        intro hh
        have := hh.2
        rw [Int.pow_one] at this
        omega
      rw [if_neg h1, if_neg h]

/-- the pen behind the look for a name -/
theorem PnS.named {w : World} {b k : Nat} {r : Option WS} {nv : Value} {out : ByteArray} {names : List ByteArray} {bad : Bool} {s : ByteArray} (hP : Pn w b nv out (withName names s) bad) (h1 : out.size ≤ 4 * k) (h2 : names.length ≤ k) (hk : k + 1 ≤ 2 ^ 40)
    (hR : (∀ s, r = some s → out.data.toList = s.out ∧ names = s.names ∧ bad = false) ∧ (r = none → bad = true)) : PnS w b (k + 1) (r.map fun s0 => (⟨withName s0.names s, s0.out⟩ : WS)) := by
  refine ⟨nv, out, _, bad, hP, by omega, ?_, hk, ?_, ?_⟩
  · unfold withName; split <;> (try simp) <;> omega
  · intro s1 hs1
    cases r with
    | none => cases hs1
    | some s0 =>
      obtain ⟨g1, g2, g3⟩ := hR.1 s0 rfl
      simp only [Option.map_some, Option.some.injEq] at hs1
      subst hs1
      exact ⟨g1, by rw [g2], g3⟩
  · intro hs1
    cases r with
    | none => exact hR.2 rfl
    | some s0 => cases hs1

/-- a row of the pen's own may change -/
theorem own_may {w : World} {b sz n : Nat} {v : Value} {cs : List Value} (h : w.ownsRow (b + 1) 9 sz v n cs) : ∀ k, v.ownBlock = some k → penMay w b k := by
  intro k hk
  rcases h.2 with ⟨rfl, _⟩ | ⟨g, cap, cur, rfl, hb, hg, _⟩
  · simp [Value.ownBlock] at hk
  · simp only [Value.ownBlock, Option.some.injEq] at hk
    subst hk
    exact .inr ⟨by omega, _, _, hg⟩

set_option maxRecDepth 100000 in
set_option maxHeartbeats 1000000 in
theorem pname_any (w : World) (b : Nat) (k : Nat) (r : Option WS) (s : ByteArray) (hs : s.size ≤ 1099511627776) (h : Hid (PnS w b k r)) (hk : k + 2 ≤ 2 ^ 40) :
    Calls Tryd.prog 14 #[.pointer (some ⟨b, 0, none⟩), .string s] w fun e w' => e = .returned (.tuple #[]) ∧ KeptP w w' b ∧ PnS w' b (k + 2) (r.bind (wstep (.nm s))) := by
  obtain ⟨nv, out, names, bad, hP, h1, h2, h3, h4, h5⟩ := h.out
  have HR : Hid ((∀ s, r = some s → out.data.toList = s.out ∧ names = s.names ∧ bad = false) ∧ (r = none → bad = true)) := ⟨h4, h5⟩
  have HP : Hid (Pn w b nv out names bad) := hP
  have hbl : b < w.heap.size := hP.blk.lt
  have hnl : names.length ≤ 1099511627776 := by omega
  clear h4 h5
  by_cases hn : isName s = true
  · obtain ⟨a, kk, rfl⟩ := own_slice hP.own
    have c1 := hP.blk.cell 1 _ rfl
    have z1 := hP.blk.frozen 1
    have HC : Hid (∀ j, j < names.length → ∃ g, a = some ⟨g, 0, none⟩ ∧ w.cell? ⟨g, j, none⟩ = some (.string (names.getD j ByteArray.empty))) := by
      intro j hj
      rcases own_strs hP.own with ⟨-, h2⟩ | ⟨g, cap, h1, -, hc⟩
      · rw [h2] at hj; cases hj
      · exact ⟨g, by injection h1, hc j hj⟩
    clear hP
    go_enter Tryd.func14, Tryd.ntmps14
    go_wp2_with (go_at_call 28; refine (eisNameX_any s _ hs).mono ?_; rintro e w' ⟨rfl, rfl⟩; try dsimp only)
    have hn256 := hn
    go_loop [5] (fun i => ∃ j : Nat, j ≤ names.length ∧ i = .int .i64 j ∧ Hid (∀ i, i < j → names.getD i ByteArray.empty ≠ s)) (fun i => names.length - (intOf i).toNat)
    case atStart => exact ⟨0, Nat.zero_le _, rfl, fun i hi => by omega⟩
    case round =>
      obtain ⟨j, hj, rfl, hall⟩ := hrel
      by_cases hlt : j < names.length
      · obtain ⟨g, rfl, hc⟩ := HC.out j hlt
        by_cases e : names.getD j ByteArray.empty = s
        · rw [e] at hc
          have HPO : Hid (posOf names s = j) := posOf_at hlt e hall.out
          clear e
          have HW : Hid (withName names s = names) := by unfold withName Hid; rw [HPO.out, if_pos hlt]
          have HS1 : Hid (PnS w b (k + 1) (r.map fun s0 => (⟨withName s0.names s, s0.out⟩ : WS))) := PnS.named (by rw [HW.out]; exact HP.out) h1 h2 (by omega) HR.out
          go_wp2_with (go_at_call 15; refine (pnumber_any w b (k + 1) _ (j : Int) 1 (by omega) (by omega) HS1 (by omega)).mono ?_; rintro e w' ⟨rfl, hk1, hp1⟩; try dsimp only)
          go_end0
          rw [nm_step hn r names (fun s0 e0 => (HR.out.1 s0 e0).2.1) j HPO.out] at hp1
          exact ⟨rfl, hk1, hp1⟩
        · have HN : Hid (∀ i, i < j + 1 → names.getD i ByteArray.empty ≠ s) := by
            intro i hi
            by_cases ei : i = j
            · rw [ei]; exact e
            · exact hall.out i (by omega)
          have hx : (names[j].toList == s.toList) = false := by
            cases hb : (names[j].toList == s.toList) with
            | false => rfl
            | true => exact absurd (bytes_eq hb) (by simpa [List.getD, hlt] using e)
          clear e
          go_wp2_with fail
          exact ⟨⟨j + 1, hlt, by go_num, HN⟩, by simp [intOf]; omega⟩
      · have hje : j = names.length := by omega
        subst hje
        obtain ⟨i, hi, hz0, hz1, hz2⟩ := info_parts info_Str
        have HPO : Hid (posOf names s = names.length) := posOf_none hall.out
        have HW : Hid (withName names s = names ++ [s]) := by unfold withName Hid; rw [HPO.out, if_neg (by omega)]
        have HO : Hid (w.ownsRow (b + 1) 9 1 (.slice a names.length kk) names.length (names.map Value.string)) := HP.out.own
        go_wp2_with (at_builtin; go_loud (refine wpList_append_own _ rfl _ _ 54 rfl (b + 1) 9 i _ 1 16 Tryd.underlying54 hi hz0 hz1 hz2 rfl (by decide) _ names.length (names.map Value.string) rfl (World.ownsRow.alloc HO.out _) ⟨w.heap.size, 0, none⟩ 1 1 [.string s] rfl rfl (new_cells w [.string s] 9) (by simp [Value.oneCell']) (by unfold maxLen; omega) (by omega) (by simp; omega) ?_))
        intro v' w8 hown hgrow _
        obtain ⟨a5, k5, rfl⟩ := own_slice hown
        have hgA := gb_tr (gb_alloc w (.cells #[.string s] 9) _) hgrow
        have hne : (Value.slice a names.length kk).ownBlock ≠ some b := own_ne HO.out (Nat.lt_succ_self _)
        have hB8 : Blk w8 b #[.string out, .slice a names.length kk, .bool bad] 56 := HP.out.blk.keep hgA (fun e => hne e.symm)
        have hO8 : w8.ownsRow (b + 1) 9 1 (.slice a5 (names.length + 1) k5) (names ++ [s]).length ((names ++ [s]).map Value.string) := by simpa using hown
        have HP8 : Hid (Pn (w8.setCell ⟨b, 1, none⟩ (.slice a5 (names.length + 1) k5)) b (.slice a5 (names.length + 1) k5) out (withName names s) bad) := by
          rw [HW.out]
          exact ⟨hB8.set 1 _, hO8.kept (gb_set w8 ⟨b, 1, none⟩ _) (.inr (own_ne hO8 (Nat.lt_succ_self _)))⟩
        have HK8 : Hid (KeptP w (w8.setCell ⟨b, 1, none⟩ (.slice a5 (names.length + 1) k5)) b) := (KeptP.of hgA (fun k hk _ => own_may HO.out k hk)).trans (.ofB (gb_set _ ⟨b, 1, none⟩ _))
        have d1 := hB8.cell 1 _ rfl
        have y1 := hB8.frozen 1
        have HS1 : Hid (PnS (w8.setCell ⟨b, 1, none⟩ (.slice a5 (names.length + 1) k5)) b (k + 1) (r.map fun s0 => (⟨withName s0.names s, s0.out⟩ : WS))) := PnS.named HP8.out h1 h2 (by omega) HR.out
        clear hown hgrow hgA hB8 hO8 c1 z1 HP HO
        go_wp2_with (go_at_call 15; refine (pnumber_any _ b (k + 1) _ (names.length : Int) 1 (by omega) (by omega) HS1 (by omega)).mono ?_; rintro e w' ⟨rfl, hk1, hp1⟩; try dsimp only)
        go_end0
        rw [nm_step hn r names (fun s0 e0 => (HR.out.1 s0 e0).2.1) names.length HPO.out] at hp1
        exact ⟨rfl, HK8.out.trans hk1, hp1⟩
  · obtain ⟨g, hg⟩ : ∃ g, g = isName s := ⟨_, rfl⟩
    have hgf : g = false := by rw [hg]; simpa using hn
    have c2 := hP.blk.cell 2 _ rfl
    have z2 := hP.blk.frozen 2
    have HF : Hid (Pn (w.setCell ⟨b, 2, none⟩ (.bool true)) b nv out names true) := ⟨hP.blk.set 2 _, hP.own.kept (gb_set w ⟨b, 2, none⟩ _) (.inr (own_ne hP.own (Nat.lt_succ_self _)))⟩
    clear hP
    go_enter Tryd.func14, Tryd.ntmps14
    go_wp2_with (go_at_call 28; refine (eisNameX_any s _ hs).mono ?_; rw [← hg, hgf]; rintro e w' ⟨rfl, rfl⟩; try dsimp only)
    refine bodyPost_ret (results_none rfl _ _ _) rfl ?_
    refine ⟨rfl, .ofB (gb_set _ ⟨b, 2, none⟩ _), nv, out, names, true, HF.out, by omega, by omega, hk, ?_, fun _ => rfl⟩
    intro s0 hs0
    cases r with
    | none => cases hs0
    | some s1 => simp [wstep, hn] at hs0
end Go.Proofs.YtdhophglnhcjbaaDoor

namespace Go.Proofs.YtdhophglnhcjbaaDoor
open Go.RowKit Cf

/-- the pen is made bad -/
theorem PnS.spoil {w : World} {b k : Nat} {r : Option WS} (h : PnS w b k r) : (∃ x, w.cell? ⟨b, 2, none⟩ = some (.bool x)) ∧ w.frozen? ⟨b, 2, none⟩ = false ∧ PnS (w.setCell ⟨b, 2, none⟩ (.bool true)) b k none := by
  obtain ⟨nv, out, names, bad, hP, h1, h3, h4, h5, h6⟩ := h
  exact ⟨⟨bad, hP.blk.cell 2 _ rfl⟩, hP.blk.frozen 2, nv, out, names, true, ⟨hP.blk.set 2 _, hP.own.kept (gb_set w ⟨b, 2, none⟩ _) (.inr (own_ne hP.own (Nat.lt_succ_self _)))⟩, h1, h3, h4, (fun _ e => by cases e), fun _ => rfl⟩
theorem wrun_bad (r : Option WS) : wrun [.bad] r = none := by cases r <;> rfl
theorem bind_bad (r : Option WS) : r.bind (wstep .bad) = none := by cases r <;> rfl
theorem num_neg {n : Int} {m : Nat} (h : n < 0) (r : Option WS) : r.bind (wstep (.num n m)) = none := by
  cases r with
  | none => rfl
  | some s => simp only [Option.bind_some, wstep]; rw [if_neg (by omega)]
theorem empty_of_size {s : ByteArray} (h : s.size = 0) : s = ⟨#[]⟩ := by
  apply ByteArray.ext
  exact Array.eq_empty_of_size_eq_zero h
/-- what an int may be -/
def isI64 (n : Int) : Prop := -9223372036854775808 ≤ n ∧ n ≤ 9223372036854775807
/-- what a string may be -/
def isLen (s : ByteArray) : Prop := s.size ≤ 1099511627776
theorem ne_empty {s : ByteArray} (h : ¬ s.size = 0) : (s.toList == []) = false := by
  rw [ByteArray.toList_eq]
  cases hb : (s.data.toList == []) with
  | false => rfl
  | true =>
    exfalso
    apply h
    have : s.data.toList = [] := by simpa using hb
    show s.data.size = 0
    rw [← Array.length_toList, this]; rfl


set_option maxHeartbeats 1000000 in
theorem pkind_any (w : World) (b : Nat) (k : Nat) (r : Option WS) (t : XTy) (hi : isI64 t.kind) (hs : isLen t.name) (h : Hid (PnS w b k r)) (hk : k + 3 ≤ 2 ^ 40) :
    Calls Tryd.prog 16 #[.pointer (some ⟨b, 0, none⟩), .agg #[.int .i64 t.kind, .string t.name]] w fun e w' => e = .returned (.tuple #[]) ∧ KeptP w w' b ∧ PnS w' b (k + 3) (wrun (kindTok t) r) := by
  obtain ⟨kd, nm⟩ := t
  have hi1 : -9223372036854775808 ≤ kd ∧ kd ≤ 9223372036854775807 := hi
  have hs1 : nm.size ≤ 1099511627776 := hs
  have hbl : b < w.heap.size := h.out.lt
  have hne : w.heap.size ≠ b := by omega
  dsimp only at hs
  by_cases h4 : 4 < kd
  · have HT : Hid (kindTok ⟨kd, nm⟩ = [.bad]) := by unfold kindTok Hid; rw [if_neg (by dsimp only; omega)]
    have hn2 : ¬ kd = 2 := by omega
    have hn4 : ¬ kd = 4 := by omega
    have hb2 : (kd == 2) = false := by simpa using hn2
    have hb4 : (kd == 4) = false := by simpa using hn4
    by_cases hz : nm.size = 0
    · cases empty_of_size hz
      obtain ⟨⟨x, c2⟩, z2, hsp⟩ := h.out.spoil
      have HS1 : Hid (PnS ((w.setCell ⟨b, 2, none⟩ (.bool true)).alloc (.cells #[.int .i64 kd, .string ⟨#[]⟩] 41)) b k none) := hsp.keep (gb_alloc _ _ _)
      have HB1 : Hid (Blk ((w.setCell ⟨b, 2, none⟩ (.bool true)).alloc (.cells #[.int .i64 kd, .string ⟨#[]⟩] 41)) w.heap.size #[.int .i64 kd, .string ⟨#[]⟩] 41) := by
        have := Blk.new (w.setCell ⟨b, 2, none⟩ (.bool true)) #[.int .i64 kd, .string ⟨#[]⟩] 41
        unfold Hid
        simpa using this
      have HK1 : Hid (KeptP w ((w.setCell ⟨b, 2, none⟩ (.bool true)).alloc (.cells #[.int .i64 kd, .string ⟨#[]⟩] 41)) b) := (KeptP.ofB (gb_set w ⟨b, 2, none⟩ _)).trans (.ofNone (gb_alloc _ _ _))
      clear hsp
      go_enter Tryd.func16, Tryd.ntmps16
      go_wp2_with (first
        | (go_at_call 15
           refine (pnumber_any _ b k none kd 1 (by omega) hi1 HS1 (by omega)).mono ?_
           rintro e w2 ⟨rfl, hk2, hp2⟩
           have HS2 : Hid (PnS w2 b (k + 1) (none.bind (wstep (.num kd 1)))) := hp2
           have HB2 : Hid (Blk w2 w.heap.size #[.int .i64 kd, .string ⟨#[]⟩] 41) := hk2.blk HB1.out (by omega) (by decide)
           have HK2 : Hid (KeptP w w2 b) := HK1.out.trans hk2
           have d0 := HB2.out.cell 0 _ rfl
           have d1 := HB2.out.cell 1 _ rfl
           clear hk2 hp2 HS1 HB1 HK1
           try dsimp only))
      go_end0
      refine ⟨rfl, HK2.out, ?_⟩
      rw [HT.out, wrun_bad]
      exact HS2.out.mono (by omega) hk
    · have hx := ne_empty hz
      obtain ⟨⟨x, c2⟩, z2, hsp⟩ := h.out.spoil
      have HS1 : Hid (PnS ((w.setCell ⟨b, 2, none⟩ (.bool true)).alloc (.cells #[.int .i64 kd, .string nm] 41)) b k none) := hsp.keep (gb_alloc _ _ _)
      have HB1 : Hid (Blk ((w.setCell ⟨b, 2, none⟩ (.bool true)).alloc (.cells #[.int .i64 kd, .string nm] 41)) w.heap.size #[.int .i64 kd, .string nm] 41) := by
        have := Blk.new (w.setCell ⟨b, 2, none⟩ (.bool true)) #[.int .i64 kd, .string nm] 41
        unfold Hid
        simpa using this
      have HK1 : Hid (KeptP w ((w.setCell ⟨b, 2, none⟩ (.bool true)).alloc (.cells #[.int .i64 kd, .string nm] 41)) b) := (KeptP.ofB (gb_set w ⟨b, 2, none⟩ _)).trans (.ofNone (gb_alloc _ _ _))
      clear hsp
      go_enter Tryd.func16, Tryd.ntmps16
      go_wp2_with (first
        | (go_at_call 15
           refine (pnumber_any _ b k none kd 1 (by omega) hi1 HS1 (by omega)).mono ?_
           rintro e w2 ⟨rfl, hk2, hp2⟩
           have HS2 : Hid (PnS w2 b (k + 1) (none.bind (wstep (.num kd 1)))) := hp2
           have HB2 : Hid (Blk w2 w.heap.size #[.int .i64 kd, .string nm] 41) := hk2.blk HB1.out (by omega) (by decide)
           have HK2 : Hid (KeptP w w2 b) := HK1.out.trans hk2
           have d0 := HB2.out.cell 0 _ rfl
           have d1 := HB2.out.cell 1 _ rfl
           obtain ⟨⟨x2, e2⟩, y2, hsp2⟩ := HS2.out.spoil
           have HSP2 : Hid (PnS (w2.setCell ⟨b, 2, none⟩ (.bool true)) b (k + 1) none) := hsp2
           clear hsp2
           clear hk2 hp2 HS1 HB1 HK1
           try dsimp only))
      go_end0
      refine ⟨rfl, HK2.out.trans (.ofB (gb_set _ ⟨b, 2, none⟩ _)), ?_⟩
      rw [HT.out, wrun_bad]
      exact HSP2.out.mono (by omega) hk
  · by_cases hn : kd = 2 ∨ kd = 4
    · have HT : Hid (kindTok ⟨kd, nm⟩ = [.num kd 1, .nm nm]) := by
        unfold kindTok Hid
        rw [if_pos (by dsimp only; omega)]
        rcases hn with rfl | rfl <;> rfl
      rcases hn with rfl | rfl
      · have HS1 : Hid (PnS (w.alloc (.cells #[.int .i64 2, .string nm] 41)) b k r) := h.out.keep (gb_alloc _ _ _)
        have HB1 : Hid (Blk (w.alloc (.cells #[.int .i64 2, .string nm] 41)) w.heap.size #[.int .i64 2, .string nm] 41) := Blk.new _ _ _
        have HK1 : Hid (KeptP w (w.alloc (.cells #[.int .i64 2, .string nm] 41)) b) := .ofNone (gb_alloc _ _ _)
        go_enter Tryd.func16, Tryd.ntmps16
        go_wp2_with (first
          | (go_at_call 14
             refine (pname_any w2 b (k + 1) _ nm hs HS2 (by omega)).mono ?_
             rintro e w3 ⟨rfl, hk3, hp3⟩
             try dsimp only)
          | (go_at_call 15
             refine (pnumber_any _ b k r 2 1 (by omega) hi1 HS1 (by omega)).mono ?_
             rintro e w2 ⟨rfl, hk2, hp2⟩
             have HS2 : Hid (PnS w2 b (k + 1) (r.bind (wstep (.num 2 1)))) := hp2
             have HB2 : Hid (Blk w2 w.heap.size #[.int .i64 2, .string nm] 41) := hk2.blk HB1.out (by omega) (by decide)
             have HK2 : Hid (KeptP w w2 b) := HK1.out.trans hk2
             have d0 := HB2.out.cell 0 _ rfl
             have d1 := HB2.out.cell 1 _ rfl
             clear hk2 hp2 HS1 HB1 HK1
             try dsimp only))
        go_end0
        refine ⟨rfl, HK2.out.trans hk3, ?_⟩
        rw [HT.out]
        exact hp3
      · have HS1 : Hid (PnS (w.alloc (.cells #[.int .i64 4, .string nm] 41)) b k r) := h.out.keep (gb_alloc _ _ _)
        have HB1 : Hid (Blk (w.alloc (.cells #[.int .i64 4, .string nm] 41)) w.heap.size #[.int .i64 4, .string nm] 41) := Blk.new _ _ _
        have HK1 : Hid (KeptP w (w.alloc (.cells #[.int .i64 4, .string nm] 41)) b) := .ofNone (gb_alloc _ _ _)
        go_enter Tryd.func16, Tryd.ntmps16
        go_wp2_with (first
          | (go_at_call 14
             refine (pname_any w2 b (k + 1) _ nm hs HS2 (by omega)).mono ?_
             rintro e w3 ⟨rfl, hk3, hp3⟩
             try dsimp only)
          | (go_at_call 15
             refine (pnumber_any _ b k r 4 1 (by omega) hi1 HS1 (by omega)).mono ?_
             rintro e w2 ⟨rfl, hk2, hp2⟩
             have HS2 : Hid (PnS w2 b (k + 1) (r.bind (wstep (.num 4 1)))) := hp2
             have HB2 : Hid (Blk w2 w.heap.size #[.int .i64 4, .string nm] 41) := hk2.blk HB1.out (by omega) (by decide)
             have HK2 : Hid (KeptP w w2 b) := HK1.out.trans hk2
             have d0 := HB2.out.cell 0 _ rfl
             have d1 := HB2.out.cell 1 _ rfl
             clear hk2 hp2 HS1 HB1 HK1
             try dsimp only))
        go_end0
        refine ⟨rfl, HK2.out.trans hk3, ?_⟩
        rw [HT.out]
        exact hp3
    · have hn2 : ¬ kd = 2 := by omega
      have hn4 : ¬ kd = 4 := by omega
      have hb2 : (kd == 2) = false := by simpa using hn2
      have hb4 : (kd == 4) = false := by simpa using hn4
      have hnm : 0 ≤ kd → hasName kd.toNat = false := by
        intro h0
        obtain ⟨j, rfl⟩ : ∃ j : Nat, kd = j := ⟨kd.toNat, by omega⟩
        have a2 : ¬ j = 2 := by omega
        have a4 : ¬ j = 4 := by omega
        simp [hasName, a2, a4]
      by_cases hz : nm.size = 0
      · cases empty_of_size hz
        have HT : Hid (wrun (kindTok ⟨kd, ⟨#[]⟩⟩) r = r.bind (wstep (.num kd 1))) := by
          unfold kindTok Hid
          by_cases h0 : 0 ≤ kd
          · rw [if_pos (by dsimp only; omega)]
            simp only [hnm h0, nameTok]
            rfl
          · rw [if_neg (by dsimp only; omega), wrun_bad, num_neg (by omega)]
        clear hnm
        have HS1 : Hid (PnS (w.alloc (.cells #[.int .i64 kd, .string ⟨#[]⟩] 41)) b k r) := h.out.keep (gb_alloc _ _ _)
        have HB1 : Hid (Blk (w.alloc (.cells #[.int .i64 kd, .string ⟨#[]⟩] 41)) w.heap.size #[.int .i64 kd, .string ⟨#[]⟩] 41) := Blk.new _ _ _
        have HK1 : Hid (KeptP w (w.alloc (.cells #[.int .i64 kd, .string ⟨#[]⟩] 41)) b) := .ofNone (gb_alloc _ _ _)
        go_enter Tryd.func16, Tryd.ntmps16
        go_wp2_with (first
          | (go_at_call 15
             refine (pnumber_any _ b k r kd 1 (by omega) hi1 HS1 (by omega)).mono ?_
             rintro e w2 ⟨rfl, hk2, hp2⟩
             have HS2 : Hid (PnS w2 b (k + 1) (r.bind (wstep (.num kd 1)))) := hp2
             have HB2 : Hid (Blk w2 w.heap.size #[.int .i64 kd, .string ⟨#[]⟩] 41) := hk2.blk HB1.out (by omega) (by decide)
             have HK2 : Hid (KeptP w w2 b) := HK1.out.trans hk2
             have d0 := HB2.out.cell 0 _ rfl
             have d1 := HB2.out.cell 1 _ rfl
             clear hk2 hp2 HS1 HB1 HK1
             try dsimp only))
        go_end0
        refine ⟨rfl, HK2.out, ?_⟩
        rw [HT.out]
        exact HS2.out.mono (by omega) hk
      · have HT : Hid (wrun (kindTok ⟨kd, nm⟩) r = none) := by
          unfold kindTok Hid
          by_cases h0 : 0 ≤ kd
          · rw [if_pos (by dsimp only; omega)]
            simp only [hnm h0, nameTok, hz]
            exact bind_bad _
          · rw [if_neg (by dsimp only; omega), wrun_bad]
        have hx := ne_empty hz
        clear hnm
        have HS1 : Hid (PnS (w.alloc (.cells #[.int .i64 kd, .string nm] 41)) b k r) := h.out.keep (gb_alloc _ _ _)
        have HB1 : Hid (Blk (w.alloc (.cells #[.int .i64 kd, .string nm] 41)) w.heap.size #[.int .i64 kd, .string nm] 41) := Blk.new _ _ _
        have HK1 : Hid (KeptP w (w.alloc (.cells #[.int .i64 kd, .string nm] 41)) b) := .ofNone (gb_alloc _ _ _)
        go_enter Tryd.func16, Tryd.ntmps16
        go_wp2_with (first
          | (go_at_call 15
             refine (pnumber_any _ b k r kd 1 (by omega) hi1 HS1 (by omega)).mono ?_
             rintro e w2 ⟨rfl, hk2, hp2⟩
             have HS2 : Hid (PnS w2 b (k + 1) (r.bind (wstep (.num kd 1)))) := hp2
             have HB2 : Hid (Blk w2 w.heap.size #[.int .i64 kd, .string nm] 41) := hk2.blk HB1.out (by omega) (by decide)
             have HK2 : Hid (KeptP w w2 b) := HK1.out.trans hk2
             have d0 := HB2.out.cell 0 _ rfl
             have d1 := HB2.out.cell 1 _ rfl
             obtain ⟨⟨x2, e2⟩, y2, hsp2⟩ := HS2.out.spoil
             have HSP2 : Hid (PnS (w2.setCell ⟨b, 2, none⟩ (.bool true)) b (k + 1) none) := hsp2
             clear hsp2
             clear hk2 hp2 HS1 HB1 HK1
             try dsimp only))
        go_end0
        refine ⟨rfl, HK2.out.trans (.ofB (gb_set _ ⟨b, 2, none⟩ _)), ?_⟩
        rw [HT.out]
        exact HSP2.out.mono (by omega) hk
end Go.Proofs.YtdhophglnhcjbaaDoor
