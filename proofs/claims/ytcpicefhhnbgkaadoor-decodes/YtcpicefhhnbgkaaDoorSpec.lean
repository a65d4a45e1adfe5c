/- The document's reader of class files as a plain function: what Decode answers, told apart from any code. -/
namespace Go.Proofs.YtcpicefhhnbgkaaDoor
namespace Cf

structure St where
  at_ : Nat
  used : Nat
  pool : List ByteArray

/-- an error's number and its place -/
abbrev Er := Nat × Nat
abbrev R (α : Type) := Except Er (α × St)

def beL (l : List UInt8) : Nat := l.foldl (fun n c => n * 256 + c.toNat) 0
def num (f : ByteArray) (k : Nat) (st : St) : R Nat :=
  if st.at_ + k ≤ f.size then .ok (beL ((f.data.toList.drop st.at_).take k), { st with at_ := st.at_ + k }) else .error (2, f.size)

def name (f : ByteArray) (st : St) : R ByteArray :=
  match num f 1 st with
  | .error e => .error e
  | .ok (n, st1) => if n ≤ st.used ∧ n < st.pool.length then .ok (st.pool.getD n ByteArray.empty, { st1 with used := max st.used (n + 1) }) else .error (5, st.at_)

structure Ty where
  kind : Nat
  name : ByteArray
structure Fld where
  name : ByteArray
  ty : Ty
structure In where
  op : Nat
  a : Int
  cls : ByteArray
  mem : ByteArray
structure Hd where
  from_ : Nat
  to : Nat
  at_ : Nat
  cls : ByteArray
structure Me where
  name : ByteArray
  params : List Ty
  ret : Ty
  stack : Nat
  locals : Nat
  code : List In
  handlers : List Hd
structure Cl where
  name : ByteArray
  super : ByteArray
  fields : List Fld
  methods : List Me

def hasName (k : Nat) : Bool := k == 2 || k == 4
def nameIf (f : ByteArray) (b : Bool) (st : St) : R ByteArray := if b then name f st else .ok (ByteArray.empty, st)

def kind (f : ByteArray) (st : St) : R Ty :=
  match num f 1 st with
  | .error e => .error e
  | .ok (k, st1) =>
    if 4 < k then .error (3, st.at_) else
    match nameIf f (hasName k) st1 with
    | .error e => .error e
    | .ok (n, st2) => .ok (⟨k, n⟩, st2)

def width (op : Nat) : Nat := if op = 0 then 4 else if op = 2 ∨ op = 3 then 1 else if 12 ≤ op ∧ op ≤ 15 then 2 else 0
def wantsC (op : Nat) : Bool := (16 ≤ op && op ≤ 19) || op == 22 || op == 28 || op == 29
def wantsM (op : Nat) : Bool := 17 ≤ op && op ≤ 19

/-- four bytes are the only ones with a sign -/
def signed (w n : Nat) : Int := if w = 4 ∧ 2147483648 ≤ n then (n : Int) - 4294967296 else n

def ins (f : ByteArray) (st : St) : R In :=
  match num f 1 st with
  | .error e => .error e
  | .ok (op, st1) =>
    if 32 ≤ op then .error (3, st.at_) else
    match num f (width op) st1 with
    | .error e => .error e
    | .ok (n, st2) =>
      match nameIf f (wantsC op) st2 with
      | .error e => .error e
      | .ok (c, st3) =>
        match nameIf f (wantsM op) st3 with
        | .error e => .error e
        | .ok (m, st4) => .ok (⟨op, signed (width op) n, c, m⟩, st4)

def handler (f : ByteArray) (st : St) : R Hd :=
  match num f 2 st with
  | .error e => .error e
  | .ok (a, st1) =>
    match num f 2 st1 with
    | .error e => .error e
    | .ok (b, st2) =>
      match num f 2 st2 with
      | .error e => .error e
      | .ok (c, st3) =>
        match name f st3 with
        | .error e => .error e
        | .ok (n, st4) => .ok (⟨a, b, c, n⟩, st4)

def field (f : ByteArray) (st : St) : R Fld :=
  match name f st with
  | .error e => .error e
  | .ok (n, st1) =>
    match kind f st1 with
    | .error e => .error e
    | .ok (t, st2) => .ok (⟨n, t⟩, st2)

/-- so many times the same -/
def rep {α : Type} (p : St → R α) : Nat → St → R (List α)
  | 0, st => .ok ([], st)
  | k + 1, st =>
    match p st with
    | .error e => .error e
    | .ok (x, st1) =>
      match rep p k st1 with
      | .error e => .error e
      | .ok (l, st2) => .ok (x :: l, st2)

def list {α : Type} (f : ByteArray) (w : Nat) (p : St → R α) (st : St) : R (List α) :=
  match num f w st with
  | .error e => .error e
  | .ok (n, st1) => rep p n st1

def meth (f : ByteArray) (st : St) : R Me :=
  match name f st with
  | .error e => .error e
  | .ok (n, st1) =>
    match list f 1 (kind f) st1 with
    | .error e => .error e
    | .ok (ps, st2) =>
      match kind f st2 with
      | .error e => .error e
      | .ok (r, st3) =>
        match num f 1 st3 with
        | .error e => .error e
        | .ok (s, st4) =>
          match num f 1 st4 with
          | .error e => .error e
          | .ok (l, st5) =>
            match list f 2 (ins f) st5 with
            | .error e => .error e
            | .ok (c, st6) =>
              match list f 1 (handler f) st6 with
              | .error e => .error e
              | .ok (h, st7) => .ok (⟨n, ps, r, s, l, c, h⟩, st7)

def cls (f : ByteArray) (st : St) : R Cl :=
  match name f st with
  | .error e => .error e
  | .ok (n, st1) =>
    match name f st1 with
    | .error e => .error e
    | .ok (s, st2) =>
      match list f 1 (field f) st2 with
      | .error e => .error e
      | .ok (fs, st3) =>
        match list f 1 (meth f) st3 with
        | .error e => .error e
        | .ok (ms, st4) => .ok (⟨n, s, fs, ms⟩, st4)

def nameByte (c : UInt8) : Bool := (97 ≤ c && c ≤ 122) || (65 ≤ c && c ≤ 90) || (48 ≤ c && c ≤ 57)
def isName (s : ByteArray) : Bool := decide (1 ≤ s.size) && decide (s.size ≤ 12) && s.data.toList.all nameByte

def newName (f : ByteArray) (st : St) : R ByteArray :=
  match num f 1 st with
  | .error e => .error e
  | .ok (k, st1) =>
    if st1.at_ + k ≤ f.size then
      let s := f.extract st1.at_ (st1.at_ + k)
      if isName s && !st.pool.contains s then .ok (s, { st1 with at_ := st1.at_ + k }) else .error (4, st.at_)
    else .error (2, f.size)

def pushName (f : ByteArray) (st : St) : R Unit :=
  match newName f st with
  | .error e => .error e
  | .ok (s, st1) => .ok ((), { st1 with pool := st1.pool ++ [s] })

def magic (f : ByteArray) (c : Nat) (i : Nat) (st : St) : R Unit :=
  match num f 1 st with
  | .error e => .error e
  | .ok (n, st1) => if n = c then .ok ((), st1) else .error (3, i)

def dec (f : ByteArray) : Except Er Cl :=
  if 2048 < f.size then .error (1, 0) else
  match magic f 87 0 ⟨0, 0, []⟩ with
  | .error e => .error e
  | .ok (_, st1) =>
    match magic f 49 1 st1 with
    | .error e => .error e
    | .ok (_, st2) =>
      match list f 1 (pushName f) st2 with
      | .error e => .error e
      | .ok (_, st3) =>
        match cls f st3 with
        | .error e => .error e
        | .ok (c, st4) =>
          if st4.used < st4.pool.length then .error (5, f.size) else
          if st4.at_ < f.size then .error (6, st4.at_) else .ok c

/-- what stays so while a file is read -/
structure Inv (f : ByteArray) (st : St) : Prop where
  fits : f.size ≤ 2048
  at_ : st.at_ ≤ f.size
  used : st.used ≤ st.pool.length
  pool : st.pool.length ≤ 255

end Cf
end Go.Proofs.YtcpicefhhnbgkaaDoor
