/-
  A keeper's bytes, as lists alone. No condition.
-/
import Derived.Test.YtlniljigeemnoaaGreatKeepV
set_option linter.unusedVariables false
set_option linter.unusedSimpArgs false
set_option maxRecDepth 100000
set_option maxHeartbeats 8000000
namespace Go.Proofs.YtlniljigeemnoaaGreat.Gen
open ChangeShapes WideShapes ChangeAt RowKit Joins Deep Base
open Items (It)
def itB (x : It) : List UInt8 := numI x.off ++ (txtB x.key ++ (txtB x.text ++ Qbh [x.who, x.time]))
def mkB (x : Mk) : List UInt8 := Qbh [x.seq, x.off]
def itsB (l : List It) : List UInt8 := numI (l.length : Int) ++ l.flatMap itB
def mksB (l : List Mk) : List UInt8 := numI (l.length : Int) ++ l.flatMap mkB
def rcB (x : RC) : List UInt8 := Qbh [x.start, x.next] ++ itsB x.its
def mcB (x : MC) : List UInt8 := Qbh [x.row, x.who, x.epoch, x.last + 1] ++ mksB x.ms
def memB (m b : List Int) : List UInt8 := (List.zip m b).flatMap fun p => Qbh [p.1, p.2]
def gcB (x : GC) : List UInt8 := Qbh [x.gen, (x.m.length : Int)] ++ (memB x.m x.b ++ Qbh x.o)
def anB (x : An) : List UInt8 := Qbh [x.code, x.n + 1] ++ (txtB x.key ++ txtB x.text)
def rcsB (l : List RC) : List UInt8 := numI (l.length : Int) ++ l.flatMap rcB
def mcsB (l : List MC) : List UInt8 := numI (l.length : Int) ++ l.flatMap mcB
def gcsB (l : List GC) : List UInt8 := numI (l.length : Int) ++ l.flatMap gcB
def Qf3 (d : List Int) (a : List An) : List UInt8 := (List.zip d a).flatMap fun p => numI p.1 ++ anB p.2
def kB (x : KC) : List UInt8 := rcsB x.rs ++ (mcsB x.ms ++ (gcsB x.gs ++ (numI x.time ++ Qf3 x.ds x.ls)))
structure ItR (x : It) : Prop where
  off : 0 <= x.off /\ x.off <= 2147483647
  key : x.key.size <= 30
  text : x.text.size <= 30
  who : 0 <= x.who /\ x.who <= 2147483647
  time : 0 <= x.time /\ x.time <= 2147483647
structure MkR (x : Mk) : Prop where
  seq : 0 <= x.seq /\ x.seq <= 2147483647
  off : 0 <= x.off /\ x.off <= 2147483647
structure RcR (x : RC) : Prop where
  start : 0 <= x.start /\ x.start <= 2147483647
  next : 0 <= x.next /\ x.next <= 2147483647
  its : ∀ y ∈ x.its, ItR y
  len : x.its.length <= 80
structure McR (x : MC) : Prop where
  row : 0 <= x.row /\ x.row <= 2147483647
  who : 0 <= x.who /\ x.who <= 2147483647
  epoch : 0 <= x.epoch /\ x.epoch <= 2147483647
  last : -1 <= x.last /\ x.last <= 2147483646
  ms : ∀ y ∈ x.ms, MkR y
  len : x.ms.length <= 5
structure GcR (x : GC) : Prop where
  gen : 0 <= x.gen /\ x.gen <= 2147483647
  m : ∀ y ∈ x.m, 0 <= y /\ y <= 2147483647
  b : ∀ y ∈ x.b, 0 <= y /\ y <= 2147483647
  o : ∀ y ∈ x.o, 0 <= y /\ y <= 2147483647
  same : x.b.length = x.m.length
  len : x.m.length <= 300000
  leo : x.o.length <= 300000
structure AnR (x : An) : Prop where
  code : 0 <= x.code /\ x.code <= 2147483647
  n : -1 <= x.n /\ x.n <= 2147483646
  key : x.key.size <= 30
  text : x.text.size <= 30
theorem itB_le {x : It} (h : ItR x) : (itB x).length <= 100 := by
 have h1 := Qbc x.off
 have h2 := Qgh h.key
 have h3 := Qgh h.text
 have h4 := Qb3 [x.who, x.time]
 simp only [itB, List.length_append, List.length_cons, List.length_nil] at h4 ⊢
 omega
theorem mkB_le (x : Mk) : (mkB x).length <= 10 := by have := Qb3 [x.seq, x.off]; simpa [mkB] using this
structure KcR (x : KC) : Prop where
  rs : ∀ y ∈ x.rs, RcR y
  ms : ∀ y ∈ x.ms, McR y
  gs : ∀ y ∈ x.gs, GcR y
  time : 0 <= x.time /\ x.time <= 2147483647
  ds : ∀ y ∈ x.ds, 0 <= y /\ y <= 2147483647
  ls : ∀ y ∈ x.ls, AnR y
  rl : x.rs.length <= 1048576
  ml : x.ms.length <= 1048576
  gl : x.gs.length <= 1048576
  dl : x.ds.length <= 1048576
  same : x.ls.length = x.ds.length
def offAt (l : List Mk) (j : Nat) : Int := (l.getD j ⟨0, 0⟩).off
def seqAt (last : Int) (l : List Mk) (j : Nat) : Int := IntKind.i64.wrap (last - IntKind.i64.wrap (IntKind.i64.wrap ((l.length : Int) - 1) - (j : Int)))
def rightAt (last : Int) (l : List Mk) (j : Nat) : Bool := inB (offAt l j) 0 100000 && decide ((l.getD j ⟨0, 0⟩).seq = seqAt last l j) && (decide (j = 0) || decide (offAt l (j - 1) < offAt l j))
def rightTo (last : Int) (l : List Mk) (n : Nat) : Bool := (List.range n).all (rightAt last l)
def okB (row who epoch last window : Int) (l : List Mk) : Bool :=
  inB row 0 3 && inB who 0 3 && inB epoch 0 100000 && inB last (-1) 100000 && decide ((l.length : Int) <= window) && decide ((l.length : Int) <= last + 1) && (decide ((l.length : Int) = 0) == decide (last = -1)) && rightTo last l l.length
end Go.Proofs.YtlniljigeemnoaaGreat.Gen
