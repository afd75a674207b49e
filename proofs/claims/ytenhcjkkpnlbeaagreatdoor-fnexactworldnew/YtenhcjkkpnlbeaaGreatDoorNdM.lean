/-
  Lists of nodes marked where they lie, by the laws' own functions. No condition but their size.
-/
import Derived.Test.YtenhcjkkpnlbeaaGreatDoorNAt
set_option linter.unusedVariables false
set_option linter.unusedSimpArgs false
set_option maxRecDepth 100000
set_option maxHeartbeats 8000000
namespace Go.Proofs.YtenhcjkkpnlbeaaGreatDoor.Gen
open ChangeShapes WideShapes ChangeAt RowKit Joins Deep Base
theorem KOwn.fr {W : World} {x : KC} {S : Nat -> Prop} (h : KOwn W x S) : ∃ S1 : Nat -> Prop, Own rowP W x.rA x.rs S1 /\ ∀ (W' : World) (l' : List RC), Offp S1 W W' -> Own rowP W' x.rA l' S1 -> Offp S W W' /\ KOwn W' { x with rs := l' } S := by
 obtain ⟨col, h⟩ := h
 exact ⟨_, h.r, fun W' l' ko t => ⟨ko.mono (fun b hb => hb.1), col, ⟨t, h.m.offp Qbs ko (fun b hb e => by have := hb.2; have := e.2; omega), h.g.offp Qbd ko (fun b hb e => by have := hb.2; have := e.2; omega), h.d.offp ko (fun b hb e => by have := hb.2; have := e.2; omega), h.l.offp ko (fun b hb e => by have := hb.2; have := e.2; omega)⟩⟩⟩
theorem KOwn.fm {W : World} {x : KC} {S : Nat -> Prop} (h : KOwn W x S) : ∃ S1 : Nat -> Prop, Own makP W x.mA x.ms S1 /\ ∀ (W' : World) (l' : List MC), Offp S1 W W' -> Own makP W' x.mA l' S1 -> Offp S W W' /\ KOwn W' { x with ms := l' } S := by
 obtain ⟨col, h⟩ := h
 exact ⟨_, h.m, fun W' l' ko t => ⟨ko.mono (fun b hb => hb.1), col, ⟨h.r.offp Qb1 ko (fun b hb e => by have := hb.2; have := e.2; omega), t, h.g.offp Qbd ko (fun b hb e => by have := hb.2; have := e.2; omega), h.d.offp ko (fun b hb e => by have := hb.2; have := e.2; omega), h.l.offp ko (fun b hb e => by have := hb.2; have := e.2; omega)⟩⟩⟩
theorem KOwn.fg {W : World} {x : KC} {S : Nat -> Prop} (h : KOwn W x S) : ∃ S1 : Nat -> Prop, Own grpP W x.gA x.gs S1 /\ ∀ (W' : World) (l' : List GC), Offp S1 W W' -> Own grpP W' x.gA l' S1 -> Offp S W W' /\ KOwn W' { x with gs := l' } S := by
 obtain ⟨col, h⟩ := h
 exact ⟨_, h.g, fun W' l' ko t => ⟨ko.mono (fun b hb => hb.1), col, ⟨h.r.offp Qb1 ko (fun b hb e => by have := hb.2; have := e.2; omega), h.m.offp Qbs ko (fun b hb e => by have := hb.2; have := e.2; omega), t, h.d.offp ko (fun b hb e => by have := hb.2; have := e.2; omega), h.l.offp ko (fun b hb e => by have := hb.2; have := e.2; omega)⟩⟩⟩
theorem KOwn.fd {W : World} {x : KC} {S : Nat -> Prop} (h : KOwn W x S) : ∃ S1 : Nat -> Prop, Sub W x.dA x.ds S1 /\ ∀ (W' : World) (l' : List Int), Offp S1 W W' -> Sub W' x.dA l' S1 -> Offp S W W' /\ KOwn W' { x with ds := l' } S := by
 obtain ⟨col, h⟩ := h
 exact ⟨_, h.d, fun W' l' ko t => ⟨ko.mono (fun b hb => hb.1), col, ⟨h.r.offp Qb1 ko (fun b hb e => by have := hb.2; have := e.2; omega), h.m.offp Qbs ko (fun b hb e => by have := hb.2; have := e.2; omega), h.g.offp Qbd ko (fun b hb e => by have := hb.2; have := e.2; omega), t, h.l.offp ko (fun b hb e => by have := hb.2; have := e.2; omega)⟩⟩⟩
theorem KOwn.fl {W : World} {x : KC} {S : Nat -> Prop} (h : KOwn W x S) : ∃ S1 : Nat -> Prop, Sub W x.lA x.ls S1 /\ ∀ (W' : World) (l' : List An), Offp S1 W W' -> Sub W' x.lA l' S1 -> Offp S W W' /\ KOwn W' { x with ls := l' } S := by
 obtain ⟨col, h⟩ := h
 exact ⟨_, h.l, fun W' l' ko t => ⟨ko.mono (fun b hb => hb.1), col, ⟨h.r.offp Qb1 ko (fun b hb e => by have := hb.2; have := e.2; omega), h.m.offp Qbs ko (fun b hb e => by have := hb.2; have := e.2; omega), h.g.offp Qbd ko (fun b hb e => by have := hb.2; have := e.2; omega), h.d.offp ko (fun b hb e => by have := hb.2; have := e.2; omega), t⟩⟩⟩
theorem POwn.fl {W : World} {x : PC} {S : Nat -> Prop} (h : POwn W x S) : ∃ S1 : Nat -> Prop, Sub W x.A x.l S1 /\ ∀ (W' : World) (l' : List En), Offp S1 W W' -> Sub W' x.A l' S1 -> Offp S W W' /\ POwn W' { x with l := l' } S := by
 obtain ⟨col, h⟩ := h
 exact ⟨_, h.l, fun W' l' ko t => ⟨ko.mono (fun b hb => hb.1), col, ⟨t, h.x.offp ko (fun b hb e => by have := hb.2; have := e.2; omega), h.v.offp ko (fun b hb e => by have := hb.2; have := e.2; omega), h.n.offp ko (fun b hb e => by have := hb.2; have := e.2; omega), h.q.offp ko (fun b hb e => by have := hb.2; have := e.2; omega), h.y.offp ko (fun b hb e => by have := hb.2; have := e.2; omega), h.d.offp ko (fun b hb e => by have := hb.2; have := e.2; omega), h.h.offp Qaz ko (fun b hb e => by have := hb.2; have := e.2; omega)⟩⟩⟩
theorem POwn.fx {W : World} {x : PC} {S : Nat -> Prop} (h : POwn W x S) : ∃ S1 : Nat -> Prop, KOwn W x.x S1 /\ ∀ (W' : World) (l' : KC), Offp S1 W W' -> KOwn W' l' S1 -> Offp S W W' /\ POwn W' { x with x := l' } S := by
 obtain ⟨col, h⟩ := h
 exact ⟨_, h.x, fun W' l' ko t => ⟨ko.mono (fun b hb => hb.1), col, ⟨h.l.offp ko (fun b hb e => by have := hb.2; have := e.2; omega), t, h.v.offp ko (fun b hb e => by have := hb.2; have := e.2; omega), h.n.offp ko (fun b hb e => by have := hb.2; have := e.2; omega), h.q.offp ko (fun b hb e => by have := hb.2; have := e.2; omega), h.y.offp ko (fun b hb e => by have := hb.2; have := e.2; omega), h.d.offp ko (fun b hb e => by have := hb.2; have := e.2; omega), h.h.offp Qaz ko (fun b hb e => by have := hb.2; have := e.2; omega)⟩⟩⟩
theorem POwn.fv {W : World} {x : PC} {S : Nat -> Prop} (h : POwn W x S) : ∃ S1 : Nat -> Prop, Sub W x.vA x.vs S1 /\ ∀ (W' : World) (l' : List Bool), Offp S1 W W' -> Sub W' x.vA l' S1 -> Offp S W W' /\ POwn W' { x with vs := l' } S := by
 obtain ⟨col, h⟩ := h
 exact ⟨_, h.v, fun W' l' ko t => ⟨ko.mono (fun b hb => hb.1), col, ⟨h.l.offp ko (fun b hb e => by have := hb.2; have := e.2; omega), h.x.offp ko (fun b hb e => by have := hb.2; have := e.2; omega), t, h.n.offp ko (fun b hb e => by have := hb.2; have := e.2; omega), h.q.offp ko (fun b hb e => by have := hb.2; have := e.2; omega), h.y.offp ko (fun b hb e => by have := hb.2; have := e.2; omega), h.d.offp ko (fun b hb e => by have := hb.2; have := e.2; omega), h.h.offp Qaz ko (fun b hb e => by have := hb.2; have := e.2; omega)⟩⟩⟩
theorem POwn.fn {W : World} {x : PC} {S : Nat -> Prop} (h : POwn W x S) : ∃ S1 : Nat -> Prop, Sub W x.nA x.ns S1 /\ ∀ (W' : World) (l' : List Int), Offp S1 W W' -> Sub W' x.nA l' S1 -> Offp S W W' /\ POwn W' { x with ns := l' } S := by
 obtain ⟨col, h⟩ := h
 exact ⟨_, h.n, fun W' l' ko t => ⟨ko.mono (fun b hb => hb.1), col, ⟨h.l.offp ko (fun b hb e => by have := hb.2; have := e.2; omega), h.x.offp ko (fun b hb e => by have := hb.2; have := e.2; omega), h.v.offp ko (fun b hb e => by have := hb.2; have := e.2; omega), t, h.q.offp ko (fun b hb e => by have := hb.2; have := e.2; omega), h.y.offp ko (fun b hb e => by have := hb.2; have := e.2; omega), h.d.offp ko (fun b hb e => by have := hb.2; have := e.2; omega), h.h.offp Qaz ko (fun b hb e => by have := hb.2; have := e.2; omega)⟩⟩⟩
theorem POwn.fq {W : World} {x : PC} {S : Nat -> Prop} (h : POwn W x S) : ∃ S1 : Nat -> Prop, Sub W x.pA x.ps S1 /\ ∀ (W' : World) (l' : List Int), Offp S1 W W' -> Sub W' x.pA l' S1 -> Offp S W W' /\ POwn W' { x with ps := l' } S := by
 obtain ⟨col, h⟩ := h
 exact ⟨_, h.q, fun W' l' ko t => ⟨ko.mono (fun b hb => hb.1), col, ⟨h.l.offp ko (fun b hb e => by have := hb.2; have := e.2; omega), h.x.offp ko (fun b hb e => by have := hb.2; have := e.2; omega), h.v.offp ko (fun b hb e => by have := hb.2; have := e.2; omega), h.n.offp ko (fun b hb e => by have := hb.2; have := e.2; omega), t, h.y.offp ko (fun b hb e => by have := hb.2; have := e.2; omega), h.d.offp ko (fun b hb e => by have := hb.2; have := e.2; omega), h.h.offp Qaz ko (fun b hb e => by have := hb.2; have := e.2; omega)⟩⟩⟩
theorem POwn.fy {W : World} {x : PC} {S : Nat -> Prop} (h : POwn W x S) : ∃ S1 : Nat -> Prop, KOwn W x.y S1 /\ ∀ (W' : World) (l' : KC), Offp S1 W W' -> KOwn W' l' S1 -> Offp S W W' /\ POwn W' { x with y := l' } S := by
 obtain ⟨col, h⟩ := h
 exact ⟨_, h.y, fun W' l' ko t => ⟨ko.mono (fun b hb => hb.1), col, ⟨h.l.offp ko (fun b hb e => by have := hb.2; have := e.2; omega), h.x.offp ko (fun b hb e => by have := hb.2; have := e.2; omega), h.v.offp ko (fun b hb e => by have := hb.2; have := e.2; omega), h.n.offp ko (fun b hb e => by have := hb.2; have := e.2; omega), h.q.offp ko (fun b hb e => by have := hb.2; have := e.2; omega), t, h.d.offp ko (fun b hb e => by have := hb.2; have := e.2; omega), h.h.offp Qaz ko (fun b hb e => by have := hb.2; have := e.2; omega)⟩⟩⟩
theorem POwn.fd {W : World} {x : PC} {S : Nat -> Prop} (h : POwn W x S) : ∃ S1 : Nat -> Prop, Sub W x.dA x.db S1 /\ ∀ (W' : World) (l' : List UInt8), Offp S1 W W' -> Sub W' x.dA l' S1 -> Offp S W W' /\ POwn W' { x with db := l' } S := by
 obtain ⟨col, h⟩ := h
 exact ⟨_, h.d, fun W' l' ko t => ⟨ko.mono (fun b hb => hb.1), col, ⟨h.l.offp ko (fun b hb e => by have := hb.2; have := e.2; omega), h.x.offp ko (fun b hb e => by have := hb.2; have := e.2; omega), h.v.offp ko (fun b hb e => by have := hb.2; have := e.2; omega), h.n.offp ko (fun b hb e => by have := hb.2; have := e.2; omega), h.q.offp ko (fun b hb e => by have := hb.2; have := e.2; omega), h.y.offp ko (fun b hb e => by have := hb.2; have := e.2; omega), t, h.h.offp Qaz ko (fun b hb e => by have := hb.2; have := e.2; omega)⟩⟩⟩
theorem POwn.fh {W : World} {x : PC} {S : Nat -> Prop} (h : POwn W x S) : ∃ S1 : Nat -> Prop, Own rpcP W x.hA x.hs S1 /\ ∀ (W' : World) (l' : List RpC), Offp S1 W W' -> Own rpcP W' x.hA l' S1 -> Offp S W W' /\ POwn W' { x with hs := l' } S := by
 obtain ⟨col, h⟩ := h
 exact ⟨_, h.h, fun W' l' ko t => ⟨ko.mono (fun b hb => hb.1), col, ⟨h.l.offp ko (fun b hb e => by have := hb.2; have := e.2; omega), h.x.offp ko (fun b hb e => by have := hb.2; have := e.2; omega), h.v.offp ko (fun b hb e => by have := hb.2; have := e.2; omega), h.n.offp ko (fun b hb e => by have := hb.2; have := e.2; omega), h.q.offp ko (fun b hb e => by have := hb.2; have := e.2; omega), h.y.offp ko (fun b hb e => by have := hb.2; have := e.2; omega), h.d.offp ko (fun b hb e => by have := hb.2; have := e.2; omega), t⟩⟩⟩
theorem KOwn.time {W : World} {x : KC} {S : Nat -> Prop} (h : KOwn W x S) (t : Int) : KOwn W { x with time := t } S := by
 obtain ⟨c, h⟩ := h
 exact ⟨c, ⟨h.r, h.m, h.g, h.d, h.l⟩⟩
theorem mark_bys (a : Option Addr) (cap : Nat) (l : List UInt8) (S : Nat -> Prop) (k : Int) (hk : 1 <= k) (hk' : k <= 100000000) (hl : l.length <= 3000000) (w : World) (h : Sub w a l S) :
 Calls Tryz.prog 61 #[.slice a l.length cap, .int .i64 k] w fun e w' => e = .returned (.int .i64 (k + (l.length : Int))) /\ Offp S w w' /\ Sub w' a (Qcv l.length k) S := by
 obtain ⟨F, hs, hF⟩ := sub_sl h
 refine (Qmq a cap l F hl k hk hk' w hs).mono ?_
 rintro e w' ⟨e1, k1, s1⟩
 exact ⟨e1, (Offp.of_off k1).mono hF, sl_sub s1 hF⟩
def rz1 (x : PC) (z : Int) : Int := z + 1 + 1 + 1 + 1 + 1 + (x.l.length : Int) * 9
def rz2 (x : PC) (z : Int) : Int := rz1 x z + (Qak cR x.x.rs : Int)
def rz3 (x : PC) (z : Int) : Int := rz2 x z + (Qak cM x.x.ms : Int)
def rz4 (x : PC) (z : Int) : Int := rz3 x z + (Qak cG x.x.gs : Int)
def rz5 (x : PC) (z : Int) : Int := rz4 x z + 1 + (x.x.ds.length : Int)
def rz6 (x : PC) (z : Int) : Int := rz5 x z + (x.x.ls.length : Int) * 4
def rz7 (x : PC) (z : Int) : Int := rz6 x z + 1 + (x.vs.length : Int)
def rz8 (x : PC) (z : Int) : Int := rz7 x z + (x.ns.length : Int)
def rz9 (x : PC) (z : Int) : Int := rz8 x z + (x.ps.length : Int)
def rz10 (x : PC) (z : Int) : Int := rz9 x z + 1 + (Qak cR x.y.rs : Int)
def rz11 (x : PC) (z : Int) : Int := rz10 x z + (Qak cM x.y.ms : Int)
def rz12 (x : PC) (z : Int) : Int := rz11 x z + (Qak cG x.y.gs : Int)
def rz13 (x : PC) (z : Int) : Int := rz12 x z + 1 + (x.y.ds.length : Int)
def rz14 (x : PC) (z : Int) : Int := rz13 x z + (x.y.ls.length : Int) * 4
def rz15 (x : PC) (z : Int) : Int := rz14 x z + (x.db.length : Int)
def rz16 (x : PC) (z : Int) : Int := rz15 x z + 1 + (Qak cP x.hs : Int)
def cN (x : PC) : Nat := 10 + (x.l.length) * 9 + (Qak cR x.x.rs) + (Qak cM x.x.ms) + (Qak cG x.x.gs) + (x.x.ds.length) + (x.x.ls.length) * 4 + (x.vs.length) + (x.ns.length) + (x.ps.length) + (Qak cR x.y.rs) + (Qak cM x.y.ms) + (Qak cG x.y.gs) + (x.y.ds.length) + (x.y.ls.length) * 4 + (x.db.length) + (Qak cP x.hs)
theorem r_le (x : PC) (z : Int) (hz : 1 <= z) (hc : z + (cN x : Int) <= 45000000) : (1 <= rz1 x z /\ rz1 x z + 10 <= 46000000) /\ (1 <= rz2 x z /\ rz2 x z + 10 <= 46000000) /\ (1 <= rz3 x z /\ rz3 x z + 10 <= 46000000) /\ (1 <= rz4 x z /\ rz4 x z + 10 <= 46000000) /\ (1 <= rz5 x z /\ rz5 x z + 10 <= 46000000) /\ (1 <= rz6 x z /\ rz6 x z + 10 <= 46000000) /\ (1 <= rz7 x z /\ rz7 x z + 10 <= 46000000) /\ (1 <= rz8 x z /\ rz8 x z + 10 <= 46000000) /\ (1 <= rz9 x z /\ rz9 x z + 10 <= 46000000) /\ (1 <= rz10 x z /\ rz10 x z + 10 <= 46000000) /\ (1 <= rz11 x z /\ rz11 x z + 10 <= 46000000) /\ (1 <= rz12 x z /\ rz12 x z + 10 <= 46000000) /\ (1 <= rz13 x z /\ rz13 x z + 10 <= 46000000) /\ (1 <= rz14 x z /\ rz14 x z + 10 <= 46000000) /\ (1 <= rz15 x z /\ rz15 x z + 10 <= 46000000) /\ (1 <= rz16 x z /\ rz16 x z + 10 <= 46000000) /\ rz16 x z = z + (cN x : Int) /\ 9 * x.l.length <= 45000000 /\ (Qak cR x.x.rs) <= 45000000 /\ (Qak cM x.x.ms) <= 45000000 /\ (Qak cG x.x.gs) <= 45000000 /\ (x.x.ds.length) <= 45000000 /\ 4 * x.x.ls.length <= 45000000 /\ (x.vs.length) <= 45000000 /\ (x.ns.length) <= 45000000 /\ (x.ps.length) <= 45000000 /\ (Qak cR x.y.rs) <= 45000000 /\ (Qak cM x.y.ms) <= 45000000 /\ (Qak cG x.y.gs) <= 45000000 /\ (x.y.ds.length) <= 45000000 /\ 4 * x.y.ls.length <= 45000000 /\ (x.db.length) <= 45000000 /\ (Qak cP x.hs) <= 45000000 := by
 have e : (cN x : Int) = 10 + (x.l.length : Int) * 9 + (Qak cR x.x.rs : Int) + (Qak cM x.x.ms : Int) + (Qak cG x.x.gs : Int) + (x.x.ds.length : Int) + (x.x.ls.length : Int) * 4 + (x.vs.length : Int) + (x.ns.length : Int) + (x.ps.length : Int) + (Qak cR x.y.rs : Int) + (Qak cM x.y.ms : Int) + (Qak cG x.y.gs : Int) + (x.y.ds.length : Int) + (x.y.ls.length : Int) * 4 + (x.db.length : Int) + (Qak cP x.hs : Int) := by unfold cN; push_cast; rfl
 rw [e] at hc ⊢
 unfold rz16 rz15 rz14 rz13 rz12 rz11 rz10 rz9 rz8 rz7 rz6 rz5 rz4 rz3 rz2 rz1
 refine ⟨⟨?_, ?_⟩, ⟨?_, ?_⟩, ⟨?_, ?_⟩, ⟨?_, ?_⟩, ⟨?_, ?_⟩, ⟨?_, ?_⟩, ⟨?_, ?_⟩, ⟨?_, ?_⟩, ⟨?_, ?_⟩, ⟨?_, ?_⟩, ⟨?_, ?_⟩, ⟨?_, ?_⟩, ⟨?_, ?_⟩, ⟨?_, ?_⟩, ⟨?_, ?_⟩, ⟨?_, ?_⟩, ?_, ?_, ?_, ?_, ?_, ?_, ?_, ?_, ?_, ?_, ?_, ?_, ?_, ?_, ?_, ?_, ?_⟩<;>omega
def mu1 (x : PC) (z : Int) : PC := { x with id := z, te := z + 1, vo := z + 1 + 1, base := z + 1 + 1 + 1, bt := z + 1 + 1 + 1 + 1 }
def my1 (x : PC) (z : Int) : PC := { (mu1 x z) with l := Qbk x.l.length (z + 1 + 1 + 1 + 1 + 1) }
def my2 (x : PC) (z : Int) : PC := { (my1 x z) with x := { (my1 x z).x with rs := marked mR cR x.x.rs (rz1 x z) } }
def my3 (x : PC) (z : Int) : PC := { (my2 x z) with x := { (my2 x z).x with ms := marked mM cM x.x.ms (rz2 x z) } }
def my4 (x : PC) (z : Int) : PC := { (my3 x z) with x := { (my3 x z).x with gs := marked mG cG x.x.gs (rz3 x z) } }
def mu5 (x : PC) (z : Int) : PC := { (my4 x z) with x := { (my4 x z).x with time := rz4 x z } }
def my5 (x : PC) (z : Int) : PC := { (mu5 x z) with x := { (mu5 x z).x with ds := Qa2 x.x.ds.length (rz4 x z + 1) } }
def my6 (x : PC) (z : Int) : PC := { (my5 x z) with x := { (my5 x z).x with ls := Qb4 x.x.ls.length (rz5 x z) } }
def mu7 (x : PC) (z : Int) : PC := { (my6 x z) with role := rz6 x z }
def my7 (x : PC) (z : Int) : PC := { (mu7 x z) with vs := Qbc x.vs.length (rz6 x z + 1) }
def my8 (x : PC) (z : Int) : PC := { (my7 x z) with ns := Qa2 x.ns.length (rz7 x z) }
def my9 (x : PC) (z : Int) : PC := { (my8 x z) with ps := Qa2 x.ps.length (rz8 x z) }
def mu10 (x : PC) (z : Int) : PC := { (my9 x z) with com := rz9 x z }
def my10 (x : PC) (z : Int) : PC := { (mu10 x z) with y := { (mu10 x z).y with rs := marked mR cR x.y.rs (rz9 x z + 1) } }
def my11 (x : PC) (z : Int) : PC := { (my10 x z) with y := { (my10 x z).y with ms := marked mM cM x.y.ms (rz10 x z) } }
def my12 (x : PC) (z : Int) : PC := { (my11 x z) with y := { (my11 x z).y with gs := marked mG cG x.y.gs (rz11 x z) } }
def mu13 (x : PC) (z : Int) : PC := { (my12 x z) with y := { (my12 x z).y with time := rz12 x z } }
def my13 (x : PC) (z : Int) : PC := { (mu13 x z) with y := { (mu13 x z).y with ds := Qa2 x.y.ds.length (rz12 x z + 1) } }
def my14 (x : PC) (z : Int) : PC := { (my13 x z) with y := { (my13 x z).y with ls := Qb4 x.y.ls.length (rz13 x z) } }
def my15 (x : PC) (z : Int) : PC := { (my14 x z) with db := Qcv x.db.length (rz14 x z) }
def mu16 (x : PC) (z : Int) : PC := { (my15 x z) with su := rz15 x z }
def my16 (x : PC) (z : Int) : PC := { (mu16 x z) with hs := marked mP cP x.hs (rz15 x z + 1) }
def mN (x : PC) (z : Int) : PC := my16 x z
theorem mk1 (x : PC) (hf : PFit x) (z : Int) (hz : 1 <= z) (hc : z + (cN x : Int) <= 45000000) (S : Nat -> Prop) (W : World) (h : POwn W (mu1 x z) S) : Calls Tryz.prog 55 #[.slice x.A x.l.length x.cap, .int .i64 (z + 1 + 1 + 1 + 1 + 1)] W fun e w' => e = .returned (.int .i64 (rz1 x z)) /\ Offp S W w' /\ POwn w' (my1 x z) S := by
 have l1 := hf.ll
 have l2 := hf.vl
 have l3 := hf.nl
 have l4 := hf.pl
 have l5 := hf.dl
 have l6 := hf.xf.dl
 have l7 := hf.yf.dl
 obtain ⟨⟨b1, b1'⟩, ⟨b2, b2'⟩, ⟨b3, b3'⟩, ⟨b4, b4'⟩, ⟨b5, b5'⟩, ⟨b6, b6'⟩, ⟨b7, b7'⟩, ⟨b8, b8'⟩, ⟨b9, b9'⟩, ⟨b10, b10'⟩, ⟨b11, b11'⟩, ⟨b12, b12'⟩, ⟨b13, b13'⟩, ⟨b14, b14'⟩, ⟨b15, b15'⟩, ⟨b16, b16'⟩, -, n1, n2, n3, n4, n5, n6, n7, n8, n9, n10, n11, n12, n13, n14, n15, n16⟩ := r_le x z hz hc
 obtain ⟨S1, h1, k1⟩ := h.fl
 refine (Qk5 x.A x.cap x.l S1 _ (by omega) (by omega) (by omega) W h1).mono ?_
 rintro e w' ⟨e1, ko, t⟩
 exact ⟨e1, (k1 _ _ ko t).1, (k1 _ _ ko t).2⟩
theorem mk2 (x : PC) (hf : PFit x) (z : Int) (hz : 1 <= z) (hc : z + (cN x : Int) <= 45000000) (S : Nat -> Prop) (W : World) (h : POwn W (my1 x z) S) : Calls Tryz.prog 56 #[.slice x.x.rA x.x.rs.length x.x.rc, .int .i64 (rz1 x z)] W fun e w' => e = .returned (.int .i64 (rz2 x z)) /\ Offp S W w' /\ POwn w' (my2 x z) S := by
 have l1 := hf.ll
 have l2 := hf.vl
 have l3 := hf.nl
 have l4 := hf.pl
 have l5 := hf.dl
 have l6 := hf.xf.dl
 have l7 := hf.yf.dl
 obtain ⟨⟨b1, b1'⟩, ⟨b2, b2'⟩, ⟨b3, b3'⟩, ⟨b4, b4'⟩, ⟨b5, b5'⟩, ⟨b6, b6'⟩, ⟨b7, b7'⟩, ⟨b8, b8'⟩, ⟨b9, b9'⟩, ⟨b10, b10'⟩, ⟨b11, b11'⟩, ⟨b12, b12'⟩, ⟨b13, b13'⟩, ⟨b14, b14'⟩, ⟨b15, b15'⟩, ⟨b16, b16'⟩, -, n1, n2, n3, n4, n5, n6, n7, n8, n9, n10, n11, n12, n13, n14, n15, n16⟩ := r_le x z hz hc
 obtain ⟨S1, h1, k1⟩ := h.fx
 obtain ⟨S2, h2, k2⟩ := h1.fr
 refine (Qk4 x.x.rA x.x.rc x.x.rs S2 _ (by omega) (by omega) (by omega) hf.xf.rl hf.xf.ri W h2).mono ?_
 rintro e w' ⟨e1, ko, t⟩
 exact ⟨e1, (k1 _ _ (k2 _ _ ko t).1 (k2 _ _ ko t).2).1, (k1 _ _ (k2 _ _ ko t).1 (k2 _ _ ko t).2).2⟩
theorem mk3 (x : PC) (hf : PFit x) (z : Int) (hz : 1 <= z) (hc : z + (cN x : Int) <= 45000000) (S : Nat -> Prop) (W : World) (h : POwn W (my2 x z) S) : Calls Tryz.prog 57 #[.slice x.x.mA x.x.ms.length x.x.mc, .int .i64 (rz2 x z)] W fun e w' => e = .returned (.int .i64 (rz3 x z)) /\ Offp S W w' /\ POwn w' (my3 x z) S := by
 have l1 := hf.ll
 have l2 := hf.vl
 have l3 := hf.nl
 have l4 := hf.pl
 have l5 := hf.dl
 have l6 := hf.xf.dl
 have l7 := hf.yf.dl
 obtain ⟨⟨b1, b1'⟩, ⟨b2, b2'⟩, ⟨b3, b3'⟩, ⟨b4, b4'⟩, ⟨b5, b5'⟩, ⟨b6, b6'⟩, ⟨b7, b7'⟩, ⟨b8, b8'⟩, ⟨b9, b9'⟩, ⟨b10, b10'⟩, ⟨b11, b11'⟩, ⟨b12, b12'⟩, ⟨b13, b13'⟩, ⟨b14, b14'⟩, ⟨b15, b15'⟩, ⟨b16, b16'⟩, -, n1, n2, n3, n4, n5, n6, n7, n8, n9, n10, n11, n12, n13, n14, n15, n16⟩ := r_le x z hz hc
 obtain ⟨S1, h1, k1⟩ := h.fx
 obtain ⟨S2, h2, k2⟩ := h1.fm
 refine (Qg2 x.x.mA x.x.mc x.x.ms S2 _ (by omega) (by omega) (by omega) hf.xf.ml hf.xf.mi W h2).mono ?_
 rintro e w' ⟨e1, ko, t⟩
 exact ⟨e1, (k1 _ _ (k2 _ _ ko t).1 (k2 _ _ ko t).2).1, (k1 _ _ (k2 _ _ ko t).1 (k2 _ _ ko t).2).2⟩
theorem mk4 (x : PC) (hf : PFit x) (z : Int) (hz : 1 <= z) (hc : z + (cN x : Int) <= 45000000) (S : Nat -> Prop) (W : World) (h : POwn W (my3 x z) S) : Calls Tryz.prog 58 #[.slice x.x.gA x.x.gs.length x.x.gc, .int .i64 (rz3 x z)] W fun e w' => e = .returned (.int .i64 (rz4 x z)) /\ Offp S W w' /\ POwn w' (my4 x z) S := by
 have l1 := hf.ll
 have l2 := hf.vl
 have l3 := hf.nl
 have l4 := hf.pl
 have l5 := hf.dl
 have l6 := hf.xf.dl
 have l7 := hf.yf.dl
 obtain ⟨⟨b1, b1'⟩, ⟨b2, b2'⟩, ⟨b3, b3'⟩, ⟨b4, b4'⟩, ⟨b5, b5'⟩, ⟨b6, b6'⟩, ⟨b7, b7'⟩, ⟨b8, b8'⟩, ⟨b9, b9'⟩, ⟨b10, b10'⟩, ⟨b11, b11'⟩, ⟨b12, b12'⟩, ⟨b13, b13'⟩, ⟨b14, b14'⟩, ⟨b15, b15'⟩, ⟨b16, b16'⟩, -, n1, n2, n3, n4, n5, n6, n7, n8, n9, n10, n11, n12, n13, n14, n15, n16⟩ := r_le x z hz hc
 obtain ⟨S1, h1, k1⟩ := h.fx
 obtain ⟨S2, h2, k2⟩ := h1.fg
 refine (Qg3 x.x.gA x.x.gc x.x.gs S2 _ (by omega) (by omega) (by omega) hf.xf.gl hf.xf.gi W h2).mono ?_
 rintro e w' ⟨e1, ko, t⟩
 exact ⟨e1, (k1 _ _ (k2 _ _ ko t).1 (k2 _ _ ko t).2).1, (k1 _ _ (k2 _ _ ko t).1 (k2 _ _ ko t).2).2⟩
theorem mk5 (x : PC) (hf : PFit x) (z : Int) (hz : 1 <= z) (hc : z + (cN x : Int) <= 45000000) (S : Nat -> Prop) (W : World) (h : POwn W (mu5 x z) S) : Calls Tryz.prog 24 #[.slice x.x.dA x.x.ds.length x.x.dc, .int .i64 (rz4 x z + 1)] W fun e w' => e = .returned (.int .i64 (rz5 x z)) /\ Offp S W w' /\ POwn w' (my5 x z) S := by
 have l1 := hf.ll
 have l2 := hf.vl
 have l3 := hf.nl
 have l4 := hf.pl
 have l5 := hf.dl
 have l6 := hf.xf.dl
 have l7 := hf.yf.dl
 obtain ⟨⟨b1, b1'⟩, ⟨b2, b2'⟩, ⟨b3, b3'⟩, ⟨b4, b4'⟩, ⟨b5, b5'⟩, ⟨b6, b6'⟩, ⟨b7, b7'⟩, ⟨b8, b8'⟩, ⟨b9, b9'⟩, ⟨b10, b10'⟩, ⟨b11, b11'⟩, ⟨b12, b12'⟩, ⟨b13, b13'⟩, ⟨b14, b14'⟩, ⟨b15, b15'⟩, ⟨b16, b16'⟩, -, n1, n2, n3, n4, n5, n6, n7, n8, n9, n10, n11, n12, n13, n14, n15, n16⟩ := r_le x z hz hc
 obtain ⟨S1, h1, k1⟩ := h.fx
 obtain ⟨S2, h2, k2⟩ := h1.fd
 refine (Qdd x.x.dA x.x.dc x.x.ds S2 _ (by omega) (by omega) (by omega) W h2).mono ?_
 rintro e w' ⟨e1, ko, t⟩
 exact ⟨e1, (k1 _ _ (k2 _ _ ko t).1 (k2 _ _ ko t).2).1, (k1 _ _ (k2 _ _ ko t).1 (k2 _ _ ko t).2).2⟩
theorem mk6 (x : PC) (hf : PFit x) (z : Int) (hz : 1 <= z) (hc : z + (cN x : Int) <= 45000000) (S : Nat -> Prop) (W : World) (h : POwn W (my5 x z) S) : Calls Tryz.prog 59 #[.slice x.x.lA x.x.ls.length x.x.lc, .int .i64 (rz5 x z)] W fun e w' => e = .returned (.int .i64 (rz6 x z)) /\ Offp S W w' /\ POwn w' (my6 x z) S := by
 have l1 := hf.ll
 have l2 := hf.vl
 have l3 := hf.nl
 have l4 := hf.pl
 have l5 := hf.dl
 have l6 := hf.xf.dl
 have l7 := hf.yf.dl
 obtain ⟨⟨b1, b1'⟩, ⟨b2, b2'⟩, ⟨b3, b3'⟩, ⟨b4, b4'⟩, ⟨b5, b5'⟩, ⟨b6, b6'⟩, ⟨b7, b7'⟩, ⟨b8, b8'⟩, ⟨b9, b9'⟩, ⟨b10, b10'⟩, ⟨b11, b11'⟩, ⟨b12, b12'⟩, ⟨b13, b13'⟩, ⟨b14, b14'⟩, ⟨b15, b15'⟩, ⟨b16, b16'⟩, -, n1, n2, n3, n4, n5, n6, n7, n8, n9, n10, n11, n12, n13, n14, n15, n16⟩ := r_le x z hz hc
 obtain ⟨S1, h1, k1⟩ := h.fx
 obtain ⟨S2, h2, k2⟩ := h1.fl
 refine (Qgb x.x.lA x.x.lc x.x.ls S2 _ (by omega) (by omega) hf.xf.ll W h2).mono ?_
 rintro e w' ⟨e1, ko, t⟩
 exact ⟨e1, (k1 _ _ (k2 _ _ ko t).1 (k2 _ _ ko t).2).1, (k1 _ _ (k2 _ _ ko t).1 (k2 _ _ ko t).2).2⟩
theorem mk7 (x : PC) (hf : PFit x) (z : Int) (hz : 1 <= z) (hc : z + (cN x : Int) <= 45000000) (S : Nat -> Prop) (W : World) (h : POwn W (mu7 x z) S) : Calls Tryz.prog 60 #[.slice x.vA x.vs.length x.vc, .int .i64 (rz6 x z + 1)] W fun e w' => e = .returned (.int .i64 (rz7 x z)) /\ Offp S W w' /\ POwn w' (my7 x z) S := by
 have l1 := hf.ll
 have l2 := hf.vl
 have l3 := hf.nl
 have l4 := hf.pl
 have l5 := hf.dl
 have l6 := hf.xf.dl
 have l7 := hf.yf.dl
 obtain ⟨⟨b1, b1'⟩, ⟨b2, b2'⟩, ⟨b3, b3'⟩, ⟨b4, b4'⟩, ⟨b5, b5'⟩, ⟨b6, b6'⟩, ⟨b7, b7'⟩, ⟨b8, b8'⟩, ⟨b9, b9'⟩, ⟨b10, b10'⟩, ⟨b11, b11'⟩, ⟨b12, b12'⟩, ⟨b13, b13'⟩, ⟨b14, b14'⟩, ⟨b15, b15'⟩, ⟨b16, b16'⟩, -, n1, n2, n3, n4, n5, n6, n7, n8, n9, n10, n11, n12, n13, n14, n15, n16⟩ := r_le x z hz hc
 obtain ⟨S1, h1, k1⟩ := h.fv
 refine (mark_bools x.vA x.vc x.vs S1 _ (by omega) (by omega) (by omega) W h1).mono ?_
 rintro e w' ⟨e1, ko, t⟩
 exact ⟨e1, (k1 _ _ ko t).1, (k1 _ _ ko t).2⟩
theorem mk8 (x : PC) (hf : PFit x) (z : Int) (hz : 1 <= z) (hc : z + (cN x : Int) <= 45000000) (S : Nat -> Prop) (W : World) (h : POwn W (my7 x z) S) : Calls Tryz.prog 24 #[.slice x.nA x.ns.length x.nc, .int .i64 (rz7 x z)] W fun e w' => e = .returned (.int .i64 (rz8 x z)) /\ Offp S W w' /\ POwn w' (my8 x z) S := by
 have l1 := hf.ll
 have l2 := hf.vl
 have l3 := hf.nl
 have l4 := hf.pl
 have l5 := hf.dl
 have l6 := hf.xf.dl
 have l7 := hf.yf.dl
 obtain ⟨⟨b1, b1'⟩, ⟨b2, b2'⟩, ⟨b3, b3'⟩, ⟨b4, b4'⟩, ⟨b5, b5'⟩, ⟨b6, b6'⟩, ⟨b7, b7'⟩, ⟨b8, b8'⟩, ⟨b9, b9'⟩, ⟨b10, b10'⟩, ⟨b11, b11'⟩, ⟨b12, b12'⟩, ⟨b13, b13'⟩, ⟨b14, b14'⟩, ⟨b15, b15'⟩, ⟨b16, b16'⟩, -, n1, n2, n3, n4, n5, n6, n7, n8, n9, n10, n11, n12, n13, n14, n15, n16⟩ := r_le x z hz hc
 obtain ⟨S1, h1, k1⟩ := h.fn
 refine (Qdd x.nA x.nc x.ns S1 _ (by omega) (by omega) (by omega) W h1).mono ?_
 rintro e w' ⟨e1, ko, t⟩
 exact ⟨e1, (k1 _ _ ko t).1, (k1 _ _ ko t).2⟩
theorem mk9 (x : PC) (hf : PFit x) (z : Int) (hz : 1 <= z) (hc : z + (cN x : Int) <= 45000000) (S : Nat -> Prop) (W : World) (h : POwn W (my8 x z) S) : Calls Tryz.prog 24 #[.slice x.pA x.ps.length x.pc, .int .i64 (rz8 x z)] W fun e w' => e = .returned (.int .i64 (rz9 x z)) /\ Offp S W w' /\ POwn w' (my9 x z) S := by
 have l1 := hf.ll
 have l2 := hf.vl
 have l3 := hf.nl
 have l4 := hf.pl
 have l5 := hf.dl
 have l6 := hf.xf.dl
 have l7 := hf.yf.dl
 obtain ⟨⟨b1, b1'⟩, ⟨b2, b2'⟩, ⟨b3, b3'⟩, ⟨b4, b4'⟩, ⟨b5, b5'⟩, ⟨b6, b6'⟩, ⟨b7, b7'⟩, ⟨b8, b8'⟩, ⟨b9, b9'⟩, ⟨b10, b10'⟩, ⟨b11, b11'⟩, ⟨b12, b12'⟩, ⟨b13, b13'⟩, ⟨b14, b14'⟩, ⟨b15, b15'⟩, ⟨b16, b16'⟩, -, n1, n2, n3, n4, n5, n6, n7, n8, n9, n10, n11, n12, n13, n14, n15, n16⟩ := r_le x z hz hc
 obtain ⟨S1, h1, k1⟩ := h.fq
 refine (Qdd x.pA x.pc x.ps S1 _ (by omega) (by omega) (by omega) W h1).mono ?_
 rintro e w' ⟨e1, ko, t⟩
 exact ⟨e1, (k1 _ _ ko t).1, (k1 _ _ ko t).2⟩
theorem mk10 (x : PC) (hf : PFit x) (z : Int) (hz : 1 <= z) (hc : z + (cN x : Int) <= 45000000) (S : Nat -> Prop) (W : World) (h : POwn W (mu10 x z) S) : Calls Tryz.prog 56 #[.slice x.y.rA x.y.rs.length x.y.rc, .int .i64 (rz9 x z + 1)] W fun e w' => e = .returned (.int .i64 (rz10 x z)) /\ Offp S W w' /\ POwn w' (my10 x z) S := by
 have l1 := hf.ll
 have l2 := hf.vl
 have l3 := hf.nl
 have l4 := hf.pl
 have l5 := hf.dl
 have l6 := hf.xf.dl
 have l7 := hf.yf.dl
 obtain ⟨⟨b1, b1'⟩, ⟨b2, b2'⟩, ⟨b3, b3'⟩, ⟨b4, b4'⟩, ⟨b5, b5'⟩, ⟨b6, b6'⟩, ⟨b7, b7'⟩, ⟨b8, b8'⟩, ⟨b9, b9'⟩, ⟨b10, b10'⟩, ⟨b11, b11'⟩, ⟨b12, b12'⟩, ⟨b13, b13'⟩, ⟨b14, b14'⟩, ⟨b15, b15'⟩, ⟨b16, b16'⟩, -, n1, n2, n3, n4, n5, n6, n7, n8, n9, n10, n11, n12, n13, n14, n15, n16⟩ := r_le x z hz hc
 obtain ⟨S1, h1, k1⟩ := h.fy
 obtain ⟨S2, h2, k2⟩ := h1.fr
 refine (Qk4 x.y.rA x.y.rc x.y.rs S2 _ (by omega) (by omega) (by omega) hf.yf.rl hf.yf.ri W h2).mono ?_
 rintro e w' ⟨e1, ko, t⟩
 exact ⟨e1, (k1 _ _ (k2 _ _ ko t).1 (k2 _ _ ko t).2).1, (k1 _ _ (k2 _ _ ko t).1 (k2 _ _ ko t).2).2⟩
theorem mk11 (x : PC) (hf : PFit x) (z : Int) (hz : 1 <= z) (hc : z + (cN x : Int) <= 45000000) (S : Nat -> Prop) (W : World) (h : POwn W (my10 x z) S) : Calls Tryz.prog 57 #[.slice x.y.mA x.y.ms.length x.y.mc, .int .i64 (rz10 x z)] W fun e w' => e = .returned (.int .i64 (rz11 x z)) /\ Offp S W w' /\ POwn w' (my11 x z) S := by
 have l1 := hf.ll
 have l2 := hf.vl
 have l3 := hf.nl
 have l4 := hf.pl
 have l5 := hf.dl
 have l6 := hf.xf.dl
 have l7 := hf.yf.dl
 obtain ⟨⟨b1, b1'⟩, ⟨b2, b2'⟩, ⟨b3, b3'⟩, ⟨b4, b4'⟩, ⟨b5, b5'⟩, ⟨b6, b6'⟩, ⟨b7, b7'⟩, ⟨b8, b8'⟩, ⟨b9, b9'⟩, ⟨b10, b10'⟩, ⟨b11, b11'⟩, ⟨b12, b12'⟩, ⟨b13, b13'⟩, ⟨b14, b14'⟩, ⟨b15, b15'⟩, ⟨b16, b16'⟩, -, n1, n2, n3, n4, n5, n6, n7, n8, n9, n10, n11, n12, n13, n14, n15, n16⟩ := r_le x z hz hc
 obtain ⟨S1, h1, k1⟩ := h.fy
 obtain ⟨S2, h2, k2⟩ := h1.fm
 refine (Qg2 x.y.mA x.y.mc x.y.ms S2 _ (by omega) (by omega) (by omega) hf.yf.ml hf.yf.mi W h2).mono ?_
 rintro e w' ⟨e1, ko, t⟩
 exact ⟨e1, (k1 _ _ (k2 _ _ ko t).1 (k2 _ _ ko t).2).1, (k1 _ _ (k2 _ _ ko t).1 (k2 _ _ ko t).2).2⟩
theorem mk12 (x : PC) (hf : PFit x) (z : Int) (hz : 1 <= z) (hc : z + (cN x : Int) <= 45000000) (S : Nat -> Prop) (W : World) (h : POwn W (my11 x z) S) : Calls Tryz.prog 58 #[.slice x.y.gA x.y.gs.length x.y.gc, .int .i64 (rz11 x z)] W fun e w' => e = .returned (.int .i64 (rz12 x z)) /\ Offp S W w' /\ POwn w' (my12 x z) S := by
 have l1 := hf.ll
 have l2 := hf.vl
 have l3 := hf.nl
 have l4 := hf.pl
 have l5 := hf.dl
 have l6 := hf.xf.dl
 have l7 := hf.yf.dl
 obtain ⟨⟨b1, b1'⟩, ⟨b2, b2'⟩, ⟨b3, b3'⟩, ⟨b4, b4'⟩, ⟨b5, b5'⟩, ⟨b6, b6'⟩, ⟨b7, b7'⟩, ⟨b8, b8'⟩, ⟨b9, b9'⟩, ⟨b10, b10'⟩, ⟨b11, b11'⟩, ⟨b12, b12'⟩, ⟨b13, b13'⟩, ⟨b14, b14'⟩, ⟨b15, b15'⟩, ⟨b16, b16'⟩, -, n1, n2, n3, n4, n5, n6, n7, n8, n9, n10, n11, n12, n13, n14, n15, n16⟩ := r_le x z hz hc
 obtain ⟨S1, h1, k1⟩ := h.fy
 obtain ⟨S2, h2, k2⟩ := h1.fg
 refine (Qg3 x.y.gA x.y.gc x.y.gs S2 _ (by omega) (by omega) (by omega) hf.yf.gl hf.yf.gi W h2).mono ?_
 rintro e w' ⟨e1, ko, t⟩
 exact ⟨e1, (k1 _ _ (k2 _ _ ko t).1 (k2 _ _ ko t).2).1, (k1 _ _ (k2 _ _ ko t).1 (k2 _ _ ko t).2).2⟩
theorem mk13 (x : PC) (hf : PFit x) (z : Int) (hz : 1 <= z) (hc : z + (cN x : Int) <= 45000000) (S : Nat -> Prop) (W : World) (h : POwn W (mu13 x z) S) : Calls Tryz.prog 24 #[.slice x.y.dA x.y.ds.length x.y.dc, .int .i64 (rz12 x z + 1)] W fun e w' => e = .returned (.int .i64 (rz13 x z)) /\ Offp S W w' /\ POwn w' (my13 x z) S := by
 have l1 := hf.ll
 have l2 := hf.vl
 have l3 := hf.nl
 have l4 := hf.pl
 have l5 := hf.dl
 have l6 := hf.xf.dl
 have l7 := hf.yf.dl
 obtain ⟨⟨b1, b1'⟩, ⟨b2, b2'⟩, ⟨b3, b3'⟩, ⟨b4, b4'⟩, ⟨b5, b5'⟩, ⟨b6, b6'⟩, ⟨b7, b7'⟩, ⟨b8, b8'⟩, ⟨b9, b9'⟩, ⟨b10, b10'⟩, ⟨b11, b11'⟩, ⟨b12, b12'⟩, ⟨b13, b13'⟩, ⟨b14, b14'⟩, ⟨b15, b15'⟩, ⟨b16, b16'⟩, -, n1, n2, n3, n4, n5, n6, n7, n8, n9, n10, n11, n12, n13, n14, n15, n16⟩ := r_le x z hz hc
 obtain ⟨S1, h1, k1⟩ := h.fy
 obtain ⟨S2, h2, k2⟩ := h1.fd
 refine (Qdd x.y.dA x.y.dc x.y.ds S2 _ (by omega) (by omega) (by omega) W h2).mono ?_
 rintro e w' ⟨e1, ko, t⟩
 exact ⟨e1, (k1 _ _ (k2 _ _ ko t).1 (k2 _ _ ko t).2).1, (k1 _ _ (k2 _ _ ko t).1 (k2 _ _ ko t).2).2⟩
theorem mk14 (x : PC) (hf : PFit x) (z : Int) (hz : 1 <= z) (hc : z + (cN x : Int) <= 45000000) (S : Nat -> Prop) (W : World) (h : POwn W (my13 x z) S) : Calls Tryz.prog 59 #[.slice x.y.lA x.y.ls.length x.y.lc, .int .i64 (rz13 x z)] W fun e w' => e = .returned (.int .i64 (rz14 x z)) /\ Offp S W w' /\ POwn w' (my14 x z) S := by
 have l1 := hf.ll
 have l2 := hf.vl
 have l3 := hf.nl
 have l4 := hf.pl
 have l5 := hf.dl
 have l6 := hf.xf.dl
 have l7 := hf.yf.dl
 obtain ⟨⟨b1, b1'⟩, ⟨b2, b2'⟩, ⟨b3, b3'⟩, ⟨b4, b4'⟩, ⟨b5, b5'⟩, ⟨b6, b6'⟩, ⟨b7, b7'⟩, ⟨b8, b8'⟩, ⟨b9, b9'⟩, ⟨b10, b10'⟩, ⟨b11, b11'⟩, ⟨b12, b12'⟩, ⟨b13, b13'⟩, ⟨b14, b14'⟩, ⟨b15, b15'⟩, ⟨b16, b16'⟩, -, n1, n2, n3, n4, n5, n6, n7, n8, n9, n10, n11, n12, n13, n14, n15, n16⟩ := r_le x z hz hc
 obtain ⟨S1, h1, k1⟩ := h.fy
 obtain ⟨S2, h2, k2⟩ := h1.fl
 refine (Qgb x.y.lA x.y.lc x.y.ls S2 _ (by omega) (by omega) hf.yf.ll W h2).mono ?_
 rintro e w' ⟨e1, ko, t⟩
 exact ⟨e1, (k1 _ _ (k2 _ _ ko t).1 (k2 _ _ ko t).2).1, (k1 _ _ (k2 _ _ ko t).1 (k2 _ _ ko t).2).2⟩
theorem mk15 (x : PC) (hf : PFit x) (z : Int) (hz : 1 <= z) (hc : z + (cN x : Int) <= 45000000) (S : Nat -> Prop) (W : World) (h : POwn W (my14 x z) S) : Calls Tryz.prog 61 #[.slice x.dA x.db.length x.dc, .int .i64 (rz14 x z)] W fun e w' => e = .returned (.int .i64 (rz15 x z)) /\ Offp S W w' /\ POwn w' (my15 x z) S := by
 have l1 := hf.ll
 have l2 := hf.vl
 have l3 := hf.nl
 have l4 := hf.pl
 have l5 := hf.dl
 have l6 := hf.xf.dl
 have l7 := hf.yf.dl
 obtain ⟨⟨b1, b1'⟩, ⟨b2, b2'⟩, ⟨b3, b3'⟩, ⟨b4, b4'⟩, ⟨b5, b5'⟩, ⟨b6, b6'⟩, ⟨b7, b7'⟩, ⟨b8, b8'⟩, ⟨b9, b9'⟩, ⟨b10, b10'⟩, ⟨b11, b11'⟩, ⟨b12, b12'⟩, ⟨b13, b13'⟩, ⟨b14, b14'⟩, ⟨b15, b15'⟩, ⟨b16, b16'⟩, -, n1, n2, n3, n4, n5, n6, n7, n8, n9, n10, n11, n12, n13, n14, n15, n16⟩ := r_le x z hz hc
 obtain ⟨S1, h1, k1⟩ := h.fd
 refine (mark_bys x.dA x.dc x.db S1 _ (by omega) (by omega) (by omega) W h1).mono ?_
 rintro e w' ⟨e1, ko, t⟩
 exact ⟨e1, (k1 _ _ ko t).1, (k1 _ _ ko t).2⟩
theorem mk16 (x : PC) (hf : PFit x) (z : Int) (hz : 1 <= z) (hc : z + (cN x : Int) <= 45000000) (S : Nat -> Prop) (W : World) (h : POwn W (mu16 x z) S) : Calls Tryz.prog 22 #[.slice x.hA x.hs.length x.hc, .int .i64 (rz15 x z + 1)] W fun e w' => e = .returned (.int .i64 (rz16 x z)) /\ Offp S W w' /\ POwn w' (my16 x z) S := by
 have l1 := hf.ll
 have l2 := hf.vl
 have l3 := hf.nl
 have l4 := hf.pl
 have l5 := hf.dl
 have l6 := hf.xf.dl
 have l7 := hf.yf.dl
 obtain ⟨⟨b1, b1'⟩, ⟨b2, b2'⟩, ⟨b3, b3'⟩, ⟨b4, b4'⟩, ⟨b5, b5'⟩, ⟨b6, b6'⟩, ⟨b7, b7'⟩, ⟨b8, b8'⟩, ⟨b9, b9'⟩, ⟨b10, b10'⟩, ⟨b11, b11'⟩, ⟨b12, b12'⟩, ⟨b13, b13'⟩, ⟨b14, b14'⟩, ⟨b15, b15'⟩, ⟨b16, b16'⟩, -, n1, n2, n3, n4, n5, n6, n7, n8, n9, n10, n11, n12, n13, n14, n15, n16⟩ := r_le x z hz hc
 obtain ⟨S1, h1, k1⟩ := h.fh
 refine (Qk3 x.hA x.hc x.hs S1 _ (by omega) (by omega) (by omega) hf.hl hf.hi W h1).mono ?_
 rintro e w' ⟨e1, ko, t⟩
 exact ⟨e1, (k1 _ _ ko t).1, (k1 _ _ ko t).2⟩
theorem pset {W : World} {b o n : Nat} {L : List PC} {x : PC} {fp : Nat -> Nat -> Prop} (h : OwnF pcP W b o (L.set n x) fp) (hn : n < L.length) (y : PC) (f : Nat) (hf : f < 26) (v : Value) (hy : Cel.cs y = (Cel.cs x).set f v) (hs : ∀ W S, POwn W x S -> POwn W y S) : OwnF pcP (W.setCell ⟨b, o + n * 26 + f, none⟩ v) b o (L.set n y) fp := by
 have h2 := h.set1 Qcc n (by rw [List.length_set]; exact hn) y f hf v (by rw [List.getElem_set_self]; exact hy) (fun W S k => by rw [List.getElem_set_self] at k; exact hs W S k)
 rw [List.set_set] at h2
 exact h2
theorem ptrn {W W' : World} {b o n : Nat} {L : List PC} {x : PC} {fp : Nat -> Nat -> Prop} (h : OwnF pcP W b o (L.set n x) fp) (hn : n < L.length) (y : PC) (hc : Cel.cs y = Cel.cs x) (k : Offp (fp n) W W') (hy : POwn W' y (fp n)) : OwnF pcP W' b o (L.set n y) fp := by
 have h2 := h.turn Qcc n (by rw [List.length_set]; exact hn) y (by rw [List.getElem_set_self]; exact hc) k hy
 rw [List.set_set] at h2
 exact h2
theorem pown {W : World} {b o n : Nat} {L : List PC} {x : PC} {fp : Nat -> Nat -> Prop} (h : OwnF pcP W b o (L.set n x) fp) (hn : n < L.length) : POwn W x (fp n) := by
 have h2 := h.sub n (by rw [List.length_set]; exact hn)
 rw [List.getElem_set_self] at h2
 exact h2
theorem Qdc {W : World} {b o n : Nat} {L : List PC} {x : PC} {fp : Nat -> Nat -> Prop} (h : OwnF pcP W b o (L.set n x) fp) (hn : n < L.length) {f : Nat} {v : Value} (hv : (Cel.cs x)[f]? = some v) : W.cell? ⟨b, o + n * 26 + f, none⟩ = some v :=
 h.lst.cell n (by rw [List.length_set]; exact hn) (f := f) (by rw [List.getElem_set_self]; exact hv)
theorem Qhx {W : World} {b o n : Nat} {L : List PC} {x : PC} {fp : Nat -> Nat -> Prop} (h : OwnF pcP W b o (L.set n x) fp) (hn : n < L.length) (f : Nat) (hf : f < 26) : W.frozen? ⟨b, o + n * 26 + f, none⟩ = false := by
 have h2 := h.th
 rw [List.length_set] at h2
 exact (Qaq (f := f) h2 hn hf).2
theorem yc1 (x : PC) (z : Int) : Cel.cs (my1 x z) = Cel.cs (mu1 x z) := by
 show (Qam _).toList = (Qam _).toList
 simp only [my1, Qam, Qb7, Qdg, Qbg]
 rfl
theorem yc2 (x : PC) (z : Int) : Cel.cs (my2 x z) = Cel.cs (my1 x z) := by
 show (Qam _).toList = (Qam _).toList
 simp only [my2, Qam, Qb7, Qdg, Qa0]
 rfl
theorem yc3 (x : PC) (z : Int) : Cel.cs (my3 x z) = Cel.cs (my2 x z) := by
 show (Qam _).toList = (Qam _).toList
 simp only [my3, Qam, Qb7, Qdg, Qa0]
 rfl
theorem yc4 (x : PC) (z : Int) : Cel.cs (my4 x z) = Cel.cs (my3 x z) := by
 show (Qam _).toList = (Qam _).toList
 simp only [my4, Qam, Qb7, Qdg, Qa0]
 rfl
theorem yc5 (x : PC) (z : Int) : Cel.cs (my5 x z) = Cel.cs (mu5 x z) := by
 show (Qam _).toList = (Qam _).toList
 simp only [my5, Qam, Qb7, Qdg, Qat]
 rfl
theorem yc6 (x : PC) (z : Int) : Cel.cs (my6 x z) = Cel.cs (my5 x z) := by
 show (Qam _).toList = (Qam _).toList
 simp only [my6, Qam, Qb7, Qdg, Qbq]
 rfl
theorem yc7 (x : PC) (z : Int) : Cel.cs (my7 x z) = Cel.cs (mu7 x z) := by
 show (Qam _).toList = (Qam _).toList
 simp only [my7, Qam, Qb7, Qdg, Qbx]
 rfl
theorem yc8 (x : PC) (z : Int) : Cel.cs (my8 x z) = Cel.cs (my7 x z) := by
 show (Qam _).toList = (Qam _).toList
 simp only [my8, Qam, Qb7, Qdg, Qat]
 rfl
theorem yc9 (x : PC) (z : Int) : Cel.cs (my9 x z) = Cel.cs (my8 x z) := by
 show (Qam _).toList = (Qam _).toList
 simp only [my9, Qam, Qb7, Qdg, Qat]
 rfl
theorem yc10 (x : PC) (z : Int) : Cel.cs (my10 x z) = Cel.cs (mu10 x z) := by
 show (Qam _).toList = (Qam _).toList
 simp only [my10, Qam, Qb7, Qdg, Qa0]
 rfl
theorem yc11 (x : PC) (z : Int) : Cel.cs (my11 x z) = Cel.cs (my10 x z) := by
 show (Qam _).toList = (Qam _).toList
 simp only [my11, Qam, Qb7, Qdg, Qa0]
 rfl
theorem yc12 (x : PC) (z : Int) : Cel.cs (my12 x z) = Cel.cs (my11 x z) := by
 show (Qam _).toList = (Qam _).toList
 simp only [my12, Qam, Qb7, Qdg, Qa0]
 rfl
theorem yc13 (x : PC) (z : Int) : Cel.cs (my13 x z) = Cel.cs (mu13 x z) := by
 show (Qam _).toList = (Qam _).toList
 simp only [my13, Qam, Qb7, Qdg, Qat]
 rfl
theorem yc14 (x : PC) (z : Int) : Cel.cs (my14 x z) = Cel.cs (my13 x z) := by
 show (Qam _).toList = (Qam _).toList
 simp only [my14, Qam, Qb7, Qdg, Qbq]
 rfl
theorem yc15 (x : PC) (z : Int) : Cel.cs (my15 x z) = Cel.cs (my14 x z) := by
 show (Qam _).toList = (Qam _).toList
 simp only [my15, Qam, Qb7, Qdg, Qcl]
 rfl
theorem yc16 (x : PC) (z : Int) : Cel.cs (my16 x z) = Cel.cs (mu16 x z) := by
 show (Qam _).toList = (Qam _).toList
 simp only [my16, Qam, Qb7, Qdg, Qa0]
 rfl
theorem Qja (b o cap : Nat) (l : List PC) (fp : Nat -> Nat -> Prop) (k : Int) (hk : 1 <= k) (hk' : k <= 5000000) (hc : Qak cN l <= 40000000) (hl : l.length <= 1048576) (hs : ∀ x ∈ l, PFit x) (w : World) (hO : OwnF pcP w b o l fp) :
 Calls Tryz.prog 21 #[.slice (some ⟨b, o, none⟩) l.length cap, .int .i64 k] w fun e w' => e = .returned (.int .i64 (k + (Qak cN l : Int))) /\ Offp (fun x => x = b ∨ ∃ i, fp i x) w w' /\ OwnF pcP w' b o (marked mN cN l k) fp := by
 have HO := hidP hO
 have Hs := hidP hs
 have Hc := hidP hc
 clear hO hs hc
 go_enter Tryz.func21, Tryz.ntmps21
 go_wp2
 go_loopw [1, 5] (fun kk i w' => ∃ (n : Nat) (z : Int), i = .int .i64 (n : Int) /\ kk = .int .i64 z /\ n <= l.length /\ 1 <= z /\ z <= 45000000 /\ Hid (z = k + (Qak cN (l.take n) : Int)) /\ Hid (Offp (fun x => x = b ∨ ∃ i, fp i x) w w') /\ Hid (OwnF pcP w' b o (half mN cN l k n) fp)) (fun _ i _ => l.length - (intOf i).toNat)
 case atStart => exact ⟨0, k, rfl, rfl, by omega, hk, by omega, by simp [Hid, Qak], Offp.refl _ _, by rw [Qeo]; exact HO.out⟩
 case round =>
  obtain ⟨n, z, rfl, rfl, hn, hz1, hz2, hz, hoff, hown⟩ := hrel
  by_cases hlt : n < l.length
  . have hcn : Qak cN (l.take n) + cN l[n] <= 40000000 := by rw [← Qa5 cN l n hlt]; exact Nat.le_trans (Qda cN l (n + 1)) Hc.out
    have Hsn := hidP (Qa5 cN l n hlt)
    have Hsu := hidP (Qep mN cN l k n hlt)
    have HL : Hid (n < (half mN cN l k n).length) := by rw [Qdp]; exact hlt
    have HN : Hid (OwnF pcP wr b o ((half mN cN l k n).set n l[n]) fp) := by
     have e := Qfn mN cN l k n hlt HL.out
     have h2 := hown.out
     rw [← e, List.set_getElem_self]
     exact h2
    have HF := hidP (Hs.out _ (List.getElem_mem hlt))
    rw [← hz.out] at Hsu
    generalize l[n] = x at hcn Hsn Hsu HN HF
    generalize half mN cN l k n = L at Hsu HL HN
    have hzc : z + (cN x : Int) <= 45000000 := by have := hz.out; omega
    have HZc := hidP hzc
    have HRe := hidP (r_le x z hz1 hzc).2.2.2.2.2.2.2.2.2.2.2.2.2.2.2.2.1
    obtain ⟨⟨b1, b1'⟩, ⟨b2, b2'⟩, ⟨b3, b3'⟩, ⟨b4, b4'⟩, ⟨b5, b5'⟩, ⟨b6, b6'⟩, ⟨b7, b7'⟩, ⟨b8, b8'⟩, ⟨b9, b9'⟩, ⟨b10, b10'⟩, ⟨b11, b11'⟩, ⟨b12, b12'⟩, ⟨b13, b13'⟩, ⟨b14, b14'⟩, ⟨b15, b15'⟩, ⟨b16, b16'⟩, -⟩ := r_le x z hz1 hzc
    clear hown hcn hzc
    have q0 : b < wr.heap.size := HN.out.lt
    have c0 : wr.cell? ⟨b, o + n * 26, none⟩ = some (.int .i64 x.id) := Qdc HN.out HL.out (f := 0) rfl
    have f0 := Qhx HN.out HL.out 0 (by decide)
    simp only [Nat.add_zero] at f0
    have c1 : wr.cell? ⟨b, o + n * 26 + 1, none⟩ = some (.int .i64 x.te) := Qdc HN.out HL.out (f := 1) rfl
    have f1 := Qhx HN.out HL.out 1 (by decide)
    have c2 : wr.cell? ⟨b, o + n * 26 + 2, none⟩ = some (.int .i64 x.vo) := Qdc HN.out HL.out (f := 2) rfl
    have f2 := Qhx HN.out HL.out 2 (by decide)
    have c3 : wr.cell? ⟨b, o + n * 26 + 3, none⟩ = some (.int .i64 x.base) := Qdc HN.out HL.out (f := 3) rfl
    have f3 := Qhx HN.out HL.out 3 (by decide)
    have c4 : wr.cell? ⟨b, o + n * 26 + 4, none⟩ = some (.int .i64 x.bt) := Qdc HN.out HL.out (f := 4) rfl
    have f4 := Qhx HN.out HL.out 4 (by decide)
    have c5 : wr.cell? ⟨b, o + n * 26 + 5, none⟩ = some (.slice x.A x.l.length x.cap) := Qdc HN.out HL.out (f := 5) rfl
    have A0 := pset HN.out HL.out { x with id := z } 0 (by decide) (.int .i64 z) rfl (fun W S ⟨c, h⟩ => ⟨c, ⟨h.l, h.x, h.v, h.n, h.q, h.y, h.d, h.h⟩⟩)
    have A1 := pset A0 HL.out { x with id := z, te := z + 1 } 1 (by decide) (.int .i64 (z + 1)) rfl (fun W S ⟨c, h⟩ => ⟨c, ⟨h.l, h.x, h.v, h.n, h.q, h.y, h.d, h.h⟩⟩)
    have A2 := pset A1 HL.out { x with id := z, te := z + 1, vo := z + 1 + 1 } 2 (by decide) (.int .i64 (z + 1 + 1)) rfl (fun W S ⟨c, h⟩ => ⟨c, ⟨h.l, h.x, h.v, h.n, h.q, h.y, h.d, h.h⟩⟩)
    have A3 := pset A2 HL.out { x with id := z, te := z + 1, vo := z + 1 + 1, base := z + 1 + 1 + 1 } 3 (by decide) (.int .i64 (z + 1 + 1 + 1)) rfl (fun W S ⟨c, h⟩ => ⟨c, ⟨h.l, h.x, h.v, h.n, h.q, h.y, h.d, h.h⟩⟩)
    have A4 := pset A3 HL.out { x with id := z, te := z + 1, vo := z + 1 + 1, base := z + 1 + 1 + 1, bt := z + 1 + 1 + 1 + 1 } 4 (by decide) (.int .i64 (z + 1 + 1 + 1 + 1)) rfl (fun W S ⟨c, h⟩ => ⟨c, ⟨h.l, h.x, h.v, h.n, h.q, h.y, h.d, h.h⟩⟩)
    simp only [Nat.add_zero] at A0 A1 A2 A3 A4
    have HA := hidP A4
    clear A0 A1 A2 A3 A4
    have HP := hidP (pown HA.out HL.out)
    go_wp2_with fail
    refine (mk1 x HF.out z hz1 HZc.out (fp n) _ HP.out).mono ?_
    rintro e w1 ⟨rfl, ko, hp⟩
    have HN1 := hidP (ptrn HA.out HL.out (my1 x z) (yc1 x z) ko hp)
    have hoff1 := hidP ((((((hoff.out.set (b := b) (.inl rfl) (o + n * 26) (.int .i64 z)).set (b := b) (.inl rfl) (o + n * 26 + 1) (.int .i64 (z + 1))).set (b := b) (.inl rfl) (o + n * 26 + 2) (.int .i64 (z + 1 + 1))).set (b := b) (.inl rfl) (o + n * 26 + 3) (.int .i64 (z + 1 + 1 + 1))).set (b := b) (.inl rfl) (o + n * 26 + 4) (.int .i64 (z + 1 + 1 + 1 + 1))).trans (ko.mono (fun x hx => .inr ⟨n, hx⟩)))
    have q1 : b < w1.heap.size := HN1.out.lt
    clear c0 f0 c1 f1 c2 f2 c3 f3 c4 f4 c5 ko hp HP HN  q0 HA
    have c6 : w1.cell? ⟨b, o + n * 26 + 6, none⟩ = some (.slice x.x.rA x.x.rs.length x.x.rc) := Qdc HN1.out HL.out (f := 6) rfl
    have HP := hidP (pown HN1.out HL.out)
    go_wp2_with fail
    refine (mk2 x HF.out z hz1 HZc.out (fp n) _ HP.out).mono ?_
    rintro e w2 ⟨rfl, ko, hp⟩
    have HN2 := hidP (ptrn HN1.out HL.out (my2 x z) (yc2 x z) ko hp)
    have hoff2 := hidP (hoff1.out.trans (ko.mono (fun x hx => .inr ⟨n, hx⟩)))
    have q2 : b < w2.heap.size := HN2.out.lt
    clear c6 ko hp HP HN1 hoff1 q1
    have c7 : w2.cell? ⟨b, o + n * 26 + 7, none⟩ = some (.slice x.x.mA x.x.ms.length x.x.mc) := Qdc HN2.out HL.out (f := 7) rfl
    have HP := hidP (pown HN2.out HL.out)
    go_wp2_with fail
    refine (mk3 x HF.out z hz1 HZc.out (fp n) _ HP.out).mono ?_
    rintro e w3 ⟨rfl, ko, hp⟩
    have HN3 := hidP (ptrn HN2.out HL.out (my3 x z) (yc3 x z) ko hp)
    have hoff3 := hidP (hoff2.out.trans (ko.mono (fun x hx => .inr ⟨n, hx⟩)))
    have q3 : b < w3.heap.size := HN3.out.lt
    clear c7 ko hp HP HN2 hoff2 q2
    have c8 : w3.cell? ⟨b, o + n * 26 + 8, none⟩ = some (.slice x.x.gA x.x.gs.length x.x.gc) := Qdc HN3.out HL.out (f := 8) rfl
    have HP := hidP (pown HN3.out HL.out)
    go_wp2_with fail
    refine (mk4 x HF.out z hz1 HZc.out (fp n) _ HP.out).mono ?_
    rintro e w4 ⟨rfl, ko, hp⟩
    have HN4 := hidP (ptrn HN3.out HL.out (my4 x z) (yc4 x z) ko hp)
    have hoff4 := hidP (hoff3.out.trans (ko.mono (fun x hx => .inr ⟨n, hx⟩)))
    have q4 : b < w4.heap.size := HN4.out.lt
    clear c8 ko hp HP HN3 hoff3 q3
    have c9 : w4.cell? ⟨b, o + n * 26 + 9, none⟩ = some (.int .i64 x.x.time) := Qdc HN4.out HL.out (f := 9) rfl
    have f9 := Qhx HN4.out HL.out 9 (by decide)
    have c10 : w4.cell? ⟨b, o + n * 26 + 10, none⟩ = some (.slice x.x.dA x.x.ds.length x.x.dc) := Qdc HN4.out HL.out (f := 10) rfl
    have A0 := pset HN4.out HL.out (mu5 x z) 9 (by decide) (.int .i64 (rz4 x z)) rfl (fun W S ⟨c, h⟩ => ⟨c, ⟨h.l, h.x.time _, h.v, h.n, h.q, h.y, h.d, h.h⟩⟩)
    have HA := hidP A0
    clear A0
    have HP := hidP (pown HA.out HL.out)
    go_wp2_with fail
    refine (mk5 x HF.out z hz1 HZc.out (fp n) _ HP.out).mono ?_
    rintro e w5 ⟨rfl, ko, hp⟩
    have HN5 := hidP (ptrn HA.out HL.out (my5 x z) (yc5 x z) ko hp)
    have hoff5 := hidP ((hoff4.out.set (b := b) (.inl rfl) (o + n * 26 + 9) (.int .i64 (rz4 x z))).trans (ko.mono (fun x hx => .inr ⟨n, hx⟩)))
    have q5 : b < w5.heap.size := HN5.out.lt
    clear c9 f9 c10 ko hp HP HN4 hoff4 q4 HA
    have c11 : w5.cell? ⟨b, o + n * 26 + 11, none⟩ = some (.slice x.x.lA x.x.ls.length x.x.lc) := Qdc HN5.out HL.out (f := 11) rfl
    have HP := hidP (pown HN5.out HL.out)
    go_wp2_with fail
    refine (mk6 x HF.out z hz1 HZc.out (fp n) _ HP.out).mono ?_
    rintro e w6 ⟨rfl, ko, hp⟩
    have HN6 := hidP (ptrn HN5.out HL.out (my6 x z) (yc6 x z) ko hp)
    have hoff6 := hidP (hoff5.out.trans (ko.mono (fun x hx => .inr ⟨n, hx⟩)))
    have q6 : b < w6.heap.size := HN6.out.lt
    clear c11 ko hp HP HN5 hoff5 q5
    have c12 : w6.cell? ⟨b, o + n * 26 + 12, none⟩ = some (.int .i64 x.role) := Qdc HN6.out HL.out (f := 12) rfl
    have f12 := Qhx HN6.out HL.out 12 (by decide)
    have c13 : w6.cell? ⟨b, o + n * 26 + 13, none⟩ = some (.slice x.vA x.vs.length x.vc) := Qdc HN6.out HL.out (f := 13) rfl
    have A0 := pset HN6.out HL.out (mu7 x z) 12 (by decide) (.int .i64 (rz6 x z)) rfl (fun W S ⟨c, h⟩ => ⟨c, ⟨h.l, h.x, h.v, h.n, h.q, h.y, h.d, h.h⟩⟩)
    have HA := hidP A0
    clear A0
    have HP := hidP (pown HA.out HL.out)
    go_wp2_with fail
    refine (mk7 x HF.out z hz1 HZc.out (fp n) _ HP.out).mono ?_
    rintro e w7 ⟨rfl, ko, hp⟩
    have HN7 := hidP (ptrn HA.out HL.out (my7 x z) (yc7 x z) ko hp)
    have hoff7 := hidP ((hoff6.out.set (b := b) (.inl rfl) (o + n * 26 + 12) (.int .i64 (rz6 x z))).trans (ko.mono (fun x hx => .inr ⟨n, hx⟩)))
    have q7 : b < w7.heap.size := HN7.out.lt
    clear c12 f12 c13 ko hp HP HN6 hoff6 q6 HA
    have c14 : w7.cell? ⟨b, o + n * 26 + 14, none⟩ = some (.slice x.nA x.ns.length x.nc) := Qdc HN7.out HL.out (f := 14) rfl
    have HP := hidP (pown HN7.out HL.out)
    go_wp2_with fail
    refine (mk8 x HF.out z hz1 HZc.out (fp n) _ HP.out).mono ?_
    rintro e w8 ⟨rfl, ko, hp⟩
    have HN8 := hidP (ptrn HN7.out HL.out (my8 x z) (yc8 x z) ko hp)
    have hoff8 := hidP (hoff7.out.trans (ko.mono (fun x hx => .inr ⟨n, hx⟩)))
    have q8 : b < w8.heap.size := HN8.out.lt
    clear c14 ko hp HP HN7 hoff7 q7
    have c15 : w8.cell? ⟨b, o + n * 26 + 15, none⟩ = some (.slice x.pA x.ps.length x.pc) := Qdc HN8.out HL.out (f := 15) rfl
    have HP := hidP (pown HN8.out HL.out)
    go_wp2_with fail
    refine (mk9 x HF.out z hz1 HZc.out (fp n) _ HP.out).mono ?_
    rintro e w9 ⟨rfl, ko, hp⟩
    have HN9 := hidP (ptrn HN8.out HL.out (my9 x z) (yc9 x z) ko hp)
    have hoff9 := hidP (hoff8.out.trans (ko.mono (fun x hx => .inr ⟨n, hx⟩)))
    have q9 : b < w9.heap.size := HN9.out.lt
    clear c15 ko hp HP HN8 hoff8 q8
    have c16 : w9.cell? ⟨b, o + n * 26 + 16, none⟩ = some (.int .i64 x.com) := Qdc HN9.out HL.out (f := 16) rfl
    have f16 := Qhx HN9.out HL.out 16 (by decide)
    have c17 : w9.cell? ⟨b, o + n * 26 + 17, none⟩ = some (.slice x.y.rA x.y.rs.length x.y.rc) := Qdc HN9.out HL.out (f := 17) rfl
    have A0 := pset HN9.out HL.out (mu10 x z) 16 (by decide) (.int .i64 (rz9 x z)) rfl (fun W S ⟨c, h⟩ => ⟨c, ⟨h.l, h.x, h.v, h.n, h.q, h.y, h.d, h.h⟩⟩)
    have HA := hidP A0
    clear A0
    have HP := hidP (pown HA.out HL.out)
    go_wp2_with fail
    refine (mk10 x HF.out z hz1 HZc.out (fp n) _ HP.out).mono ?_
    rintro e w10 ⟨rfl, ko, hp⟩
    have HN10 := hidP (ptrn HA.out HL.out (my10 x z) (yc10 x z) ko hp)
    have hoff10 := hidP ((hoff9.out.set (b := b) (.inl rfl) (o + n * 26 + 16) (.int .i64 (rz9 x z))).trans (ko.mono (fun x hx => .inr ⟨n, hx⟩)))
    have q10 : b < w10.heap.size := HN10.out.lt
    clear c16 f16 c17 ko hp HP HN9 hoff9 q9 HA
    have c18 : w10.cell? ⟨b, o + n * 26 + 18, none⟩ = some (.slice x.y.mA x.y.ms.length x.y.mc) := Qdc HN10.out HL.out (f := 18) rfl
    have HP := hidP (pown HN10.out HL.out)
    go_wp2_with fail
    refine (mk11 x HF.out z hz1 HZc.out (fp n) _ HP.out).mono ?_
    rintro e w11 ⟨rfl, ko, hp⟩
    have HN11 := hidP (ptrn HN10.out HL.out (my11 x z) (yc11 x z) ko hp)
    have hoff11 := hidP (hoff10.out.trans (ko.mono (fun x hx => .inr ⟨n, hx⟩)))
    have q11 : b < w11.heap.size := HN11.out.lt
    clear c18 ko hp HP HN10 hoff10 q10
    have c19 : w11.cell? ⟨b, o + n * 26 + 19, none⟩ = some (.slice x.y.gA x.y.gs.length x.y.gc) := Qdc HN11.out HL.out (f := 19) rfl
    have HP := hidP (pown HN11.out HL.out)
    go_wp2_with fail
    refine (mk12 x HF.out z hz1 HZc.out (fp n) _ HP.out).mono ?_
    rintro e w12 ⟨rfl, ko, hp⟩
    have HN12 := hidP (ptrn HN11.out HL.out (my12 x z) (yc12 x z) ko hp)
    have hoff12 := hidP (hoff11.out.trans (ko.mono (fun x hx => .inr ⟨n, hx⟩)))
    have q12 : b < w12.heap.size := HN12.out.lt
    clear c19 ko hp HP HN11 hoff11 q11
    have c20 : w12.cell? ⟨b, o + n * 26 + 20, none⟩ = some (.int .i64 x.y.time) := Qdc HN12.out HL.out (f := 20) rfl
    have f20 := Qhx HN12.out HL.out 20 (by decide)
    have c21 : w12.cell? ⟨b, o + n * 26 + 21, none⟩ = some (.slice x.y.dA x.y.ds.length x.y.dc) := Qdc HN12.out HL.out (f := 21) rfl
    have A0 := pset HN12.out HL.out (mu13 x z) 20 (by decide) (.int .i64 (rz12 x z)) rfl (fun W S ⟨c, h⟩ => ⟨c, ⟨h.l, h.x, h.v, h.n, h.q, h.y.time _, h.d, h.h⟩⟩)
    have HA := hidP A0
    clear A0
    have HP := hidP (pown HA.out HL.out)
    go_wp2_with fail
    refine (mk13 x HF.out z hz1 HZc.out (fp n) _ HP.out).mono ?_
    rintro e w13 ⟨rfl, ko, hp⟩
    have HN13 := hidP (ptrn HA.out HL.out (my13 x z) (yc13 x z) ko hp)
    have hoff13 := hidP ((hoff12.out.set (b := b) (.inl rfl) (o + n * 26 + 20) (.int .i64 (rz12 x z))).trans (ko.mono (fun x hx => .inr ⟨n, hx⟩)))
    have q13 : b < w13.heap.size := HN13.out.lt
    clear c20 f20 c21 ko hp HP HN12 hoff12 q12 HA
    have c22 : w13.cell? ⟨b, o + n * 26 + 22, none⟩ = some (.slice x.y.lA x.y.ls.length x.y.lc) := Qdc HN13.out HL.out (f := 22) rfl
    have HP := hidP (pown HN13.out HL.out)
    go_wp2_with fail
    refine (mk14 x HF.out z hz1 HZc.out (fp n) _ HP.out).mono ?_
    rintro e w14 ⟨rfl, ko, hp⟩
    have HN14 := hidP (ptrn HN13.out HL.out (my14 x z) (yc14 x z) ko hp)
    have hoff14 := hidP (hoff13.out.trans (ko.mono (fun x hx => .inr ⟨n, hx⟩)))
    have q14 : b < w14.heap.size := HN14.out.lt
    clear c22 ko hp HP HN13 hoff13 q13
    have c23 : w14.cell? ⟨b, o + n * 26 + 23, none⟩ = some (.slice x.dA x.db.length x.dc) := Qdc HN14.out HL.out (f := 23) rfl
    have HP := hidP (pown HN14.out HL.out)
    go_wp2_with fail
    refine (mk15 x HF.out z hz1 HZc.out (fp n) _ HP.out).mono ?_
    rintro e w15 ⟨rfl, ko, hp⟩
    have HN15 := hidP (ptrn HN14.out HL.out (my15 x z) (yc15 x z) ko hp)
    have hoff15 := hidP (hoff14.out.trans (ko.mono (fun x hx => .inr ⟨n, hx⟩)))
    have q15 : b < w15.heap.size := HN15.out.lt
    clear c23 ko hp HP HN14 hoff14 q14
    have c24 : w15.cell? ⟨b, o + n * 26 + 24, none⟩ = some (.int .i64 x.su) := Qdc HN15.out HL.out (f := 24) rfl
    have f24 := Qhx HN15.out HL.out 24 (by decide)
    have c25 : w15.cell? ⟨b, o + n * 26 + 25, none⟩ = some (.slice x.hA x.hs.length x.hc) := Qdc HN15.out HL.out (f := 25) rfl
    have A0 := pset HN15.out HL.out (mu16 x z) 24 (by decide) (.int .i64 (rz15 x z)) rfl (fun W S ⟨c, h⟩ => ⟨c, ⟨h.l, h.x, h.v, h.n, h.q, h.y, h.d, h.h⟩⟩)
    have HA := hidP A0
    clear A0
    have HP := hidP (pown HA.out HL.out)
    go_wp2_with fail
    refine (mk16 x HF.out z hz1 HZc.out (fp n) _ HP.out).mono ?_
    rintro e w16 ⟨rfl, ko, hp⟩
    have HN16 := hidP (ptrn HA.out HL.out (my16 x z) (yc16 x z) ko hp)
    have hoff16 := hidP ((hoff15.out.set (b := b) (.inl rfl) (o + n * 26 + 24) (.int .i64 (rz15 x z))).trans (ko.mono (fun x hx => .inr ⟨n, hx⟩)))
    have q16 : b < w16.heap.size := HN16.out.lt
    clear c24 f24 c25 ko hp HP HN15 hoff15 q15 HA
    go_wp2
    have hz' := hz.out
    have hs' := Hsn.out
    have hr' := HRe.out
    have hcc := HZc.out
    refine ⟨⟨n + 1, rz16 x z, by go_num, rfl, by omega, by omega, by omega, ?_, hoff16, ?_⟩, by simp [intOf]; omega⟩
    . show _ = _
      rw [hs', hr', hz']; push_cast; omega
    . rw [Hsu.out]; exact HN16.out
  . obtain rfl : n = l.length := by omega
    go_wp2
    go_ret
    have e := hz.out
    rw [Qcr cN l _ (Nat.le_refl _)] at e
    have hh := hown.out
    rw [Qfo mN cN l k _ (Nat.le_refl _)] at hh
    subst e
    exact ⟨rfl, hoff.out, hh⟩
end Go.Proofs.YtenhcjkkpnlbeaaGreatDoor.Gen
