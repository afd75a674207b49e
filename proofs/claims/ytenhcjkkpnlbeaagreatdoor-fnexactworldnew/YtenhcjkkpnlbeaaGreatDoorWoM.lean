/-
  A world marked where it lies, and held against its marks, by the laws' own functions. No condition but its size.
-/
import Derived.Test.YtenhcjkkpnlbeaaGreatDoorNdH
import Derived.Test.YtenhcjkkpnlbeaaGreatDoorWnI
import Derived.Test.YtenhcjkkpnlbeaaGreatDoorCards
import Derived.Test.YtenhcjkkpnlbeaaGreatDoorTie
import Derived.Deep.DeepHandedRow
set_option linter.unusedVariables false
set_option linter.unusedSimpArgs false
set_option maxRecDepth 100000
set_option maxHeartbeats 8000000
namespace Go.Proofs.YtenhcjkkpnlbeaaGreatDoor.Gen
open ChangeShapes WideShapes ChangeAt RowKit Joins Deep Base
structure WMk (p : WC) : Prop where
  nl : p.ns.length <= 1048576
  nf : ∀ x ∈ p.ns, PFit x
  nc : Qak cN p.ns <= 40000000
  ml : p.ms.length <= 1048576
  mi : ∀ x ∈ p.ms, x.l.length <= 1048576
  mc : Qak cN p.ns + Qak cP p.ms <= 45000000
  sl : p.ss.length <= 1048576
  fl : p.fs.length <= 1048576
  hl : p.hs.length <= 1048576
  dl : p.ds.length <= 1048576
theorem WOwn.fn {W : World} {x : WC} {S : Nat -> Prop} (h : WOwn W x S) : ∃ S1 : Nat -> Prop, Own pcP W x.nA x.ns S1 /\ ∀ (W' : World) (l' : List PC), Offp S1 W W' -> Own pcP W' x.nA l' S1 -> Offp S W W' /\ WOwn W' { x with ns := l' } S := by
 obtain ⟨col, h⟩ := h
 exact ⟨_, h.n, fun W' l' ko t => ⟨ko.mono (fun b hb => hb.1), col, ⟨t, h.m.offp Qaz ko (fun b hb e => by have := hb.2; have := e.2; omega), h.s.offp ko (fun b hb e => by have := hb.2; have := e.2; omega), h.f.offp ko (fun b hb e => by have := hb.2; have := e.2; omega), h.h.offp ko (fun b hb e => by have := hb.2; have := e.2; omega), h.d.offp ko (fun b hb e => by have := hb.2; have := e.2; omega)⟩⟩⟩
theorem WOwn.fm {W : World} {x : WC} {S : Nat -> Prop} (h : WOwn W x S) : ∃ S1 : Nat -> Prop, Own rpcP W x.mA x.ms S1 /\ ∀ (W' : World) (l' : List RpC), Offp S1 W W' -> Own rpcP W' x.mA l' S1 -> Offp S W W' /\ WOwn W' { x with ms := l' } S := by
 obtain ⟨col, h⟩ := h
 exact ⟨_, h.m, fun W' l' ko t => ⟨ko.mono (fun b hb => hb.1), col, ⟨h.n.offp Qcc ko (fun b hb e => by have := hb.2; have := e.2; omega), t, h.s.offp ko (fun b hb e => by have := hb.2; have := e.2; omega), h.f.offp ko (fun b hb e => by have := hb.2; have := e.2; omega), h.h.offp ko (fun b hb e => by have := hb.2; have := e.2; omega), h.d.offp ko (fun b hb e => by have := hb.2; have := e.2; omega)⟩⟩⟩
theorem WOwn.fs {W : World} {x : WC} {S : Nat -> Prop} (h : WOwn W x S) : ∃ S1 : Nat -> Prop, Sub W x.sA x.ss S1 /\ ∀ (W' : World) (l' : List Co), Offp S1 W W' -> Sub W' x.sA l' S1 -> Offp S W W' /\ WOwn W' { x with ss := l' } S := by
 obtain ⟨col, h⟩ := h
 exact ⟨_, h.s, fun W' l' ko t => ⟨ko.mono (fun b hb => hb.1), col, ⟨h.n.offp Qcc ko (fun b hb e => by have := hb.2; have := e.2; omega), h.m.offp Qaz ko (fun b hb e => by have := hb.2; have := e.2; omega), t, h.f.offp ko (fun b hb e => by have := hb.2; have := e.2; omega), h.h.offp ko (fun b hb e => by have := hb.2; have := e.2; omega), h.d.offp ko (fun b hb e => by have := hb.2; have := e.2; omega)⟩⟩⟩
theorem WOwn.ff {W : World} {x : WC} {S : Nat -> Prop} (h : WOwn W x S) : ∃ S1 : Nat -> Prop, Sub W x.fA x.fs S1 /\ ∀ (W' : World) (l' : List Int), Offp S1 W W' -> Sub W' x.fA l' S1 -> Offp S W W' /\ WOwn W' { x with fs := l' } S := by
 obtain ⟨col, h⟩ := h
 exact ⟨_, h.f, fun W' l' ko t => ⟨ko.mono (fun b hb => hb.1), col, ⟨h.n.offp Qcc ko (fun b hb e => by have := hb.2; have := e.2; omega), h.m.offp Qaz ko (fun b hb e => by have := hb.2; have := e.2; omega), h.s.offp ko (fun b hb e => by have := hb.2; have := e.2; omega), t, h.h.offp ko (fun b hb e => by have := hb.2; have := e.2; omega), h.d.offp ko (fun b hb e => by have := hb.2; have := e.2; omega)⟩⟩⟩
theorem WOwn.fh {W : World} {x : WC} {S : Nat -> Prop} (h : WOwn W x S) : ∃ S1 : Nat -> Prop, Sub W x.hA x.hs S1 /\ ∀ (W' : World) (l' : List He), Offp S1 W W' -> Sub W' x.hA l' S1 -> Offp S W W' /\ WOwn W' { x with hs := l' } S := by
 obtain ⟨col, h⟩ := h
 exact ⟨_, h.h, fun W' l' ko t => ⟨ko.mono (fun b hb => hb.1), col, ⟨h.n.offp Qcc ko (fun b hb e => by have := hb.2; have := e.2; omega), h.m.offp Qaz ko (fun b hb e => by have := hb.2; have := e.2; omega), h.s.offp ko (fun b hb e => by have := hb.2; have := e.2; omega), h.f.offp ko (fun b hb e => by have := hb.2; have := e.2; omega), t, h.d.offp ko (fun b hb e => by have := hb.2; have := e.2; omega)⟩⟩⟩
theorem WOwn.fd {W : World} {x : WC} {S : Nat -> Prop} (h : WOwn W x S) : ∃ S1 : Nat -> Prop, Sub W x.dA x.ds S1 /\ ∀ (W' : World) (l' : List Co), Offp S1 W W' -> Sub W' x.dA l' S1 -> Offp S W W' /\ WOwn W' { x with ds := l' } S := by
 obtain ⟨col, h⟩ := h
 exact ⟨_, h.d, fun W' l' ko t => ⟨ko.mono (fun b hb => hb.1), col, ⟨h.n.offp Qcc ko (fun b hb e => by have := hb.2; have := e.2; omega), h.m.offp Qaz ko (fun b hb e => by have := hb.2; have := e.2; omega), h.s.offp ko (fun b hb e => by have := hb.2; have := e.2; omega), h.f.offp ko (fun b hb e => by have := hb.2; have := e.2; omega), h.h.offp ko (fun b hb e => by have := hb.2; have := e.2; omega), t⟩⟩⟩
theorem WOwn.below {W W' : World} {x : WC} {S : Nat -> Prop} (h : WOwn W x S) (g : Below W.heap.size W W') : WOwn W' x S := by
 obtain ⟨c, h⟩ := h
 exact ⟨c, ⟨h.n.below Qcc g, h.m.below Qaz g, h.s.below g, h.f.below g, h.h.below g, h.d.below g⟩⟩
theorem mark_cos (a : Option Addr) (cap : Nat) (l : List Co) (S : Nat -> Prop) (k : Int) (hk : 1 <= k) (hk' : k <= 100000000) (hl : l.length <= 3000000) (w : World) (h : Sub w a l S) :
 Calls Tryz.prog 23 #[.slice a l.length cap, .int .i64 k] w fun e w' => e = .returned (.int .i64 (k + (l.length : Int) * 8)) /\ Offp S w w' /\ Sub w' a (Qca l.length k) S := by
 rcases h with rfl | ⟨b, o, rfl, hS, hb, hi, ht⟩
 . have : Calls Tryz.prog 23 #[.slice a 0 cap, .int .i64 k] w fun e w' => e = .returned (.int .i64 k) /\ w' = w := by
    go_enter Tryz.func23, Tryz.ntmps23
    go_wp2
    go_loopw [1, 5] (fun kk i w' => kk = .int .i64 k /\ i = .int .i64 0 /\ w' = w) (fun _ _ _ => 0)
    case atStart => exact ⟨rfl, rfl, rfl⟩
    case round =>
     obtain ⟨rfl, rfl, rfl⟩ := hrel
     go_wp2
     go_ret
     exact ⟨rfl, rfl⟩
   refine this.mono ?_
   rintro e w' ⟨rfl, rfl⟩
   exact ⟨by simp, Offp.refl _ _, .inl rfl⟩
 . refine (Qlc b o cap l.length k hk hk' hl w hb ht).mono ?_
   rintro e w' ⟨rfl, ko, hin, hth⟩
   exact ⟨rfl, (Offp.of_only ko).mono (fun x e => e ▸ hS), .inr ⟨b, o, rfl, hS, Nat.lt_of_lt_of_le hb ko.size, hin, by rw [Qcq]; exact hth⟩⟩
theorem mark_hes (a : Option Addr) (cap : Nat) (l : List He) (S : Nat -> Prop) (k : Int) (hk : 1 <= k) (hk' : k <= 100000000) (hl : l.length <= 3000000) (w : World) (h : Sub w a l S) :
 Calls Tryz.prog 25 #[.slice a l.length cap, .int .i64 k] w fun e w' => e = .returned (.int .i64 (k + (l.length : Int) * 8)) /\ Offp S w w' /\ Sub w' a (Qci l.length k) S := by
 rcases h with rfl | ⟨b, o, rfl, hS, hb, hi, ht⟩
 . have : Calls Tryz.prog 25 #[.slice a 0 cap, .int .i64 k] w fun e w' => e = .returned (.int .i64 k) /\ w' = w := by
    go_enter Tryz.func25, Tryz.ntmps25
    go_wp2
    go_loopw [1, 5] (fun kk i w' => kk = .int .i64 k /\ i = .int .i64 0 /\ w' = w) (fun _ _ _ => 0)
    case atStart => exact ⟨rfl, rfl, rfl⟩
    case round =>
     obtain ⟨rfl, rfl, rfl⟩ := hrel
     go_wp2
     go_ret
     exact ⟨rfl, rfl⟩
   refine this.mono ?_
   rintro e w' ⟨rfl, rfl⟩
   exact ⟨by simp, Offp.refl _ _, .inl rfl⟩
 . refine (Qh3 b o cap l.length k hk hk' hl w hb ht).mono ?_
   rintro e w' ⟨rfl, ko, hin, hth⟩
   exact ⟨rfl, (Offp.of_only ko).mono (fun x e => e ▸ hS), .inr ⟨b, o, rfl, hS, Nat.lt_of_lt_of_le hb ko.size, hin, by rw [Qc9]; exact hth⟩⟩
theorem mark_nds (a : Option Addr) (cap : Nat) (l : List PC) (S : Nat -> Prop) (k : Int) (hk : 1 <= k) (hk' : k <= 5000000) (hc : Qak cN l <= 40000000) (hl : l.length <= 1048576) (hs : ∀ x ∈ l, PFit x) (w : World) (h : Own pcP w a l S) :
 Calls Tryz.prog 21 #[.slice a l.length cap, .int .i64 k] w fun e w' => e = .returned (.int .i64 (k + (Qak cN l : Int))) /\ Offp S w w' /\ Own pcP w' a (marked mN cN l k) S := by
 rcases h with rfl | ⟨b, o, fp, rfl, hS, hf, hO⟩
 . have : Calls Tryz.prog 21 #[.slice a 0 cap, .int .i64 k] w fun e w' => e = .returned (.int .i64 k) /\ w' = w := by
    go_enter Tryz.func21, Tryz.ntmps21
    go_wp2
    go_loopw [1, 5] (fun kk i w' => kk = .int .i64 k /\ i = .int .i64 0 /\ w' = w) (fun _ _ _ => 0)
    case atStart => exact ⟨rfl, rfl, rfl⟩
    case round =>
     obtain ⟨rfl, rfl, rfl⟩ := hrel
     go_wp2
     go_ret
     exact ⟨rfl, rfl⟩
   refine this.mono ?_
   rintro e w' ⟨rfl, rfl⟩
   exact ⟨by simp [Qak], Offp.refl _ _, .inl rfl⟩
 . refine (Qja b o cap l fp k hk hk' hc hl hs w hO).mono ?_
   rintro e w' ⟨rfl, ko, hO'⟩
   exact ⟨rfl, ko.mono (fun x hx => by rcases hx with rfl | ⟨i, hx⟩; exact hS; exact hf i x hx), .inr ⟨b, o, fp, rfl, hS, hf, hO'⟩⟩
def w1k (p : WC) : Int := 1 + (Qak cN p.ns : Int)
def w2k (p : WC) : Int := w1k p + (Qak cP p.ms : Int)
def w3k (p : WC) : Int := w2k p + (p.ss.length : Int) * 8
def w4k (p : WC) : Int := w3k p + (p.fs.length : Int)
def w5k (p : WC) : Int := w4k p + (p.hs.length : Int) * 8
def w6k (p : WC) : Int := w5k p + (p.ds.length : Int) * 8
theorem Qfd {p : WC} (h : WMk p) : (1 <= w1k p /\ w1k p <= 40000001) /\ (1 <= w2k p /\ w2k p <= 90000000) /\ (1 <= w3k p /\ w3k p <= 90000000) /\ (1 <= w4k p /\ w4k p <= 90000000) /\ (1 <= w5k p /\ w5k p <= 90000000) /\ (1 <= w6k p /\ w6k p <= 90000000) := by
 have h1 := h.nc
 have h2 := h.mc
 have h3 := h.sl
 have h4 := h.fl
 have h5 := h.hl
 have h6 := h.dl
 unfold w6k w5k w4k w3k w2k w1k
 refine ⟨⟨?_, ?_⟩, ⟨?_, ?_⟩, ⟨?_, ?_⟩, ⟨?_, ?_⟩, ⟨?_, ?_⟩, ⟨?_, ?_⟩⟩<;>omega
def p1W (p : WC) : WC := { p with ns := marked mN cN p.ns 1 }
def p2W (p : WC) : WC := { (p1W p) with ms := marked mP cP p.ms (w1k p) }
def p3W (p : WC) : WC := { (p2W p) with ss := Qca p.ss.length (w2k p) }
def p4W (p : WC) : WC := { (p3W p) with fs := Qa2 p.fs.length (w3k p) }
def p5W (p : WC) : WC := { (p4W p) with hs := Qci p.hs.length (w4k p) }
def p6W (p : WC) : WC := { (p5W p) with ds := Qca p.ds.length (w5k p) }
def mW (p : WC) : WC := p6W p
theorem mw1 (p : WC) (hm : WMk p) (S : Nat -> Prop) (W : World) (h : WOwn W p S) : Calls Tryz.prog 21 #[.slice p.nA p.ns.length p.nc, .int .i64 1] W fun e w' => e = .returned (.int .i64 (w1k p)) /\ Offp S W w' /\ WOwn w' (p1W p) S := by
 obtain ⟨⟨b1, b1'⟩, ⟨b2, b2'⟩, ⟨b3, b3'⟩, ⟨b4, b4'⟩, ⟨b5, b5'⟩, ⟨b6, b6'⟩⟩ := Qfd hm
 obtain ⟨S1, h1, k1⟩ := h.fn
 refine (mark_nds p.nA p.nc p.ns S1 _ (by omega) (by omega) hm.nc hm.nl hm.nf W h1).mono ?_
 rintro e w' ⟨e1, ko, t⟩
 exact ⟨e1, (k1 _ _ ko t).1, (k1 _ _ ko t).2⟩
theorem hw1 (p : WC) (hm : WMk p) (W : World) (h : WAt W (mW p)) : Calls Tryz.prog 26 #[.slice p.nA p.ns.length p.nc, .int .i64 1] W fun e w' => e = .returned (.int .i64 (w1k p)) /\ Below W.heap.size W w' := by
 obtain ⟨⟨b1, b1'⟩, ⟨b2, b2'⟩, ⟨b3, b3'⟩, ⟨b4, b4'⟩, ⟨b5, b5'⟩, ⟨b6, b6'⟩⟩ := Qfd hm
 exact Qjg p.nA p.nc p.ns _ (by omega) (by omega) hm.nc hm.nl hm.nf W h.na h.ne
theorem mw2 (p : WC) (hm : WMk p) (S : Nat -> Prop) (W : World) (h : WOwn W (p1W p) S) : Calls Tryz.prog 22 #[.slice p.mA p.ms.length p.mc, .int .i64 (w1k p)] W fun e w' => e = .returned (.int .i64 (w2k p)) /\ Offp S W w' /\ WOwn w' (p2W p) S := by
 obtain ⟨⟨b1, b1'⟩, ⟨b2, b2'⟩, ⟨b3, b3'⟩, ⟨b4, b4'⟩, ⟨b5, b5'⟩, ⟨b6, b6'⟩⟩ := Qfd hm
 obtain ⟨S1, h1, k1⟩ := h.fm
 refine (Qk3 p.mA p.mc p.ms S1 _ (by omega) (by omega) (by have := hm.mc; omega) hm.ml hm.mi W h1).mono ?_
 rintro e w' ⟨e1, ko, t⟩
 exact ⟨e1, (k1 _ _ ko t).1, (k1 _ _ ko t).2⟩
theorem hw2 (p : WC) (hm : WMk p) (W : World) (h : WAt W (mW p)) : Calls Tryz.prog 27 #[.slice p.mA p.ms.length p.mc, .int .i64 (w1k p)] W fun e w' => e = .returned (.int .i64 (w2k p)) /\ Below W.heap.size W w' := by
 obtain ⟨⟨b1, b1'⟩, ⟨b2, b2'⟩, ⟨b3, b3'⟩, ⟨b4, b4'⟩, ⟨b5, b5'⟩, ⟨b6, b6'⟩⟩ := Qfd hm
 exact Qge p.mA p.mc p.ms _ (by omega) (by omega) (by have := hm.mc; omega) hm.ml hm.mi W h.ma h.me
theorem mw3 (p : WC) (hm : WMk p) (S : Nat -> Prop) (W : World) (h : WOwn W (p2W p) S) : Calls Tryz.prog 23 #[.slice p.sA p.ss.length p.sc, .int .i64 (w2k p)] W fun e w' => e = .returned (.int .i64 (w3k p)) /\ Offp S W w' /\ WOwn w' (p3W p) S := by
 obtain ⟨⟨b1, b1'⟩, ⟨b2, b2'⟩, ⟨b3, b3'⟩, ⟨b4, b4'⟩, ⟨b5, b5'⟩, ⟨b6, b6'⟩⟩ := Qfd hm
 obtain ⟨S1, h1, k1⟩ := h.fs
 refine (mark_cos p.sA p.sc p.ss S1 _ (by omega) (by omega) (by have := hm.sl; omega) W h1).mono ?_
 rintro e w' ⟨e1, ko, t⟩
 exact ⟨e1, (k1 _ _ ko t).1, (k1 _ _ ko t).2⟩
theorem hw3 (p : WC) (hm : WMk p) (W : World) (h : WAt W (mW p)) : Calls Tryz.prog 28 #[.slice p.sA p.ss.length p.sc, .int .i64 (w2k p)] W fun e w' => e = .returned (.int .i64 (w3k p)) /\ Below W.heap.size W w' := by
 obtain ⟨⟨b1, b1'⟩, ⟨b2, b2'⟩, ⟨b3, b3'⟩, ⟨b4, b4'⟩, ⟨b5, b5'⟩, ⟨b6, b6'⟩⟩ := Qfd hm
 exact Qgg p.sA p.sc p.ss.length _ (by omega) (by omega) (by have := hm.sl; omega) W (Qc8 h.sa (Qcq _ _))
theorem mw4 (p : WC) (hm : WMk p) (S : Nat -> Prop) (W : World) (h : WOwn W (p3W p) S) : Calls Tryz.prog 24 #[.slice p.fA p.fs.length p.fc, .int .i64 (w3k p)] W fun e w' => e = .returned (.int .i64 (w4k p)) /\ Offp S W w' /\ WOwn w' (p4W p) S := by
 obtain ⟨⟨b1, b1'⟩, ⟨b2, b2'⟩, ⟨b3, b3'⟩, ⟨b4, b4'⟩, ⟨b5, b5'⟩, ⟨b6, b6'⟩⟩ := Qfd hm
 obtain ⟨S1, h1, k1⟩ := h.ff
 refine (Qdd p.fA p.fc p.fs S1 _ (by omega) (by omega) (by have := hm.fl; omega) W h1).mono ?_
 rintro e w' ⟨e1, ko, t⟩
 exact ⟨e1, (k1 _ _ ko t).1, (k1 _ _ ko t).2⟩
theorem hw4 (p : WC) (hm : WMk p) (W : World) (h : WAt W (mW p)) : Calls Tryz.prog 29 #[.slice p.fA p.fs.length p.fc, .int .i64 (w3k p)] W fun e w' => e = .returned (.int .i64 (w4k p)) /\ Below W.heap.size W w' := by
 obtain ⟨⟨b1, b1'⟩, ⟨b2, b2'⟩, ⟨b3, b3'⟩, ⟨b4, b4'⟩, ⟨b5, b5'⟩, ⟨b6, b6'⟩⟩ := Qfd hm
 exact Qcj p.fA p.fc p.fs.length _ (by omega) (by omega) (by have := hm.fl; omega) W (Qc8 h.fa (Qat _ _))
theorem mw5 (p : WC) (hm : WMk p) (S : Nat -> Prop) (W : World) (h : WOwn W (p4W p) S) : Calls Tryz.prog 25 #[.slice p.hA p.hs.length p.hc, .int .i64 (w4k p)] W fun e w' => e = .returned (.int .i64 (w5k p)) /\ Offp S W w' /\ WOwn w' (p5W p) S := by
 obtain ⟨⟨b1, b1'⟩, ⟨b2, b2'⟩, ⟨b3, b3'⟩, ⟨b4, b4'⟩, ⟨b5, b5'⟩, ⟨b6, b6'⟩⟩ := Qfd hm
 obtain ⟨S1, h1, k1⟩ := h.fh
 refine (mark_hes p.hA p.hc p.hs S1 _ (by omega) (by omega) (by have := hm.hl; omega) W h1).mono ?_
 rintro e w' ⟨e1, ko, t⟩
 exact ⟨e1, (k1 _ _ ko t).1, (k1 _ _ ko t).2⟩
theorem hw5 (p : WC) (hm : WMk p) (W : World) (h : WAt W (mW p)) : Calls Tryz.prog 30 #[.slice p.hA p.hs.length p.hc, .int .i64 (w4k p)] W fun e w' => e = .returned (.int .i64 (w5k p)) /\ Below W.heap.size W w' := by
 obtain ⟨⟨b1, b1'⟩, ⟨b2, b2'⟩, ⟨b3, b3'⟩, ⟨b4, b4'⟩, ⟨b5, b5'⟩, ⟨b6, b6'⟩⟩ := Qfd hm
 exact Qid p.hA p.hc p.hs.length _ (by omega) (by omega) (by have := hm.hl; omega) W (Qc8 h.ha (Qc9 _ _))
theorem mw6 (p : WC) (hm : WMk p) (S : Nat -> Prop) (W : World) (h : WOwn W (p5W p) S) : Calls Tryz.prog 23 #[.slice p.dA p.ds.length p.dc, .int .i64 (w5k p)] W fun e w' => e = .returned (.int .i64 (w6k p)) /\ Offp S W w' /\ WOwn w' (p6W p) S := by
 obtain ⟨⟨b1, b1'⟩, ⟨b2, b2'⟩, ⟨b3, b3'⟩, ⟨b4, b4'⟩, ⟨b5, b5'⟩, ⟨b6, b6'⟩⟩ := Qfd hm
 obtain ⟨S1, h1, k1⟩ := h.fd
 refine (mark_cos p.dA p.dc p.ds S1 _ (by omega) (by omega) (by have := hm.dl; omega) W h1).mono ?_
 rintro e w' ⟨e1, ko, t⟩
 exact ⟨e1, (k1 _ _ ko t).1, (k1 _ _ ko t).2⟩
theorem hw6 (p : WC) (hm : WMk p) (W : World) (h : WAt W (mW p)) : Calls Tryz.prog 28 #[.slice p.dA p.ds.length p.dc, .int .i64 (w5k p)] W fun e w' => e = .returned (.int .i64 (w6k p)) /\ Below W.heap.size W w' := by
 obtain ⟨⟨b1, b1'⟩, ⟨b2, b2'⟩, ⟨b3, b3'⟩, ⟨b4, b4'⟩, ⟨b5, b5'⟩, ⟨b6, b6'⟩⟩ := Qfd hm
 exact Qgg p.dA p.dc p.ds.length _ (by omega) (by omega) (by have := hm.dl; omega) W (Qc8 h.da (Qcq _ _))
theorem Qi9 (p : WC) (hm : WMk p) (S : Nat -> Prop) (w : World) (hlt : ∀ b, S b -> b < w.heap.size) (h : WOwn w p S) :
 Calls Tryz.prog 8 #[.agg (Qaw p.ro p.wi p.le p.ke p.size p.nA p.ns.length p.nc p.mA p.ms.length p.mc p.sA p.ss.length p.sc p.fA p.fs.length p.fc p.hA p.hs.length p.hc p.dA p.ds.length p.dc), .int .i64 1] w fun e w' => e = .returned (.int .i64 (w6k p)) /\ Offp S w w' /\ WOwn w' (mW p) S := by
 have Hm := hidP hm
 have Hlt := hidP hlt
 have H0 := hidP (h.below (Qab (Below.refl _ _) (.cells (Qaw p.ro p.wi p.le p.ke p.size p.nA p.ns.length p.nc p.mA p.ms.length p.mc p.sA p.ss.length p.sc p.fA p.fs.length p.fc p.hA p.hs.length p.hc p.dA p.ds.length p.dc) 31)))
 have P0 := hidP (Blk.new w 31 (Qaw p.ro p.wi p.le p.ke p.size p.nA p.ns.length p.nc p.mA p.ms.length p.mc p.sA p.ss.length p.sc p.fA p.fs.length p.fc p.hA p.hs.length p.hc p.dA p.ds.length p.dc))
 have O0 := hidP (show Offp S w (w.alloc (.cells (Qaw p.ro p.wi p.le p.ke p.size p.nA p.ns.length p.nc p.mA p.ms.length p.mc p.sA p.ss.length p.sc p.fA p.fs.length p.fc p.hA p.hs.length p.hc p.dA p.ds.length p.dc) 31)) from Offp.of_below (Qab (Below.refl _ _) _))
 clear hm hlt h
 go_enter Tryz.func8, Tryz.ntmps8
 have c1 := P0.out.cell (i := 5) rfl
 have q1 := P0.out.lt
 go_wp2_with fail
 refine (mw1 p Hm.out S _ H0.out).mono ?_
 rintro e w1 ⟨rfl, ko, t⟩
 have H1 := hidP t
 have O1 := hidP (O0.out.trans ko)
 have P1 := hidP (P0.out.offp ko (fun e => Nat.lt_irrefl _ (Hlt.out _ e)))
 clear t ko c1 q1 H0 O0 P0
 have c2 := P1.out.cell (i := 6) rfl
 have q2 := P1.out.lt
 go_wp2_with fail
 refine (mw2 p Hm.out S _ H1.out).mono ?_
 rintro e w2 ⟨rfl, ko, t⟩
 have H2 := hidP t
 have O2 := hidP (O1.out.trans ko)
 have P2 := hidP (P1.out.offp ko (fun e => Nat.lt_irrefl _ (Hlt.out _ e)))
 clear t ko c2 q2 H1 O1 P1
 have c3 := P2.out.cell (i := 7) rfl
 have q3 := P2.out.lt
 go_wp2_with fail
 refine (mw3 p Hm.out S _ H2.out).mono ?_
 rintro e w3 ⟨rfl, ko, t⟩
 have H3 := hidP t
 have O3 := hidP (O2.out.trans ko)
 have P3 := hidP (P2.out.offp ko (fun e => Nat.lt_irrefl _ (Hlt.out _ e)))
 clear t ko c3 q3 H2 O2 P2
 have c4 := P3.out.cell (i := 8) rfl
 have q4 := P3.out.lt
 go_wp2_with fail
 refine (mw4 p Hm.out S _ H3.out).mono ?_
 rintro e w4 ⟨rfl, ko, t⟩
 have H4 := hidP t
 have O4 := hidP (O3.out.trans ko)
 have P4 := hidP (P3.out.offp ko (fun e => Nat.lt_irrefl _ (Hlt.out _ e)))
 clear t ko c4 q4 H3 O3 P3
 have c5 := P4.out.cell (i := 9) rfl
 have q5 := P4.out.lt
 go_wp2_with fail
 refine (mw5 p Hm.out S _ H4.out).mono ?_
 rintro e w5 ⟨rfl, ko, t⟩
 have H5 := hidP t
 have O5 := hidP (O4.out.trans ko)
 have P5 := hidP (P4.out.offp ko (fun e => Nat.lt_irrefl _ (Hlt.out _ e)))
 clear t ko c5 q5 H4 O4 P4
 have c6 := P5.out.cell (i := 10) rfl
 have q6 := P5.out.lt
 go_wp2_with fail
 refine (mw6 p Hm.out S _ H5.out).mono ?_
 rintro e w6 ⟨rfl, ko, t⟩
 have H6 := hidP t
 have O6 := hidP (O5.out.trans ko)
 have P6 := hidP (P5.out.offp ko (fun e => Nat.lt_irrefl _ (Hlt.out _ e)))
 clear t ko c6 q6 H5 O5 P5
 go_wp2
 go_ret
 exact ⟨rfl, O6.out, H6.out⟩
theorem Qfm (p : WC) (hm : WMk p) (w : World) (h : WAt w (mW p)) :
 Calls Tryz.prog 9 #[.agg (Qaw p.ro p.wi p.le p.ke p.size p.nA p.ns.length p.nc p.mA p.ms.length p.mc p.sA p.ss.length p.sc p.fA p.fs.length p.fc p.hA p.hs.length p.hc p.dA p.ds.length p.dc), .int .i64 1] w fun e w' => e = .returned (.int .i64 (w6k p)) /\ Below w.heap.size w w' := by
 have Hm := hidP hm
 have HA := hidP h
 have P0 := hidP (Blk.new w 31 (Qaw p.ro p.wi p.le p.ke p.size p.nA p.ns.length p.nc p.mA p.ms.length p.mc p.sA p.ss.length p.sc p.fA p.fs.length p.fc p.hA p.hs.length p.hc p.dA p.ds.length p.dc))
 have B0 : Below w.heap.size w (w.alloc (.cells (Qaw p.ro p.wi p.le p.ke p.size p.nA p.ns.length p.nc p.mA p.ms.length p.mc p.sA p.ss.length p.sc p.fA p.fs.length p.fc p.hA p.hs.length p.hc p.dA p.ds.length p.dc) 31)) := Qab (Below.refl _ _) _
 obtain ⟨⟨b1, b1'⟩, ⟨b2, b2'⟩, ⟨b3, b3'⟩, ⟨b4, b4'⟩, ⟨b5, b5'⟩, ⟨b6, b6'⟩⟩ := Qfd hm
 have v1 : ¬ w1k p < 0 := by omega
 have v2 : ¬ w2k p < 0 := by omega
 have v3 : ¬ w3k p < 0 := by omega
 have v4 : ¬ w4k p < 0 := by omega
 have v5 : ¬ w5k p < 0 := by omega
 have v6 : ¬ w6k p < 0 := by omega
 clear hm h
 go_enter Tryz.func9, Tryz.ntmps9
 have c1 := P0.out.cell (i := 5) rfl
 have q1 := P0.out.lt
 go_wp2_with fail
 refine (hw1 p Hm.out _ (HA.out.below (by repeat (first | exact Below.refl _ _ | assumption | refine via0 (by assumption) ?_ | refine Below.drew ?_ | refine Qab ?_ _)))).mono ?_
 rintro e w1 ⟨rfl, g1⟩
 have B1 : Below w.heap.size w w1 := via0 g1 (by repeat (first | exact Below.refl _ _ | assumption | refine via0 (by assumption) ?_ | refine Below.drew ?_ | refine Qab ?_ _))
 have P1 := hidP (P0.out.below g1 P0.out.lt)
 clear g1 c1 q1 P0 B0
 have c2 := P1.out.cell (i := 6) rfl
 have q2 := P1.out.lt
 go_wp2_with fail
 refine (hw2 p Hm.out _ (HA.out.below (by repeat (first | exact Below.refl _ _ | assumption | refine via0 (by assumption) ?_ | refine Below.drew ?_ | refine Qab ?_ _)))).mono ?_
 rintro e w2 ⟨rfl, g2⟩
 have B2 : Below w.heap.size w w2 := via0 g2 (by repeat (first | exact Below.refl _ _ | assumption | refine via0 (by assumption) ?_ | refine Below.drew ?_ | refine Qab ?_ _))
 have P2 := hidP (P1.out.below g2 P1.out.lt)
 clear g2 c2 q2 P1 B1
 have c3 := P2.out.cell (i := 7) rfl
 have q3 := P2.out.lt
 go_wp2_with fail
 refine (hw3 p Hm.out _ (HA.out.below (by repeat (first | exact Below.refl _ _ | assumption | refine via0 (by assumption) ?_ | refine Below.drew ?_ | refine Qab ?_ _)))).mono ?_
 rintro e w3 ⟨rfl, g3⟩
 have B3 : Below w.heap.size w w3 := via0 g3 (by repeat (first | exact Below.refl _ _ | assumption | refine via0 (by assumption) ?_ | refine Below.drew ?_ | refine Qab ?_ _))
 have P3 := hidP (P2.out.below g3 P2.out.lt)
 clear g3 c3 q3 P2 B2
 have c4 := P3.out.cell (i := 8) rfl
 have q4 := P3.out.lt
 go_wp2_with fail
 refine (hw4 p Hm.out _ (HA.out.below (by repeat (first | exact Below.refl _ _ | assumption | refine via0 (by assumption) ?_ | refine Below.drew ?_ | refine Qab ?_ _)))).mono ?_
 rintro e w4 ⟨rfl, g4⟩
 have B4 : Below w.heap.size w w4 := via0 g4 (by repeat (first | exact Below.refl _ _ | assumption | refine via0 (by assumption) ?_ | refine Below.drew ?_ | refine Qab ?_ _))
 have P4 := hidP (P3.out.below g4 P3.out.lt)
 clear g4 c4 q4 P3 B3
 have c5 := P4.out.cell (i := 9) rfl
 have q5 := P4.out.lt
 go_wp2_with fail
 refine (hw5 p Hm.out _ (HA.out.below (by repeat (first | exact Below.refl _ _ | assumption | refine via0 (by assumption) ?_ | refine Below.drew ?_ | refine Qab ?_ _)))).mono ?_
 rintro e w5 ⟨rfl, g5⟩
 have B5 : Below w.heap.size w w5 := via0 g5 (by repeat (first | exact Below.refl _ _ | assumption | refine via0 (by assumption) ?_ | refine Below.drew ?_ | refine Qab ?_ _))
 have P5 := hidP (P4.out.below g5 P4.out.lt)
 clear g5 c5 q5 P4 B4
 have c6 := P5.out.cell (i := 10) rfl
 have q6 := P5.out.lt
 go_wp2_with fail
 refine (hw6 p Hm.out _ (HA.out.below (by repeat (first | exact Below.refl _ _ | assumption | refine via0 (by assumption) ?_ | refine Below.drew ?_ | refine Qab ?_ _)))).mono ?_
 rintro e w6 ⟨rfl, g6⟩
 have B6 : Below w.heap.size w w6 := via0 g6 (by repeat (first | exact Below.refl _ _ | assumption | refine via0 (by assumption) ?_ | refine Below.drew ?_ | refine Qab ?_ _))
 have P6 := hidP (P5.out.below g6 P5.out.lt)
 clear g6 c6 q6 P5 B5
 go_wp2
 go_ret
 exact ⟨rfl, B6⟩
end Go.Proofs.YtenhcjkkpnlbeaaGreatDoor.Gen
namespace Go.Proofs.YtenhcjkkpnlbeaaGreatDoor.WorldNewL
open ChangeShapes WideShapes ChangeAt RowKit Joins Deep Base Gen
theorem own : ownKnob Tryz.prog.godebug = none := by kernel_rfl
theorem laidOut : laidOutB Tryz.prog = true := by kernel_rfl
theorem wown_offp {W W' : World} {p : WC} {S T : Nat -> Prop} (h : WOwn W p S) (k : Offp T W W') (hd : ∀ b, S b -> ¬ T b) : WOwn W' p S := by
 obtain ⟨c, h⟩ := h
 exact ⟨c, ⟨h.n.offp Qcc k (fun b hb => hd b hb.1), h.m.offp Qaz k (fun b hb => hd b hb.1), h.s.offp k (fun b hb => hd b hb.1), h.f.offp k (fun b hb => hd b hb.1), h.h.offp k (fun b hb => hd b hb.1), h.d.offp k (fun b hb => hd b hb.1)⟩⟩
structure Lk (w W : World) (sc : Array Value) (s : WC) (i lo hi : Nat) : Prop where
  box : Blk W w.heap.size 23 sc
  boxI : Blk W i 31 (Qav s)
  bel : Below w.heap.size w W
  low : w.heap.size < i
  lo' : w.heap.size < lo
  hi' : hi <= i
  own : WOwn W s (fun b => lo <= b /\ b < hi)
theorem Lk.offp {w W W' : World} {sc : Array Value} {s : WC} {i lo hi : Nat} (h : Lk w W sc s i lo hi) {S : Nat -> Prop} (k : Offp S W W') (hS : ∀ x, S x -> i < x) : Lk w W' sc s i lo hi := by
 have h1 := h.low
 have h2 := h.lo'
 have h3 := h.hi'
 exact ⟨h.box.offp k (fun e => by have := hS _ e; omega), h.boxI.offp k (fun e => by have := hS _ e; omega), h.bel.trans (k.toBelow (fun x hx => by have := hS x hx; omega) h.bel.size), h1, h2, h3, wown_offp h.own k (fun b hb e => by have := hS _ e; have := hb.2; omega)⟩
theorem Lk.below {w W W' : World} {sc : Array Value} {s : WC} {i lo hi : Nat} (h : Lk w W sc s i lo hi) (k : Below W.heap.size W W') : Lk w W' sc s i lo hi := h.offp (Offp.of_below (S := fun _ => False) k) (fun _ e => e.elim)
theorem cN_new {q : PC} {B : Bool} {ro id : Int} {n : Nat} (h : Nw q B ro id n) (hr : B = true -> ro <= 4) (hn : n <= 5) : cN q <= 1000000 := by
 obtain ⟨_, k1⟩ := Qeu hr h.x
 obtain ⟨_, k2⟩ := Qeu hr h.y
 unfold cN
 unfold kct at k1 k2
 rw [h.l, h.vs, h.ns, h.ps, h.db, h.hs]
 simp only [List.length_nil, List.length_replicate, Qak, List.map_nil, List.sum_nil]
 simp only [Qak] at k1 k2
 omega
theorem new_fit {q : WC} {R : Bool} {ro wi le ke : Int} {n : Nat} (h : NwW q R ro wi le ke n) (hr : R = true -> ro <= 4 /\ n <= 5) : WFit q /\ WMk q := by
 have hl : q.ns.length <= 5 := by
  rw [h.nl]
  split
  . rename_i e; exact (hr e).2
  . omega
 have hs : q.ss.length <= 4 := by rw [h.ss]; split<;>simp
 have hf : q.fs.length <= 4 := by rw [h.fs]; split<;>simp
 have hm : q.ms.length = 0 := by rw [h.ms]; rfl
 have hh : q.hs.length = 0 := by rw [h.hs]; rfl
 have hd : q.ds.length = 0 := by rw [h.ds]; rfl
 have hx : ∀ x ∈ q.ns, PFit x /\ cN x <= 1000000 := fun x hx => by
  obtain ⟨i, hi, rfl⟩ := List.getElem_of_mem hx
  have hR : R = true := by
   cases R with
   | true => rfl
   | false => have := h.nl; simp only [Bool.false_eq_true, if_false] at this; omega
  have k := h.nn i hi
  exact ⟨k.fit (fun _ => (hr hR).1) (hr hR).2, cN_new k (fun _ => (hr hR).1) (hr hR).2⟩
 have hc : Qak cN q.ns <= 1000000 * q.ns.length + 0 * Qak (fun _ : PC => 0) q.ns := Ql1 cN (fun _ : PC => 0) 1000000 0 q.ns (fun y hy => by have := (hx y hy).2; omega)
 have hp : Qak cP q.ms = 0 := by rw [h.ms]; rfl
 exact ⟨⟨by omega, fun x k => (hx x k).1, by omega, by rw [h.ms]; simp, by omega, by omega, by omega, by omega⟩, ⟨by omega, fun x k => (hx x k).1, by omega, by omega, by rw [h.ms]; simp, by omega, by omega, by omega, by omega, by omega⟩⟩
theorem law_any (ro wi le ke size : Int) (hsz : I64 size) (w : World) (hgl : Glo w) :
 Calls Tryz.prog 3 #[.agg (Qag ro wi le ke), .int .i64 size] w fun e w' => e = .returned (.bool true) /\ Below w.heap.size w w' := by
 obtain ⟨bb, hbb⟩ : ∃ bb : Nat -> Bool, ∀ (k : Nat) (q : PC), Nw q true ro (k : Int) size.toNat -> okQ ro wi le ke (size.toNat : Int) q = bb k := by
  have h : ∀ k : Nat, ∃ b : Bool, ∀ q : PC, Nw q true ro (k : Int) size.toNat -> okQ ro wi le ke (size.toNat : Int) q = b := fun k => by
   by_cases h : ∃ q0, Nw q0 true ro (k : Int) size.toNat
   . obtain ⟨q0, h0⟩ := h
     exact ⟨okQ ro wi le ke (size.toNat : Int) q0, fun q hq => hq.ok h0 wi le ke _⟩
   . exact ⟨false, fun q hq => absurd ⟨q, hq⟩ h⟩
  exact ⟨fun k => Classical.choose (h k), fun k => Classical.choose_spec (h k)⟩
 obtain ⟨n, hn⟩ : ∃ n, size.toNat = n := ⟨_, rfl⟩
 obtain ⟨R, hR⟩ : ∃ R, (setB ro wi le ke && inB size 1 5 && allB bb n) = R := ⟨_, rfl⟩
 have hFit : Hid (∀ q : WC, NwW q R ro wi le ke n -> WFit q /\ WMk q) := fun q hq => new_fit hq (fun e => by
  rw [e] at hR
  simp only [Bool.and_eq_true] at hR
  have : 1 <= size /\ size <= 5 := by simpa [inB] using hR.1.2
  exact ⟨(Qdm hR.1.1).2, by omega⟩)
 have HSPEC : Hid (∀ W : World, Calls Tryz.prog 4 #[.agg (Qag ro wi le ke), .int .i64 size] W fun e w' => ∃ q : WC, e = .returned (.tuple #[.agg (Qav q), .bool R]) /\ NwW q R ro wi le ke n /\ WOwn w' q (fun z => W.heap.size <= z /\ z < w'.heap.size) /\ Below W.heap.size W w') := fun W => by have h := Qgk ro wi le ke size hsz bb hbb W; simp only [Ql7, hn] at h; simp only [hR] at h; exact h
 have HIMP : Hid (∀ W : World, Glo W -> Calls Tryz.prog 6 #[.agg (Qag ro wi le ke), .int .i64 size] W fun e w' => ∃ q : WC, e = .returned (.tuple #[.agg (Qav q), .bool R]) /\ NwW q R ro wi le ke n /\ WOwn w' q (fun z => W.heap.size <= z /\ z < w'.heap.size) /\ Below W.heap.size W w') := fun W hW => by have h := Qgl ro wi le ke size hsz bb hbb W hW; simp only [Ql7, hn] at h; simp only [hR] at h; exact h
 have HG := hidP hgl
 clear hbb hR hn hsz hgl
 go_enter Tryz.func3, Tryz.ntmps3
 go_wp2_with fail
 refine (Qe6 ro wi le ke _).mono ?_
 rintro e w1 ⟨rfl, g1⟩
 have p1 := (Blk.new w 23 (Qag ro wi le ke)).below g1 (by simp)
 have B1 : Below w.heap.size w w1 := via0 g1 (Qab (Below.refl _ _) _)
 have q1 : w.heap.size < w1.heap.size := p1.lt
 go_wp2_with fail
 refine (HSPEC.out _).mono ?_
 rintro e w2 ⟨s, rfl, hs, hos, g2⟩
 have HO := hidP (Blk.new w2 31 Qai)
 have n2 : Below w2.heap.size w2 ((w2.alloc (.cells Qai 31)).setRow w2.heap.size (Qav s)) := Qcf (Qab (Below.refl _ w2) _) (Nat.le_refl _) _
 have L2 : Lk w ((w2.alloc (.cells Qai 31)).setRow w2.heap.size (Qav s)) (Qag ro wi le ke) s w2.heap.size w1.heap.size w2.heap.size :=
  ⟨(p1.below g2 p1.lt).below n2 (p1.below g2 p1.lt).lt, HO.out.row _, via0 n2 (via0 g2 B1), by have := g2.size; omega, q1, Nat.le_refl _, hos.below n2⟩
 have HL := hidP L2
 have Hs := hidP hs
 clear p1 B1 n2 L2 hos hs g1 g2 q1
 go_upto_region 2 with (refine Qap rfl 31 _ _ rfl (g := w2.heap.size) (cells := Qav s) rfl rfl HO.out (by kernel_rfl) rfl (Qc6 _) ?_)
 clear HO
 generalize (w2.alloc (.cells Qai 31)).setRow w2.heap.size (Qav s) = V2 at *
 obtain ⟨u0, u1, u2, u3⟩ := HL.out.box.row4
 have qb := HL.out.box.lt
 go_wp2_with fail
 refine (Qe6 ro wi le ke _).mono ?_
 rintro e w3 ⟨rfl, g3⟩
 have L3 := HL.out.below g3
 have s3 := Nat.lt_of_lt_of_le HL.out.boxI.lt g3.size
 clear u0 u1 u2 u3 HL qb g3
 have HL := hidP L3
 clear L3
 go_wp2_with fail
 refine (HIMP.out _ (HG.out.below HL.out.bel)).mono ?_
 rintro e w4 ⟨x, rfl, hx, hox, g4⟩
 have HO := hidP (Blk.new w4 31 Qai)
 have n4 : Below w4.heap.size w4 ((w4.alloc (.cells Qai 31)).setRow w4.heap.size (Qav x)) := Qcf (Qab (Below.refl _ w4) _) (Nat.le_refl _) _
 have L4 := (HL.out.below g4).below n4
 have J4 := HO.out.row (Qav x)
 have O4 := hox.below n4
 have s4 := g4.size
 have n4s := n4.size
 have Hx := hidP hx
 have Hf := hidP (hFit.out x hx)
 clear HL n4 hox hx g4
 have HL := hidP L4
 have HX := hidP O4
 have HJ := hidP J4
 clear L4 O4 J4
 go_upto_region 3 with (refine Qap rfl 31 _ _ rfl (g := w4.heap.size) (cells := Qav x) rfl rfl HO.out (by kernel_rfl) rfl (Qc6 _) ?_)
 clear HO
 generalize (w4.alloc (.cells Qai 31)).setRow w4.heap.size (Qav x) = V4 at *
 have K1 := hidP s3
 have K2 := hidP s4
 clear s3 s4 n4s
 generalize w2.heap.size = i7 at *
 generalize w4.heap.size = i9 at *
 refine wp_region_lit ?_
 refine Qar rfl 31 _ rfl (b := i9) rfl HJ.out Tryz.underlying31 (by kernel_rfl) ?_
 refine Qar rfl 31 _ rfl (b := i7) rfl HL.out.boxI Tryz.underlying31 (by kernel_rfl) ?_
 go_wp2_with fail
 refine (Qgj (Hx.out.same Hs.out) (hFit.out s Hs.out).1 _ HX.out.at HL.out.own.at).mono ?_
 rintro e w5 ⟨rfl, g5⟩
 replace HL := hidP (HL.out.below g5)
 replace HX := hidP (HX.out.below g5)
 replace HJ := hidP (HJ.out.below g5 HJ.out.lt)
 have K3 := hidP g5.size
 clear g5
 go_upto_region 6 with fail
 refine wp_region_lit ?_
 refine Qar rfl 31 _ rfl (b := i9) rfl HJ.out Tryz.underlying31 (by kernel_rfl) ?_
 go_wp2_with fail
 refine (Qi9 x Hf.out.2 _ _ (fun z hz => by have := hz.2; have := HJ.out.lt; omega) HX.out).mono ?_
 obtain ⟨m, hm⟩ : ∃ m : Int, m = w6k x := ⟨_, rfl⟩
 have hm0 : ¬ m < 0 := by have := (Qfd Hf.out.2).2.2.2.2.2.1; omega
 rw [← hm]
 have Hm := hidP hm
 clear hm
 rintro e w6 ⟨rfl, k6, o6⟩
 replace HL := hidP (HL.out.offp k6 (fun z hz => by have := hz.1; have := K1.out; omega))
 replace HJ := hidP (HJ.out.offp k6 (fun e => by have := e.2; omega))
 have HX := hidP o6
 clear k6 o6 K3
 go_upto_region 8 with fail
 refine wp_region_lit ?_
 refine Qar rfl 31 _ rfl (b := i9) rfl HJ.out Tryz.underlying31 (by kernel_rfl) ?_
 go_wp2_with fail
 refine (Qfm x Hf.out.2 _ HX.out.at).mono ?_
 rw [← Hm.out]
 rintro e w7 ⟨rfl, g7⟩
 replace HL := hidP (HL.out.below g7)
 replace HX := hidP (HX.out.below g7)
 replace HJ := hidP (HJ.out.below g7 HJ.out.lt)
 clear g7
 obtain ⟨u0, u1, u2, u3⟩ := HL.out.box.row4
 have qb := HL.out.box.lt
 go_upto_region 13 with fail
 go_wp2_with fail
 refine (Qe6 ro wi le ke _).mono ?_
 rintro e w8 ⟨rfl, g8⟩
 have L8 := HL.out.below g8
 have X8 := HX.out.below g8
 have J8 := HJ.out.below g8 HJ.out.lt
 clear u0 u1 u2 u3 qb g8 HL HX HJ
 have HL := hidP L8
 have HX := hidP X8
 have HJ := hidP J8
 clear L8 X8 J8
 go_wp2_with fail
 refine (HIMP.out _ (HG.out.below HL.out.bel)).mono ?_
 rintro e w9 ⟨h, rfl, hh, hoh, g9⟩
 have HO := hidP (Blk.new w9 31 Qai)
 have n9 : Below w9.heap.size w9 ((w9.alloc (.cells Qai 31)).setRow w9.heap.size (Qav h)) := Qcf (Qab (Below.refl _ w9) _) (Nat.le_refl _) _
 have L9 := (HL.out.below g9).below n9
 have X9 := (HX.out.below g9).below n9
 have J9 := (HJ.out.below g9 HJ.out.lt).below n9 (HJ.out.below g9 HJ.out.lt).lt
 have H9 := HO.out.row (Qav h)
 have O9 := hoh.below n9
 have Hh := hidP hh
 have Hfh := hidP (hFit.out h hh)
 clear n9 hoh hh g9 HL HX HJ
 have HL := hidP L9
 have HX := hidP X9
 have HJ := hidP J9
 have HH := hidP O9
 have HK := hidP H9
 clear L9 X9 J9 O9 H9
 go_upto_region 14 with (refine Qap rfl 31 _ _ rfl (g := w9.heap.size) (cells := Qav h) rfl rfl HO.out (by kernel_rfl) rfl (Qc6 _) ?_)
 clear HO
 generalize (w9.alloc (.cells Qai 31)).setRow w9.heap.size (Qav h) = V9 at *
 generalize w9.heap.size = i13 at *
 refine wp_region_lit ?_
 refine Qar rfl 31 _ rfl (b := i13) rfl HK.out Tryz.underlying31 (by kernel_rfl) ?_
 refine Qar rfl 31 _ rfl (b := i7) rfl HL.out.boxI Tryz.underlying31 (by kernel_rfl) ?_
 go_wp2_with fail
 refine (Qgj (Hh.out.same Hs.out) (hFit.out s Hs.out).1 _ HH.out.at HL.out.own.at).mono ?_
 rintro e w10 ⟨rfl, g10⟩
 replace HL := hidP (HL.out.below g10)
 replace HX := hidP (HX.out.below g10)
 replace HJ := hidP (HJ.out.below g10 HJ.out.lt)
 clear g10 HK HH
 go_upto_region 17 with fail
 refine wp_region_lit ?_
 refine Qar rfl 31 _ rfl (b := i9) rfl HJ.out Tryz.underlying31 (by kernel_rfl) ?_
 go_wp2_with fail
 refine (Qfm x Hf.out.2 _ HX.out.at).mono ?_
 rw [← Hm.out]
 rintro e w11 ⟨rfl, g11⟩
 have HB := hidP (HL.out.below g11).bel
 clear HL HX HJ g11
 go_wp2
 go_ret
 exact ⟨rfl, HB.out⟩
theorem et : Tryz.prog.globalNamed "errors.errorType" = some 0 := by kernel_rfl
theorem rt : (Tryz.prog.cutTypes.find? (·.1 == "internal/reflectlite.rtype")).map (·.2) = some 275 := by kernel_rfl
theorem oneRow : ((List.range 370).filter fun t => Tryz.prog.rowNamed t [101, 114, 114, 111, 114]) = [195] := by kernel_rfl
theorem tsize : Tryz.prog.types.size = 370 := by kernel_rfl
theorem Qie {W : World} (h : laidMetH Tryz.prog Rows.fnExactWorldNewRow.laid W) : W.cell? ⟨0, 0, none⟩ = some (.iface 275 (.agg #[.pointer (some ⟨1, 195, none⟩)])) := by
 have h' : laidMet Tryz.prog [] W /\ handlesMet Tryz.prog Rows.fnExactWorldNewRow.laid W := h
 obtain ⟨name, u, ty, e1, e2, e3, e4, e5⟩ := h'.2 _ (List.mem_singleton.2 rfl)
 have en : name = [101, 114, 114, 111, 114] := (Option.some.inj e1).symm
 subst en
 obtain rfl := Option.some.inj (rt.symm.trans e2)
 have hm : ty ∈ (List.range 370).filter fun t => Tryz.prog.rowNamed t [101, 114, 114, 111, 114] := List.mem_filter.2 ⟨List.mem_range.2 (by rw [← tsize]; exact e3), e4⟩
 rw [oneRow] at hm
 obtain rfl := List.mem_singleton.1 hm
 have hh : typeHandle Tryz.prog 195 = .pointer (some ⟨1, 195, none⟩) := by kernel_rfl
 rw [hh] at e5
 simpa using World.var?_cell et e5 0
theorem contract (H : Type) (enc : TypeId × Value -> H) (W : World) (base : Nat) (args : Array Value) (ds gs : List (DataW H)) (before : List MemPlace)
 (hval : ∀ (j : Nat) t v, Tryz.f3.params[j]? = some t -> args[j]? = some v -> Value.okWide Tryz.prog W .any base t v)
 (hW : DataW.Whole enc Tryz.prog Tryz.f3.params.toList Rows.fnExactWorldNewSpec.vars false W args.toList ds gs before) (hL : laidMetH Tryz.prog Rows.fnExactWorldNewRow.laid W) :
 Calls Tryz.prog 3 args W fun e W' => ∃ v, e = .returned v /\ Rows.fnExactWorldNewSpec.post enc Tryz.prog Tryz.f3 false true false false W args v W' := by
 have hW' := hW
 obtain ⟨p, q, hA0, hV, rfl, hfz, hnd⟩ := hW
 have hA : DataW.TrodAll enc Tryz.prog W 0 (fun _ => true) true Tryz.f3.params.toList args.toList ds p := hA0
 rw [Tryz.params3] at hA hval
 obtain ⟨v0, vs0, d0, ds0, p0, q0, e0, rfl, rfl, h0, r0⟩ := trodAll_cons hA
 obtain ⟨v1, vs1, d1, ds1, p1, q1, rfl, rfl, rfl, h1, r1⟩ := trodAll_cons r0
 obtain ⟨rfl, rfl, rfl⟩ := trodAll_nil r1
 have e0' : args = #[v0, v1] := by cases args; simp_all
 subst e0'
 obtain ⟨rfl, rfl⟩ := trodVars_none hV
 obtain ⟨ro, wi, le, ke, rfl, _, _, _, _⟩ := openSetup (hval 0 23 v0 rfl rfl) h0
 obtain ⟨size, rfl, _, _, j2⟩ := open_int Tryz.underlying3 (hval 1 3 v1 rfl rfl) h1
 refine (law_any ro wi le ke size (Qir j2) W (Qie hL)).mono fun e W' ⟨he, hb⟩ => ?_
 subst he
 exact ⟨_, rfl, post_true laidOut (by kernel_rfl) (by kernel_rfl) Tryz.underlying4 rfl rfl hW' hb⟩
def laidIn (P : Program) (os : Os) : World :=
  { World.holding P os ⟨#[], #[], []⟩ with heap := (World.holding P os ⟨#[], #[], []⟩).heap.modify 0 fun
      | .cells _ t frozen => .cells #[.iface 275 (.agg #[.pointer (some ⟨1, 195, none⟩)])] t frozen
      | o => o }
theorem laid_met (os : Os) : laidMetH Tryz.prog Rows.fnExactWorldNewRow.laid ((laidIn Tryz.prog os).forCall (fun _ _ => 0) ⟨#[], #[.agg l0IIII, .int .i64 0], []⟩).memory :=
 laidMetH_of_parts (laidMet_nil _ _) (by kernel_rfl)
theorem reads (os : Os) {H : Type} (enc : TypeId × Value -> H) : ∃ places, DataW.whole enc Tryz.prog ((laidIn Tryz.prog os).forCall (fun _ _ => 0) ⟨#[], #[.agg l0IIII, .int .i64 0], []⟩).memory Tryz.f3.params.toList Rows.fnExactWorldNewSpec.vars false #[Value.agg l0IIII, .int .i64 0].toList 8 = some ([.agg [.lit (.int .i64 0), .lit (.int .i64 0), .lit (.int .i64 0), .lit (.int .i64 0)], .lit (.int .i64 0)], [], places) :=
 ⟨[], by kernel_rfl⟩
theorem lifted (os : Os) (started : os.Started) (H : Type) (enc : TypeId × Value -> H) (F : Stop.Interp) :
 ReturnsInHanded {} Tryz.checked os 3 .any ((OpenSpec.ofChange Rows.fnExactWorldNewSpec).preRow enc Tryz.prog Tryz.f3 Rows.fnExactWorldNewRow.domain false Rows.fnExactWorldNewRow.laid) (((OpenSpec.ofChange Rows.fnExactWorldNewSpec).at F).post enc Tryz.prog Tryz.f3 false true false false) := by
 obtain ⟨places, hx⟩ := reads os enc
 refine returnsInHanded_of_row (C := Tryz.checked) (s := OpenSpec.ofChange Rows.fnExactWorldNewSpec) own started (by kernel_rfl) Tryz.func3
  (witness_row_at (enc := enc) (C := Tryz.checked) false (laidIn Tryz.prog os) #[.agg l0IIII, .int .i64 0] rfl (by kernel_rfl) (by kernel_rfl) (by kernel_rfl)
   (OpenSpec.preRow_of_cond 8 hx (by kernel_rfl) (fun k hk => by cases hk) (by kernel_rfl) (laid_met os))) ?_
 intro W base args ds gs before hval hW _ _ _ hL _ _
 exact contract H enc W base args ds gs before hval hW hL
theorem said : Rows.FnExactWorldNewSaid :=
 OpenClaim.holds_of_cond 3 Tryz.f3 rfl rfl rfl rfl rfl rfl rfl ⟨rfl, rfl, rfl, rfl, rfl⟩ rfl rfl rfl rfl rfl (by kernel_rfl) Tryz.func3 (by kernel_rfl)
  (of_decide_eq_true (by kernel_rfl)) (by unfold Func.isWrapper; first | (rw [if_pos (by decide +kernel)]; kernel_rfl) | (rw [if_neg (by decide +kernel)]; exact ⟨rfl, rfl⟩))
  (fun os started H enc _ F => by rw [OpenClaim.pre_eq_preRow]; exact lifted os started H enc F)
theorem plain (f : FuncId) (fn : Func) (hf : Tryz.pinned.checked.prog.funcNamed "loop.example/g00393/laws.FnExactWorldNew" = some f) (hfn : Tryz.pinned.checked.prog.funcs[f]? = some fn) :
 true = Tryz.pinned.checked.prog.looks [] /\ ∀ (j : Nat) t, fn.params[j]? = some t -> Tryz.pinned.checked.prog.wantsStandIn t = false := by
 obtain rfl : f = 3 := Option.some.inj ((show Tryz.prog.funcNamed "loop.example/g00393/laws.FnExactWorldNew" = some 3 by kernel_rfl).symm.trans hf) |>.symm
 obtain rfl : fn = Tryz.f3 := (Option.some.inj (Tryz.func3.symm.trans hfn)).symm
 refine ⟨by kernel_rfl, fun j t ht => ?_⟩
 rw [Tryz.params3] at ht
 have ht2 : t = 23 ∨ t = 3 := by simpa using Array.mem_of_getElem? ht
 rcases ht2 with rfl | rfl
 . exact (show Tryz.prog.wantsStandIn 23 = false by kernel_rfl)
 . exact (show Tryz.prog.wantsStandIn 3 = false by kernel_rfl)
theorem card : Rows.FnExactWorldNewCardSaid :=
 Claim7.holds_tied_plain_at .later [] _ _ _ _ said (fun _ h => by cases h) (by kernel_rfl) (fun _ h => by cases h) fnExactWorldNew_row_tie rfl ⟨rfl, rfl⟩ (by kernel_rfl) rfl plain (by kernel_rfl)
end Go.Proofs.YtenhcjkkpnlbeaaGreatDoor.WorldNewL
namespace Go.Proofs.YtenhcjkkpnlbeaaGreatDoor
theorem worldNew_holds : Rows.FnExactWorldNewCardSaid := WorldNewL.card
end Go.Proofs.YtenhcjkkpnlbeaaGreatDoor
