/-
  A node marked where it lies, and held against its marks. No condition but its size.
-/
import Derived.Test.YtmdaammalacifaaGreatSmP
set_option linter.unusedVariables false
set_option linter.unusedSimpArgs false
set_option maxRecDepth 100000
set_option maxHeartbeats 8000000
namespace Go.Proofs.YtmdaammalacifaaGreat.Gen
open ChangeShapes WideShapes ChangeAt RowKit Joins Deep Base
theorem sub_sl {α : Type} [Cel α] {w : World} {a : Option Addr} {l : List α} {S : Nat -> Prop} (h : Sub w a l S) : ∃ F, Sl w a l F /\ ∀ b ∈ F, S b := by
 rcases h with h | ⟨b, o, e, hS, hb, hi, ht⟩
 . exact ⟨[], .inl ⟨h, rfl⟩, by simp⟩
 . exact ⟨[b], .inr ⟨b, o, e, rfl, hb, hi, ht⟩, by simpa using hS⟩
theorem sl_sub {α : Type} [Cel α] {w : World} {a : Option Addr} {l : List α} {F : List Nat} {S : Nat -> Prop} (h : Sl w a l F) (hF : ∀ b ∈ F, S b) : Sub w a l S := by
 rcases h with ⟨h, _⟩ | ⟨b, o, e, rfl, hb, hi, ht⟩
 . exact .inl h
 . exact .inr ⟨b, o, e, hF b (by simp), hb, hi, ht⟩
theorem Qdo {α : Type} [Cel α] {w : World} {a : Option Addr} {l : List α} {S : Nat -> Prop} {n : Nat} (h : Sub w a l S) (hn : l.length = n) : n = 0 ∨ ∃ b o, a = some ⟨b, o, none⟩ /\ b < w.heap.size /\ In w b o l := by
 rcases h with h | ⟨b, o, e, hS, hb, hi, ht⟩
 . left; rw [← hn, h]; rfl
 . exact .inr ⟨b, o, e, hb, hi⟩
theorem mark_bools (a : Option Addr) (cap : Nat) (l : List Bool) (S : Nat -> Prop) (k : Int) (hk : 1 <= k) (hk' : k <= 100000000) (hl : l.length <= 2000000) (w : World) (h : Sub w a l S) :
 Calls Tryz.prog 43 #[.slice a l.length cap, .int .i64 k] w fun e w' => e = .returned (.int .i64 (k + (l.length : Int))) /\ Offp S w w' /\ Sub w' a (Qay l.length k) S := by
 rcases h with rfl | ⟨b, o, rfl, hS, hb, hi, ht⟩
 . refine (Qe0 a cap k w).mono ?_
   rintro e w' ⟨rfl, rfl⟩
   exact ⟨by simp, Offp.refl _ _, .inl rfl⟩
 . refine (Qf4 b o cap l.length k hk hk' hl w hb ht).mono ?_
   rintro e w' ⟨rfl, ko, hin, hth⟩
   exact ⟨rfl, (Offp.of_only ko).mono (fun x e => e ▸ hS), .inr ⟨b, o, rfl, hS, Nat.lt_of_lt_of_le hb ko.size, hin, by rw [Qbq]; exact hth⟩⟩
theorem mark_rpcs (a : Option Addr) (cap : Nat) (l : List RpC) (S : Nat -> Prop) (k : Int) (hk : 1 <= k) (hk' : k <= 50000000) (hc : Qae cP l <= 50000000) (hl : l.length <= 1048576) (hs : ∀ x ∈ l, x.l.length <= 1048576) (w : World) (h : Own rpcP w a l S) :
 Calls Tryz.prog 47 #[.slice a l.length cap, .int .i64 k] w fun e w' => e = .returned (.int .i64 (k + (Qae cP l : Int))) /\ Offp S w w' /\ Own rpcP w' a (marked mP cP l k) S := by
 rcases h with rfl | ⟨b, o, fp, rfl, hS, hf, hO⟩
 . have : Calls Tryz.prog 47 #[.slice a 0 cap, .int .i64 k] w fun e w' => e = .returned (.int .i64 k) /\ w' = w := by
    go_enter Tryz.func47, Tryz.ntmps47
    go_wp2
    go_loopw [1, 5] (fun kk i w' => kk = .int .i64 k /\ i = .int .i64 0 /\ w' = w) (fun _ _ _ => 0)
    case atStart => exact ⟨rfl, rfl, rfl⟩
    case round =>
     obtain ⟨rfl, rfl, rfl⟩ := hrel
     go_wp2
     go_ret
     exact ⟨rfl, rfl⟩
   refine this.mono ?_
   rintro e w' ⟨rfl, rfl⟩
   exact ⟨by simp [Qae], Offp.refl _ _, .inl rfl⟩
 . refine (Qfw b o cap l fp k hk hk' hc hl hs w hO).mono ?_
   rintro e w' ⟨rfl, ko, hO'⟩
   exact ⟨rfl, ko.mono (fun x hx => by rcases hx with rfl | ⟨i, hx⟩; exact hS; exact hf i x hx), .inr ⟨b, o, fp, rfl, hS, hf, hO'⟩⟩
def pz1 (p : PC) : Int := 1 + (p.l.length : Int) * 9 + (kct p.x : Int)
def pz2 (p : PC) : Int := pz1 p + (p.vs.length : Int)
def pz3 (p : PC) : Int := pz2 p + (p.ns.length : Int)
def pz4 (p : PC) : Int := pz3 p + (p.ps.length : Int)
def pz5 (p : PC) : Int := pz4 p + (kct p.y : Int)
def pz6 (p : PC) : Int := pz5 p + (p.db.length : Int)
def pz7 (p : PC) : Int := pz6 p + (Qae cP p.hs : Int)
def mPe (p : PC) : PC := { p with l := Qat p.l.length 1, x := mK p.x (1 + (p.l.length : Int) * 9), vs := Qay p.vs.length (pz1 p), ns := Qaq p.ns.length (pz2 p), ps := Qaq p.ps.length (pz3 p), y := mK p.y (pz4 p), db := Qbl p.db.length (pz5 p), hs := marked mP cP p.hs (pz6 p) }
theorem cP_of (l : List RpC) : Qae cP l <= 9 * l.length + 9 * Qae (fun z : RpC => z.l.length) l := Qbv cP (fun z : RpC => z.l.length) 9 9 l (fun y _ => by simp only [cP]; omega)
theorem pz_le {p : PC} (hf : PFit p) : (1 <= pz1 p /\ pz1 p <= 10000000) /\ (1 <= pz2 p /\ pz2 p <= 10000000) /\ (1 <= pz3 p /\ pz3 p <= 10000000) /\ (1 <= pz4 p /\ pz4 p <= 10000000) /\ (1 <= pz5 p /\ pz5 p <= 10000000) /\ (1 <= pz6 p /\ pz6 p <= 10000000) /\ (1 <= pz7 p /\ pz7 p <= 10000000) /\ Qae cP p.hs <= 10000000 := by
 have h := hf.tot
 have c := cP_of p.hs
 unfold pz7 pz6 pz5 pz4 pz3 pz2 pz1
 refine ⟨⟨?_, ?_⟩, ⟨?_, ?_⟩, ⟨?_, ?_⟩, ⟨?_, ?_⟩, ⟨?_, ?_⟩, ⟨?_, ?_⟩, ⟨?_, ?_⟩, ?_⟩<;>omega
theorem Qfy (p : PC) (hf : PFit p) (S : Nat -> Prop) (w : World) (hlt : ∀ b, S b -> b < w.heap.size) (h : POwn w p S) :
 Calls Tryz.prog 12 #[.agg #[.int .i64 p.id, .int .i64 p.te, .int .i64 p.vo, .int .i64 p.base, .int .i64 p.bt, .slice p.A p.l.length p.cap, .slice p.x.rA p.x.rs.length p.x.rc, .slice p.x.mA p.x.ms.length p.x.mc, .slice p.x.gA p.x.gs.length p.x.gc, .int .i64 p.x.time, .slice p.x.dA p.x.ds.length p.x.dc, .slice p.x.lA p.x.ls.length p.x.lc, .int .i64 p.role, .slice p.vA p.vs.length p.vc, .slice p.nA p.ns.length p.nc, .slice p.pA p.ps.length p.pc, .int .i64 p.com, .slice p.y.rA p.y.rs.length p.y.rc, .slice p.y.mA p.y.ms.length p.y.mc, .slice p.y.gA p.y.gs.length p.y.gc, .int .i64 p.y.time, .slice p.y.dA p.y.ds.length p.y.dc, .slice p.y.lA p.y.ls.length p.y.lc, .slice p.dA p.db.length p.dc, .int .i64 p.su, .slice p.hA p.hs.length p.hc], .int .i64 1] w fun e w' => e = .returned (.int .i64 (pz7 p)) /\ Offp S w w' /\ POwn w' (mPe p) S := by
 obtain ⟨col, h⟩ := h
 obtain ⟨y1, y2, y3, y4, y5, y6, y7, yc⟩ := pz_le hf
 have C1 : Hid (∀ W : World, (∀ b, S b -> b < W.heap.size) -> Sub W p.A p.l (fun b => S b /\ col b = 1) -> KOwn W p.x (fun b => S b /\ col b = 2) -> Calls Tryz.prog 42 #[.agg #[.int .i64 p.te, .int .i64 p.vo, .int .i64 p.base, .int .i64 p.bt, .slice p.A p.l.length p.cap, .slice p.x.rA p.x.rs.length p.x.rc, .slice p.x.mA p.x.ms.length p.x.mc, .slice p.x.gA p.x.gs.length p.x.gc, .int .i64 p.x.time, .slice p.x.dA p.x.ds.length p.x.dc, .slice p.x.lA p.x.ls.length p.x.lc], .int .i64 1] W fun e w' => e = .returned (.int .i64 (pz1 p)) /\ Offp (fun b => (fun b => S b /\ col b = 1) b ∨ (fun b => S b /\ col b = 2) b) W w' /\ Sub w' p.A (Qat p.l.length 1) (fun b => S b /\ col b = 1) /\ KOwn w' (mK p.x (1 + (p.l.length : Int) * 9)) (fun b => S b /\ col b = 2)) := fun W hW hl hx => by
  obtain ⟨F, hs, hF⟩ := sub_sl hl
  refine (Qf1 p.te p.vo p.base p.bt p.A p.cap p.l hf.ll p.x hf.xf F (fun b => S b /\ col b = 2) (fun b hb hn => absurd ((hF b hb).2.symm.trans hn.2) (by decide)) 1 (by omega) (by omega) W (fun b hb => hW b hb.1) hs hx).mono ?_
  rintro e w' ⟨e1, k1, s1, t1⟩
  exact ⟨e1, k1.mono (fun b hb => hb.elim (fun hb => .inl (hF b hb)) .inr), sl_sub s1 hF, t1⟩
 have C2 : Hid (∀ W : World, Sub W p.vA p.vs (fun b => S b /\ col b = 3) -> Calls Tryz.prog 43 #[.slice p.vA p.vs.length p.vc, .int .i64 (pz1 p)] W fun e w' => e = .returned (.int .i64 (pz2 p)) /\ Offp (fun b => S b /\ col b = 3) W w' /\ Sub w' p.vA (Qay p.vs.length (pz1 p)) (fun b => S b /\ col b = 3)) := fun W hs => mark_bools p.vA p.vc p.vs _ (pz1 p) y1.1 (by omega) (by have := hf.vl; omega) W hs
 have C3 : Hid (∀ W : World, Sub W p.nA p.ns (fun b => S b /\ col b = 4) -> Calls Tryz.prog 44 #[.slice p.nA p.ns.length p.nc, .int .i64 (pz2 p)] W fun e w' => e = .returned (.int .i64 (pz3 p)) /\ Offp (fun b => S b /\ col b = 4) W w' /\ Sub w' p.nA (Qaq p.ns.length (pz2 p)) (fun b => S b /\ col b = 4)) := fun W hs => Qci p.nA p.nc p.ns _ (pz2 p) y2.1 (by omega) (by have := hf.nl; omega) W hs
 have C4 : Hid (∀ W : World, Sub W p.pA p.ps (fun b => S b /\ col b = 5) -> Calls Tryz.prog 44 #[.slice p.pA p.ps.length p.pc, .int .i64 (pz3 p)] W fun e w' => e = .returned (.int .i64 (pz4 p)) /\ Offp (fun b => S b /\ col b = 5) W w' /\ Sub w' p.pA (Qaq p.ps.length (pz3 p)) (fun b => S b /\ col b = 5)) := fun W hs => Qci p.pA p.pc p.ps _ (pz3 p) y3.1 (by omega) (by have := hf.pl; omega) W hs
 have C5 : Hid (∀ W : World, (∀ b, S b -> b < W.heap.size) -> KOwn W p.y (fun b => S b /\ col b = 6) -> Calls Tryz.prog 45 #[.agg #[.slice p.y.rA p.y.rs.length p.y.rc, .slice p.y.mA p.y.ms.length p.y.mc, .slice p.y.gA p.y.gs.length p.y.gc, .int .i64 p.y.time, .slice p.y.dA p.y.ds.length p.y.dc, .slice p.y.lA p.y.ls.length p.y.lc], .int .i64 (pz4 p)] W fun e w' => e = .returned (.int .i64 (pz5 p)) /\ Offp (fun b => S b /\ col b = 6) W w' /\ KOwn w' (mK p.y (pz4 p)) (fun b => S b /\ col b = 6)) := fun W hW hs => Qdi p.y hf.yf _ (pz4 p) y4.1 y4.2 W (fun b hb => hW b hb.1) hs
 have C6 : Hid (∀ W : World, Sub W p.dA p.db (fun b => S b /\ col b = 7) -> Calls Tryz.prog 46 #[.agg #[.slice p.dA p.db.length p.dc, .int .i64 p.su], .int .i64 (pz5 p)] W fun e w' => e = .returned (.int .i64 (pz6 p)) /\ Offp (fun b => S b /\ col b = 7) W w' /\ Sub w' p.dA (Qbl p.db.length (pz5 p)) (fun b => S b /\ col b = 7)) := fun W hs => by
  obtain ⟨F, hs, hF⟩ := sub_sl hs
  refine (Qf3 p.su p.dA p.dc p.db (by have := hf.dl; omega) (pz5 p) y5.1 (by omega) F W hs).mono ?_
  rintro e w' ⟨e1, k1, s1⟩
  exact ⟨e1, (Offp.of_off k1).mono hF, sl_sub s1 hF⟩
 have C7 : Hid (∀ W : World, Own rpcP W p.hA p.hs (fun b => S b /\ col b = 8) -> Calls Tryz.prog 47 #[.slice p.hA p.hs.length p.hc, .int .i64 (pz6 p)] W fun e w' => e = .returned (.int .i64 (pz7 p)) /\ Offp (fun b => S b /\ col b = 8) W w' /\ Own rpcP w' p.hA (marked mP cP p.hs (pz6 p)) (fun b => S b /\ col b = 8)) := fun W hs => mark_rpcs p.hA p.hc p.hs _ (pz6 p) y6.1 (by omega) (by omega) hf.hl hf.hi W hs
 have Hlt : Hid (∀ b, S b -> b < w.heap.size) := hlt
 have P := hidP (Blk.new w 59 #[.int .i64 p.id, .int .i64 p.te, .int .i64 p.vo, .int .i64 p.base, .int .i64 p.bt, .slice p.A p.l.length p.cap, .slice p.x.rA p.x.rs.length p.x.rc, .slice p.x.mA p.x.ms.length p.x.mc, .slice p.x.gA p.x.gs.length p.x.gc, .int .i64 p.x.time, .slice p.x.dA p.x.ds.length p.x.dc, .slice p.x.lA p.x.ls.length p.x.lc, .int .i64 p.role, .slice p.vA p.vs.length p.vc, .slice p.nA p.ns.length p.nc, .slice p.pA p.ps.length p.pc, .int .i64 p.com, .slice p.y.rA p.y.rs.length p.y.rc, .slice p.y.mA p.y.ms.length p.y.mc, .slice p.y.gA p.y.gs.length p.y.gc, .int .i64 p.y.time, .slice p.y.dA p.y.ds.length p.y.dc, .slice p.y.lA p.y.ls.length p.y.lc, .slice p.dA p.db.length p.dc, .int .i64 p.su, .slice p.hA p.hs.length p.hc])
 have O := hidP (show Offp S w (w.alloc (.cells #[.int .i64 p.id, .int .i64 p.te, .int .i64 p.vo, .int .i64 p.base, .int .i64 p.bt, .slice p.A p.l.length p.cap, .slice p.x.rA p.x.rs.length p.x.rc, .slice p.x.mA p.x.ms.length p.x.mc, .slice p.x.gA p.x.gs.length p.x.gc, .int .i64 p.x.time, .slice p.x.dA p.x.ds.length p.x.dc, .slice p.x.lA p.x.ls.length p.x.lc, .int .i64 p.role, .slice p.vA p.vs.length p.vc, .slice p.nA p.ns.length p.nc, .slice p.pA p.ps.length p.pc, .int .i64 p.com, .slice p.y.rA p.y.rs.length p.y.rc, .slice p.y.mA p.y.ms.length p.y.mc, .slice p.y.gA p.y.gs.length p.y.gc, .int .i64 p.y.time, .slice p.y.dA p.y.ds.length p.y.dc, .slice p.y.lA p.y.ls.length p.y.lc, .slice p.dA p.db.length p.dc, .int .i64 p.su, .slice p.hA p.hs.length p.hc] 59)) from Offp.of_below (Qab (Below.refl _ _) _))
 have g0 : Below w.heap.size w (w.alloc (.cells #[.int .i64 p.id, .int .i64 p.te, .int .i64 p.vo, .int .i64 p.base, .int .i64 p.bt, .slice p.A p.l.length p.cap, .slice p.x.rA p.x.rs.length p.x.rc, .slice p.x.mA p.x.ms.length p.x.mc, .slice p.x.gA p.x.gs.length p.x.gc, .int .i64 p.x.time, .slice p.x.dA p.x.ds.length p.x.dc, .slice p.x.lA p.x.ls.length p.x.lc, .int .i64 p.role, .slice p.vA p.vs.length p.vc, .slice p.nA p.ns.length p.nc, .slice p.pA p.ps.length p.pc, .int .i64 p.com, .slice p.y.rA p.y.rs.length p.y.rc, .slice p.y.mA p.y.ms.length p.y.mc, .slice p.y.gA p.y.gs.length p.y.gc, .int .i64 p.y.time, .slice p.y.dA p.y.ds.length p.y.dc, .slice p.y.lA p.y.ls.length p.y.lc, .slice p.dA p.db.length p.dc, .int .i64 p.su, .slice p.hA p.hs.length p.hc] 59)) := Qab (Below.refl _ _) _
 have f1 := hidP (h.l.below g0)
 have f2 := hidP (h.x.below g0)
 have f3 := hidP (h.v.below g0)
 have f4 := hidP (h.n.below g0)
 have f5 := hidP (h.q.below g0)
 have f6 := hidP (h.y.below g0)
 have f7 := hidP (h.d.below g0)
 have f8 := hidP (h.h.below Qan g0)
 obtain ⟨a1, ha1⟩ : ∃ z, pz1 p = z := ⟨_, rfl⟩
 obtain ⟨a2, ha2⟩ : ∃ z, pz2 p = z := ⟨_, rfl⟩
 obtain ⟨a3, ha3⟩ : ∃ z, pz3 p = z := ⟨_, rfl⟩
 obtain ⟨a4, ha4⟩ : ∃ z, pz4 p = z := ⟨_, rfl⟩
 obtain ⟨a5, ha5⟩ : ∃ z, pz5 p = z := ⟨_, rfl⟩
 obtain ⟨a6, ha6⟩ : ∃ z, pz6 p = z := ⟨_, rfl⟩
 obtain ⟨a7, ha7⟩ : ∃ z, pz7 p = z := ⟨_, rfl⟩
 have HE : Hid (∀ W : World, Sub W p.A (Qat p.l.length 1) (fun b => S b /\ col b = 1) -> KOwn W (mK p.x (1 + (p.l.length : Int) * 9)) (fun b => S b /\ col b = 2) -> Sub W p.vA (Qay p.vs.length a1) (fun b => S b /\ col b = 3) -> Sub W p.nA (Qaq p.ns.length a2) (fun b => S b /\ col b = 4) -> Sub W p.pA (Qaq p.ps.length a3) (fun b => S b /\ col b = 5) -> KOwn W (mK p.y a4) (fun b => S b /\ col b = 6) -> Sub W p.dA (Qbl p.db.length a5) (fun b => S b /\ col b = 7) -> Own rpcP W p.hA (marked mP cP p.hs a6) (fun b => S b /\ col b = 8) -> POwn W (mPe p) S) := fun W q1 q2 q3 q4 q5 q6 q7 q8 => by subst ha1 ha2 ha3 ha4 ha5 ha6; exact ⟨col, q1, q2, q3, q4, q5, q6, q7, q8⟩
 rw [ha1] at C1
 rw [ha1, ha2] at C2
 rw [ha2, ha3] at C3
 rw [ha3, ha4] at C4
 rw [ha4, ha5] at C5
 rw [ha5, ha6] at C6
 rw [ha6, ha7] at C7
 rw [ha7]
 clear h hf hlt y1 y2 y3 y4 y5 y6 y7 yc ha1 ha2 ha3 ha4 ha5 ha6 ha7 g0
 go_enter Tryz.func12, Tryz.ntmps12
 have u1 := P.out.cell (i := 1) rfl
 have u2 := P.out.cell (i := 2) rfl
 have u2s := P.out.cell (i := 1 + 1) rfl
 have u3 := P.out.cell (i := 3) rfl
 have u3s := P.out.cell (i := 1 + 2) rfl
 have u4 := P.out.cell (i := 4) rfl
 have u4s := P.out.cell (i := 1 + 3) rfl
 have u5 := P.out.cell (i := 5) rfl
 have u5s := P.out.cell (i := 1 + 4) rfl
 have u6 := P.out.cell (i := 6) rfl
 have u6s := P.out.cell (i := 1 + 5) rfl
 have u7 := P.out.cell (i := 7) rfl
 have u7s := P.out.cell (i := 1 + 6) rfl
 have u8 := P.out.cell (i := 8) rfl
 have u8s := P.out.cell (i := 1 + 7) rfl
 have u9 := P.out.cell (i := 9) rfl
 have u9s := P.out.cell (i := 1 + 8) rfl
 have u10 := P.out.cell (i := 10) rfl
 have u10s := P.out.cell (i := 1 + 9) rfl
 have u11 := P.out.cell (i := 11) rfl
 have u11s := P.out.cell (i := 1 + 10) rfl
 have q0 := P.out.lt
 go_wp2_with fail
 refine (C1.out _ (fun b hb => Nat.lt_of_lt_of_le (Hlt.out b hb) O.out.size) f1.out f2.out).mono ?_
 rintro e w1 ⟨rfl, k, nf1, nf2⟩
 replace f1 := hidP nf1
 replace f2 := hidP nf2
 replace f3 := hidP (f3.out.offp k (fun b hb hn => hn.elim (fun hn => absurd (hb.2.symm.trans hn.2) (by decide)) (fun hn => absurd (hb.2.symm.trans hn.2) (by decide))))
 replace f4 := hidP (f4.out.offp k (fun b hb hn => hn.elim (fun hn => absurd (hb.2.symm.trans hn.2) (by decide)) (fun hn => absurd (hb.2.symm.trans hn.2) (by decide))))
 replace f5 := hidP (f5.out.offp k (fun b hb hn => hn.elim (fun hn => absurd (hb.2.symm.trans hn.2) (by decide)) (fun hn => absurd (hb.2.symm.trans hn.2) (by decide))))
 replace f6 := hidP (f6.out.offp k (fun b hb hn => hn.elim (fun hn => absurd (hb.2.symm.trans hn.2) (by decide)) (fun hn => absurd (hb.2.symm.trans hn.2) (by decide))))
 replace f7 := hidP (f7.out.offp k (fun b hb hn => hn.elim (fun hn => absurd (hb.2.symm.trans hn.2) (by decide)) (fun hn => absurd (hb.2.symm.trans hn.2) (by decide))))
 replace f8 := hidP (f8.out.offp Qan k (fun b hb hn => hn.elim (fun hn => absurd (hb.2.symm.trans hn.2) (by decide)) (fun hn => absurd (hb.2.symm.trans hn.2) (by decide))))
 replace P := hidP (P.out.offp k (fun e => e.elim (fun e => Nat.lt_irrefl _ (Hlt.out _ e.1)) (fun e => Nat.lt_irrefl _ (Hlt.out _ e.1))))
 replace O := hidP (O.out.trans (k.mono (fun b hb => hb.elim (fun hb => hb.1) (fun hb => hb.1))))
 clear k q0 nf1 nf2 u1 u2 u2s u3 u3s u4 u4s u5 u5s u6 u6s u7 u7s u8 u8s u9 u9s u10 u10s u11 u11s
 have u13 := P.out.cell (i := 13) rfl
 have q0 := P.out.lt
 go_wp2_with fail
 refine (C2.out _ f3.out).mono ?_
 rintro e w2 ⟨rfl, k, nf3⟩
 replace f1 := hidP (f1.out.offp k (fun b hb hn => absurd (hb.2.symm.trans hn.2) (by decide)))
 replace f2 := hidP (f2.out.offp k (fun b hb hn => absurd (hb.2.symm.trans hn.2) (by decide)))
 replace f3 := hidP nf3
 replace f4 := hidP (f4.out.offp k (fun b hb hn => absurd (hb.2.symm.trans hn.2) (by decide)))
 replace f5 := hidP (f5.out.offp k (fun b hb hn => absurd (hb.2.symm.trans hn.2) (by decide)))
 replace f6 := hidP (f6.out.offp k (fun b hb hn => absurd (hb.2.symm.trans hn.2) (by decide)))
 replace f7 := hidP (f7.out.offp k (fun b hb hn => absurd (hb.2.symm.trans hn.2) (by decide)))
 replace f8 := hidP (f8.out.offp Qan k (fun b hb hn => absurd (hb.2.symm.trans hn.2) (by decide)))
 replace P := hidP (P.out.offp k (fun e => Nat.lt_irrefl _ (Hlt.out _ e.1)))
 replace O := hidP (O.out.trans (k.mono (fun b hb => hb.1)))
 clear k q0 nf3 u13
 have u14 := P.out.cell (i := 14) rfl
 have q0 := P.out.lt
 go_wp2_with fail
 refine (C3.out _ f4.out).mono ?_
 rintro e w3 ⟨rfl, k, nf4⟩
 replace f1 := hidP (f1.out.offp k (fun b hb hn => absurd (hb.2.symm.trans hn.2) (by decide)))
 replace f2 := hidP (f2.out.offp k (fun b hb hn => absurd (hb.2.symm.trans hn.2) (by decide)))
 replace f3 := hidP (f3.out.offp k (fun b hb hn => absurd (hb.2.symm.trans hn.2) (by decide)))
 replace f4 := hidP nf4
 replace f5 := hidP (f5.out.offp k (fun b hb hn => absurd (hb.2.symm.trans hn.2) (by decide)))
 replace f6 := hidP (f6.out.offp k (fun b hb hn => absurd (hb.2.symm.trans hn.2) (by decide)))
 replace f7 := hidP (f7.out.offp k (fun b hb hn => absurd (hb.2.symm.trans hn.2) (by decide)))
 replace f8 := hidP (f8.out.offp Qan k (fun b hb hn => absurd (hb.2.symm.trans hn.2) (by decide)))
 replace P := hidP (P.out.offp k (fun e => Nat.lt_irrefl _ (Hlt.out _ e.1)))
 replace O := hidP (O.out.trans (k.mono (fun b hb => hb.1)))
 clear k q0 nf4 u14
 have u15 := P.out.cell (i := 15) rfl
 have q0 := P.out.lt
 go_wp2_with fail
 refine (C4.out _ f5.out).mono ?_
 rintro e w4 ⟨rfl, k, nf5⟩
 replace f1 := hidP (f1.out.offp k (fun b hb hn => absurd (hb.2.symm.trans hn.2) (by decide)))
 replace f2 := hidP (f2.out.offp k (fun b hb hn => absurd (hb.2.symm.trans hn.2) (by decide)))
 replace f3 := hidP (f3.out.offp k (fun b hb hn => absurd (hb.2.symm.trans hn.2) (by decide)))
 replace f4 := hidP (f4.out.offp k (fun b hb hn => absurd (hb.2.symm.trans hn.2) (by decide)))
 replace f5 := hidP nf5
 replace f6 := hidP (f6.out.offp k (fun b hb hn => absurd (hb.2.symm.trans hn.2) (by decide)))
 replace f7 := hidP (f7.out.offp k (fun b hb hn => absurd (hb.2.symm.trans hn.2) (by decide)))
 replace f8 := hidP (f8.out.offp Qan k (fun b hb hn => absurd (hb.2.symm.trans hn.2) (by decide)))
 replace P := hidP (P.out.offp k (fun e => Nat.lt_irrefl _ (Hlt.out _ e.1)))
 replace O := hidP (O.out.trans (k.mono (fun b hb => hb.1)))
 clear k q0 nf5 u15
 have u17 := P.out.cell (i := 17) rfl
 have u18 := P.out.cell (i := 18) rfl
 have u18s := P.out.cell (i := 17 + 1) rfl
 have u19 := P.out.cell (i := 19) rfl
 have u19s := P.out.cell (i := 17 + 2) rfl
 have u20 := P.out.cell (i := 20) rfl
 have u20s := P.out.cell (i := 17 + 3) rfl
 have u21 := P.out.cell (i := 21) rfl
 have u21s := P.out.cell (i := 17 + 4) rfl
 have u22 := P.out.cell (i := 22) rfl
 have u22s := P.out.cell (i := 17 + 5) rfl
 have q0 := P.out.lt
 go_wp2_with fail
 refine (C5.out _ (fun b hb => Nat.lt_of_lt_of_le (Hlt.out b hb) O.out.size) f6.out).mono ?_
 rintro e w5 ⟨rfl, k, nf6⟩
 replace f1 := hidP (f1.out.offp k (fun b hb hn => absurd (hb.2.symm.trans hn.2) (by decide)))
 replace f2 := hidP (f2.out.offp k (fun b hb hn => absurd (hb.2.symm.trans hn.2) (by decide)))
 replace f3 := hidP (f3.out.offp k (fun b hb hn => absurd (hb.2.symm.trans hn.2) (by decide)))
 replace f4 := hidP (f4.out.offp k (fun b hb hn => absurd (hb.2.symm.trans hn.2) (by decide)))
 replace f5 := hidP (f5.out.offp k (fun b hb hn => absurd (hb.2.symm.trans hn.2) (by decide)))
 replace f6 := hidP nf6
 replace f7 := hidP (f7.out.offp k (fun b hb hn => absurd (hb.2.symm.trans hn.2) (by decide)))
 replace f8 := hidP (f8.out.offp Qan k (fun b hb hn => absurd (hb.2.symm.trans hn.2) (by decide)))
 replace P := hidP (P.out.offp k (fun e => Nat.lt_irrefl _ (Hlt.out _ e.1)))
 replace O := hidP (O.out.trans (k.mono (fun b hb => hb.1)))
 clear k q0 nf6 u17 u18 u18s u19 u19s u20 u20s u21 u21s u22 u22s
 have u23 := P.out.cell (i := 23) rfl
 have u24 := P.out.cell (i := 24) rfl
 have u24s := P.out.cell (i := 23 + 1) rfl
 have q0 := P.out.lt
 go_wp2_with fail
 refine (C6.out _ f7.out).mono ?_
 rintro e w6 ⟨rfl, k, nf7⟩
 replace f1 := hidP (f1.out.offp k (fun b hb hn => absurd (hb.2.symm.trans hn.2) (by decide)))
 replace f2 := hidP (f2.out.offp k (fun b hb hn => absurd (hb.2.symm.trans hn.2) (by decide)))
 replace f3 := hidP (f3.out.offp k (fun b hb hn => absurd (hb.2.symm.trans hn.2) (by decide)))
 replace f4 := hidP (f4.out.offp k (fun b hb hn => absurd (hb.2.symm.trans hn.2) (by decide)))
 replace f5 := hidP (f5.out.offp k (fun b hb hn => absurd (hb.2.symm.trans hn.2) (by decide)))
 replace f6 := hidP (f6.out.offp k (fun b hb hn => absurd (hb.2.symm.trans hn.2) (by decide)))
 replace f7 := hidP nf7
 replace f8 := hidP (f8.out.offp Qan k (fun b hb hn => absurd (hb.2.symm.trans hn.2) (by decide)))
 replace P := hidP (P.out.offp k (fun e => Nat.lt_irrefl _ (Hlt.out _ e.1)))
 replace O := hidP (O.out.trans (k.mono (fun b hb => hb.1)))
 clear k q0 nf7 u23 u24 u24s
 have u25 := P.out.cell (i := 25) rfl
 have q0 := P.out.lt
 go_wp2_with fail
 refine (C7.out _ f8.out).mono ?_
 rintro e w7 ⟨rfl, k, nf8⟩
 replace f1 := hidP (f1.out.offp k (fun b hb hn => absurd (hb.2.symm.trans hn.2) (by decide)))
 replace f2 := hidP (f2.out.offp k (fun b hb hn => absurd (hb.2.symm.trans hn.2) (by decide)))
 replace f3 := hidP (f3.out.offp k (fun b hb hn => absurd (hb.2.symm.trans hn.2) (by decide)))
 replace f4 := hidP (f4.out.offp k (fun b hb hn => absurd (hb.2.symm.trans hn.2) (by decide)))
 replace f5 := hidP (f5.out.offp k (fun b hb hn => absurd (hb.2.symm.trans hn.2) (by decide)))
 replace f6 := hidP (f6.out.offp k (fun b hb hn => absurd (hb.2.symm.trans hn.2) (by decide)))
 replace f7 := hidP (f7.out.offp k (fun b hb hn => absurd (hb.2.symm.trans hn.2) (by decide)))
 replace f8 := hidP nf8
 replace P := hidP (P.out.offp k (fun e => Nat.lt_irrefl _ (Hlt.out _ e.1)))
 replace O := hidP (O.out.trans (k.mono (fun b hb => hb.1)))
 clear k q0 nf8 u25
 go_wp2
 go_ret
 exact ⟨rfl, O.out, HE.out _ f1.out f2.out f3.out f4.out f5.out f6.out f7.out f8.out⟩
theorem Qg9 (su : Int) (a : Option Addr) (cap n : Nat) (k : Int) (hk : 1 <= k) (hk' : k <= 100000000) (hl : n <= 3000000) (w : World) (hs : n = 0 ∨ ∃ b o, a = some ⟨b, o, none⟩ /\ b < w.heap.size /\ In w b o (Qbl n k)) :
 Calls Tryz.prog 53 #[.agg #[.slice a n cap, .int .i64 su], .int .i64 k] w fun e w' => e = .returned (.int .i64 (k + (n : Int))) /\ Below w.heap.size w w' := by
 have HC : Hid (∀ ob : Obj, Calls Tryz.prog 99 #[.slice a n cap, .int .i64 k] (w.alloc ob) fun e w' => e = .returned (.int .i64 (k + (n : Int))) /\ Below (w.alloc ob).heap.size (w.alloc ob) w') := fun ob => heldB_any a cap n k hk hk' (by omega) _ (hs.imp id fun ⟨b, o, e, hb, hi⟩ => ⟨b, o, e, by simp; omega, hi.below hb (Qab (Below.refl _ _) ob)⟩)
 clear hs
 have hp : ¬ k + (n : Int) < 0 := by omega
 generalize hz : k + (n : Int) = z at HC hp ⊢
 clear hz
 go_enter Tryz.func53, Tryz.ntmps53
 go_wp2_with fail
 refine (HC.out _).mono ?_
 rintro e w1 ⟨rfl, g1⟩
 go_wp2
 go_ret
 exact ⟨rfl, via0 g1 (Qab (Below.refl _ _) _)⟩
theorem Qf9 (p : PC) (hf : PFit p) (S : Nat -> Prop) (w : World) (h : POwn w (mPe p) S) :
 Calls Tryz.prog 14 #[.agg #[.int .i64 p.id, .int .i64 p.te, .int .i64 p.vo, .int .i64 p.base, .int .i64 p.bt, .slice p.A p.l.length p.cap, .slice p.x.rA p.x.rs.length p.x.rc, .slice p.x.mA p.x.ms.length p.x.mc, .slice p.x.gA p.x.gs.length p.x.gc, .int .i64 p.x.time, .slice p.x.dA p.x.ds.length p.x.dc, .slice p.x.lA p.x.ls.length p.x.lc, .int .i64 p.role, .slice p.vA p.vs.length p.vc, .slice p.nA p.ns.length p.nc, .slice p.pA p.ps.length p.pc, .int .i64 p.com, .slice p.y.rA p.y.rs.length p.y.rc, .slice p.y.mA p.y.ms.length p.y.mc, .slice p.y.gA p.y.gs.length p.y.gc, .int .i64 p.y.time, .slice p.y.dA p.y.ds.length p.y.dc, .slice p.y.lA p.y.ls.length p.y.lc, .slice p.dA p.db.length p.dc, .int .i64 p.su, .slice p.hA p.hs.length p.hc], .int .i64 1] w fun e w' => e = .returned (.int .i64 (pz7 p)) /\ Below w.heap.size w w' := by
 have hat := h.at
 obtain ⟨col, h⟩ := h
 obtain ⟨y1, y2, y3, y4, y5, y6, y7, yc⟩ := pz_le hf
 have C1 : Hid (∀ W : World, Below w.heap.size w W -> Calls Tryz.prog 49 #[.agg #[.int .i64 p.te, .int .i64 p.vo, .int .i64 p.base, .int .i64 p.bt, .slice p.A p.l.length p.cap, .slice p.x.rA p.x.rs.length p.x.rc, .slice p.x.mA p.x.ms.length p.x.mc, .slice p.x.gA p.x.gs.length p.x.gc, .int .i64 p.x.time, .slice p.x.dA p.x.ds.length p.x.dc, .slice p.x.lA p.x.ls.length p.x.lc], .int .i64 1] W fun e w' => e = .returned (.int .i64 (pz1 p)) /\ Below W.heap.size W w') := fun W g => by
  obtain ⟨F, hs, hF⟩ := sub_sl (h.l.below g)
  exact Qga p.te p.vo p.base p.bt p.A p.cap p.l hf.ll p.x hf.xf F 1 (by omega) (by omega) W hs (hat.xa.below g)
 have C2 : Hid (∀ W : World, Below w.heap.size w W -> Calls Tryz.prog 50 #[.slice p.vA p.vs.length p.vc, .int .i64 (pz1 p)] W fun e w' => e = .returned (.int .i64 (pz2 p)) /\ Below W.heap.size W w') := fun W g => Qgb p.vA p.vc p.vs.length (pz1 p) y1.1 (by omega) (by have := hf.vl; omega) W (Qdo (h.v.below g) (Qbq _ _))
 have C3 : Hid (∀ W : World, Below w.heap.size w W -> Calls Tryz.prog 51 #[.slice p.nA p.ns.length p.nc, .int .i64 (pz2 p)] W fun e w' => e = .returned (.int .i64 (pz3 p)) /\ Below W.heap.size W w') := fun W g => Qb0 p.nA p.nc p.ns.length (pz2 p) y2.1 (by omega) (by have := hf.nl; omega) W (Qdo (h.n.below g) (Qax _ _))
 have C4 : Hid (∀ W : World, Below w.heap.size w W -> Calls Tryz.prog 51 #[.slice p.pA p.ps.length p.pc, .int .i64 (pz3 p)] W fun e w' => e = .returned (.int .i64 (pz4 p)) /\ Below W.heap.size W w') := fun W g => Qb0 p.pA p.pc p.ps.length (pz3 p) y3.1 (by omega) (by have := hf.pl; omega) W (Qdo (h.q.below g) (Qax _ _))
 have C5 : Hid (∀ W : World, Below w.heap.size w W -> Calls Tryz.prog 52 #[.agg #[.slice p.y.rA p.y.rs.length p.y.rc, .slice p.y.mA p.y.ms.length p.y.mc, .slice p.y.gA p.y.gs.length p.y.gc, .int .i64 p.y.time, .slice p.y.dA p.y.ds.length p.y.dc, .slice p.y.lA p.y.ls.length p.y.lc], .int .i64 (pz4 p)] W fun e w' => e = .returned (.int .i64 (pz5 p)) /\ Below W.heap.size W w') := fun W g => Qdj p.y hf.yf (pz4 p) y4.1 y4.2 W (hat.ya.below g)
 have C6 : Hid (∀ W : World, Below w.heap.size w W -> Calls Tryz.prog 53 #[.agg #[.slice p.dA p.db.length p.dc, .int .i64 p.su], .int .i64 (pz5 p)] W fun e w' => e = .returned (.int .i64 (pz6 p)) /\ Below W.heap.size W w') := fun W g => Qg9 p.su p.dA p.dc p.db.length (pz5 p) y5.1 (by omega) (by have := hf.dl; omega) W (Qdo (h.d.below g) (Qb5 _ _))
 have C7 : Hid (∀ W : World, Below w.heap.size w W -> Calls Tryz.prog 54 #[.slice p.hA p.hs.length p.hc, .int .i64 (pz6 p)] W fun e w' => e = .returned (.int .i64 (pz7 p)) /\ Below W.heap.size W w') := fun W g => Qf7 p.hA p.hc p.hs (pz6 p) y6.1 (by omega) (by omega) hf.hl hf.hi W (hat.ha.below g) (hat.he.below g)
 have P := hidP (Blk.new w 59 #[.int .i64 p.id, .int .i64 p.te, .int .i64 p.vo, .int .i64 p.base, .int .i64 p.bt, .slice p.A p.l.length p.cap, .slice p.x.rA p.x.rs.length p.x.rc, .slice p.x.mA p.x.ms.length p.x.mc, .slice p.x.gA p.x.gs.length p.x.gc, .int .i64 p.x.time, .slice p.x.dA p.x.ds.length p.x.dc, .slice p.x.lA p.x.ls.length p.x.lc, .int .i64 p.role, .slice p.vA p.vs.length p.vc, .slice p.nA p.ns.length p.nc, .slice p.pA p.ps.length p.pc, .int .i64 p.com, .slice p.y.rA p.y.rs.length p.y.rc, .slice p.y.mA p.y.ms.length p.y.mc, .slice p.y.gA p.y.gs.length p.y.gc, .int .i64 p.y.time, .slice p.y.dA p.y.ds.length p.y.dc, .slice p.y.lA p.y.ls.length p.y.lc, .slice p.dA p.db.length p.dc, .int .i64 p.su, .slice p.hA p.hs.length p.hc])
 have B := hidP (show Below w.heap.size w (w.alloc (.cells #[.int .i64 p.id, .int .i64 p.te, .int .i64 p.vo, .int .i64 p.base, .int .i64 p.bt, .slice p.A p.l.length p.cap, .slice p.x.rA p.x.rs.length p.x.rc, .slice p.x.mA p.x.ms.length p.x.mc, .slice p.x.gA p.x.gs.length p.x.gc, .int .i64 p.x.time, .slice p.x.dA p.x.ds.length p.x.dc, .slice p.x.lA p.x.ls.length p.x.lc, .int .i64 p.role, .slice p.vA p.vs.length p.vc, .slice p.nA p.ns.length p.nc, .slice p.pA p.ps.length p.pc, .int .i64 p.com, .slice p.y.rA p.y.rs.length p.y.rc, .slice p.y.mA p.y.ms.length p.y.mc, .slice p.y.gA p.y.gs.length p.y.gc, .int .i64 p.y.time, .slice p.y.dA p.y.ds.length p.y.dc, .slice p.y.lA p.y.ls.length p.y.lc, .slice p.dA p.db.length p.dc, .int .i64 p.su, .slice p.hA p.hs.length p.hc] 59)) from Qab (Below.refl _ _) _)
 have v1 : ¬ pz1 p < 0 := by omega
 have v2 : ¬ pz2 p < 0 := by omega
 have v3 : ¬ pz3 p < 0 := by omega
 have v4 : ¬ pz4 p < 0 := by omega
 have v5 : ¬ pz5 p < 0 := by omega
 have v6 : ¬ pz6 p < 0 := by omega
 have v7 : ¬ pz7 p < 0 := by omega
 generalize pz1 p = a1 at *
 generalize pz2 p = a2 at *
 generalize pz3 p = a3 at *
 generalize pz4 p = a4 at *
 generalize pz5 p = a5 at *
 generalize pz6 p = a6 at *
 generalize pz7 p = a7 at *
 clear h hat hf y1 y2 y3 y4 y5 y6 y7 yc
 go_enter Tryz.func14, Tryz.ntmps14
 have u1 := P.out.cell (i := 1) rfl
 have u2 := P.out.cell (i := 2) rfl
 have u2s := P.out.cell (i := 1 + 1) rfl
 have u3 := P.out.cell (i := 3) rfl
 have u3s := P.out.cell (i := 1 + 2) rfl
 have u4 := P.out.cell (i := 4) rfl
 have u4s := P.out.cell (i := 1 + 3) rfl
 have u5 := P.out.cell (i := 5) rfl
 have u5s := P.out.cell (i := 1 + 4) rfl
 have u6 := P.out.cell (i := 6) rfl
 have u6s := P.out.cell (i := 1 + 5) rfl
 have u7 := P.out.cell (i := 7) rfl
 have u7s := P.out.cell (i := 1 + 6) rfl
 have u8 := P.out.cell (i := 8) rfl
 have u8s := P.out.cell (i := 1 + 7) rfl
 have u9 := P.out.cell (i := 9) rfl
 have u9s := P.out.cell (i := 1 + 8) rfl
 have u10 := P.out.cell (i := 10) rfl
 have u10s := P.out.cell (i := 1 + 9) rfl
 have u11 := P.out.cell (i := 11) rfl
 have u11s := P.out.cell (i := 1 + 10) rfl
 have q0 := P.out.lt
 go_wp2_with fail
 refine (C1.out _ B.out).mono ?_
 rintro e w1 ⟨rfl, g⟩
 replace P := hidP (P.out.below g P.out.lt)
 replace B := hidP (via0 g B.out)
 clear g q0 u1 u2 u2s u3 u3s u4 u4s u5 u5s u6 u6s u7 u7s u8 u8s u9 u9s u10 u10s u11 u11s
 have u13 := P.out.cell (i := 13) rfl
 have q0 := P.out.lt
 go_wp2_with fail
 refine (C2.out _ B.out).mono ?_
 rintro e w2 ⟨rfl, g⟩
 replace P := hidP (P.out.below g P.out.lt)
 replace B := hidP (via0 g B.out)
 clear g q0 u13
 have u14 := P.out.cell (i := 14) rfl
 have q0 := P.out.lt
 go_wp2_with fail
 refine (C3.out _ B.out).mono ?_
 rintro e w3 ⟨rfl, g⟩
 replace P := hidP (P.out.below g P.out.lt)
 replace B := hidP (via0 g B.out)
 clear g q0 u14
 have u15 := P.out.cell (i := 15) rfl
 have q0 := P.out.lt
 go_wp2_with fail
 refine (C4.out _ B.out).mono ?_
 rintro e w4 ⟨rfl, g⟩
 replace P := hidP (P.out.below g P.out.lt)
 replace B := hidP (via0 g B.out)
 clear g q0 u15
 have u17 := P.out.cell (i := 17) rfl
 have u18 := P.out.cell (i := 18) rfl
 have u18s := P.out.cell (i := 17 + 1) rfl
 have u19 := P.out.cell (i := 19) rfl
 have u19s := P.out.cell (i := 17 + 2) rfl
 have u20 := P.out.cell (i := 20) rfl
 have u20s := P.out.cell (i := 17 + 3) rfl
 have u21 := P.out.cell (i := 21) rfl
 have u21s := P.out.cell (i := 17 + 4) rfl
 have u22 := P.out.cell (i := 22) rfl
 have u22s := P.out.cell (i := 17 + 5) rfl
 have q0 := P.out.lt
 go_wp2_with fail
 refine (C5.out _ B.out).mono ?_
 rintro e w5 ⟨rfl, g⟩
 replace P := hidP (P.out.below g P.out.lt)
 replace B := hidP (via0 g B.out)
 clear g q0 u17 u18 u18s u19 u19s u20 u20s u21 u21s u22 u22s
 have u23 := P.out.cell (i := 23) rfl
 have u24 := P.out.cell (i := 24) rfl
 have u24s := P.out.cell (i := 23 + 1) rfl
 have q0 := P.out.lt
 go_wp2_with fail
 refine (C6.out _ B.out).mono ?_
 rintro e w6 ⟨rfl, g⟩
 replace P := hidP (P.out.below g P.out.lt)
 replace B := hidP (via0 g B.out)
 clear g q0 u23 u24 u24s
 have u25 := P.out.cell (i := 25) rfl
 have q0 := P.out.lt
 go_wp2_with fail
 refine (C7.out _ B.out).mono ?_
 rintro e w7 ⟨rfl, g⟩
 replace P := hidP (P.out.below g P.out.lt)
 replace B := hidP (via0 g B.out)
 clear g q0 u25
 go_wp2
 go_ret
 exact ⟨rfl, B.out⟩
end Go.Proofs.YtmdaammalacifaaGreat.Gen
