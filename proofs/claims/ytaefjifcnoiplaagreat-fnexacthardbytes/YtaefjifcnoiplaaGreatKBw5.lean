/-
  KeepBytes, the program's. Condition: what a right keeper's numbers are (KcR), and at most 400000000 bytes.
-/
import Derived.Test.YtaefjifcnoiplaaGreatKBw4
import Derived.Test.YtaefjifcnoiplaaGreatKOk
namespace Go.Proofs.YtaefjifcnoiplaaGreat.Gen
open Go.ChangeShapes Go.WideShapes Go.ChangeAt Go.RowKit Go.Joins Go.Deep Base
set_option linter.unusedVariables false
set_option linter.unusedSimpArgs false
def kO (ro wi le ke : Int) (x : KC) : List UInt8 := if keepB ro wi le ke x = true then kB x else []
theorem pt_of {α : Type} [Cel α] {P : Nat -> Prop} {w W : World} {A : Option Addr} {L : List α} (h : At w A L) (g : Below w.heap.size w W) (hP : ∀ k, k < w.heap.size -> P k) : Pt P W A L :=
  ⟨h.below g, h.imp id fun ⟨b, o, e, hb, _⟩ k o' e' => by rw [e] at e'; cases e'; exact hP _ hb⟩
theorem kp_of {P : Nat -> Prop} {w W : World} {x : KC} (h : KAt w x) (g : Below w.heap.size w W) (hP : ∀ k, k < w.heap.size -> P k) : Kp P W x :=
  ⟨pt_of h.ra g hP, fun y hy => pt_of (h.re y hy) g hP, pt_of h.ma g hP, fun y hy => pt_of (h.me y hy) g hP, pt_of h.ga g hP,
    fun y hy => ⟨pt_of (h.ge y hy).1 g hP, pt_of (h.ge y hy).2.1 g hP, pt_of (h.ge y hy).2.2 g hP⟩, pt_of h.da g hP, pt_of h.la g hP⟩
theorem keep_any (P : Nat -> Prop) (z : Nat) (x : KC) (hR : KcR x) (hl : (kB x).length <= 400000000) (w : World) (hN : Kp P w x) (hW : Wr P z w []) :
    Calls Tryz.prog 111 #[.pointer (some ⟨z, 0, none⟩), .agg #[.slice x.rA x.rs.length x.rc, .slice x.mA x.ms.length x.mc, .slice x.gA x.gs.length x.gc, .int .i64 x.time, .slice x.dA x.ds.length x.dc, .slice x.lA x.ls.length x.lc]] w fun e w' => e = .returned (.tuple #[]) /\ Turn P w w' /\ Wr P z w' (kB x) := by
  have h := keep_core P z x.rA x.rc x.rs x.mA x.mc x.ms x.gA x.gc x.gs x.time x.dA x.dc x.ds x.lA x.lc x.ls hR [] (by simp only [kB, List.length_append] at hl; simp only [List.length_nil]; omega) w hN hW
  simpa only [List.nil_append, kB] using h
set_option maxRecDepth 100000 in
set_option maxHeartbeats 1000000 in
theorem keep1_any (z : Nat) (P : Nat -> Prop) (y : Nat) (x : KC) (hR : KcR x) (hl : (kB x).length <= 400000000) (W : World) (hz : Blk W z 49 #[.slice x.rA x.rs.length x.rc, .slice x.mA x.ms.length x.mc, .slice x.gA x.gs.length x.gc, .int .i64 x.time, .slice x.dA x.ds.length x.dc, .slice x.lA x.ls.length x.lc]) (hN : Kp P W x) (h : Wr P y W []) : Writes 110 #[.pointer (some ⟨z, 0, none⟩)] (some (kB x)) P y W := by
  unfold Writes
  have HN := hidP hN
  have HW := hidP h
  have HR := hidP hR
  have Hl := hidP hl
  show Calls Tryz.prog 110 #[.pointer (some ⟨y, 0, none⟩), .pointer (some ⟨z, 0, none⟩)] W _
  have c0 := hz.cell (i := 0) rfl; have c1 := hz.cell (i := 1) rfl; have c2 := hz.cell (i := 2) rfl; have c3 := hz.cell (i := 3) rfl
  have c4 := hz.cell (i := 4) rfl; have c5 := hz.cell (i := 5) rfl
  clear h hz hN hR hl
  go_enter Tryz.func110, Tryz.ntmps110
  go_wp2_with fail
  refine (keep_any P y x HR.out Hl.out _ HN.out HW.out).mono ?_
  rintro e w' ⟨rfl, t1, h1⟩
  go_wp2
  go_end0
  exact ⟨t1, rfl, h1⟩
set_option maxRecDepth 100000 in
set_option maxHeartbeats 1000000 in
theorem implKeepBytes_any (ro wi le ke : Int) (x : KC) (ha : KAsk x) (hkr : keepB ro wi le ke x = true -> KcR x /\ (kB x).length <= 400000000) (w : World) (hx : KAt w x) :
    Calls Tryz.prog 51 #[.agg #[.int .i64 ro, .int .i64 wi, .int .i64 le, .int .i64 ke], .agg #[.slice x.rA x.rs.length x.rc, .slice x.mA x.ms.length x.mc, .slice x.gA x.gs.length x.gc, .int .i64 x.time, .slice x.dA x.ds.length x.dc, .slice x.lA x.ls.length x.lc]] w fun e w' => ∃ a' c', e = .returned (.slice a' (kO ro wi le ke x).length c') /\ Below w.heap.size w w' /\ w'.ownsRow w.heap.size 5 1 (.slice a' (kO ro wi le ke x).length c') (kO ro wi le ke x).length (flat (kO ro wi le ke x)) := by
  have hmf : ∀ (fn : Fn) (first cap : Array Value) (w : World), (Instr.makeFunc fn first cap).run Tryz.prog w = .ok (.func fn first cap) w := fun _ _ _ _ => rfl
  have al := alloc0 (alloc0 (Below.refl _ w) (.cells #[.int .i64 ro, .int .i64 wi, .int .i64 le, .int .i64 ke] 39)) (.cells #[.slice x.rA x.rs.length x.rc, .slice x.mA x.ms.length x.mc, .slice x.gA x.gs.length x.gc, .int .i64 x.time, .slice x.dA x.ds.length x.dc, .slice x.lA x.ls.length x.lc] 49)
  have p := Blk.new (w.alloc (.cells #[.int .i64 ro, .int .i64 wi, .int .i64 le, .int .i64 ke] 39)) 49 #[.slice x.rA x.rs.length x.rc, .slice x.mA x.ms.length x.mc, .slice x.gA x.gs.length x.gc, .int .i64 x.time, .slice x.dA x.ds.length x.dc, .slice x.lA x.ls.length x.lc]
  rw [World.size_alloc] at p
  have Hp := hidP p
  have Hx := hidP (hx.below al)
  have Ha := hidP ha
  have Hk := hidP hkr
  have Hal := hidP al
  clear p hx ha hkr al
  go_enter Tryz.func51, Tryz.ntmps51
  go_wp2_with fail
  refine (implKeepOk_any ro wi le ke x Ha.out _ Hx.out).mono ?_
  rintro e w1 ⟨rfl, g1⟩
  have p1 := Hp.out.below g1 Hp.out.lt
  have x1 := Hx.out.below g1
  have B1 := via0 g1 Hal.out
  have q1 := p1.lt
  cases hok : keepB ro wi le ke x with
  | false =>
    have hO : Hid (kO ro wi le ke x = []) := by show _ = _; unfold kO; rw [hok]; rfl
    clear g1 p1 x1
    go_wp2
    go_ret
    rw [hO.out]
    exact ⟨none, 0, rfl, B1, World.ownsRow_nil _ _ _ _⟩
  | true =>
    have hO : Hid (kO ro wi le ke x = kB x) := by show _ = _; unfold kO; rw [hok]; rfl
    obtain ⟨hR, hl⟩ := Hk.out hok
    have hwr := hidP (written_any 110 #[.pointer (some ⟨w.heap.size + 1, 0, none⟩)] (some (kB x)) w1 (fun p W => by simp [go_sem])
      (fun W hb P y hP h => keep1_any (w.heap.size + 1) P y x hR hl W (p1.below hb p1.lt) (kp_of x1 hb hP) h))
    clear g1 p1 x1 hR hl
    go_wp2_with fail
    refine hwr.out.mono ?_
    rintro e w' ⟨a', c', rfl, hb, ho⟩
    have hb' := via0 hb B1
    go_wp2
    go_ret
    rw [hO.out]
    exact ⟨a', c', rfl, hb', owns_mono ho B1.size⟩
end Go.Proofs.YtaefjifcnoiplaaGreat.Gen
