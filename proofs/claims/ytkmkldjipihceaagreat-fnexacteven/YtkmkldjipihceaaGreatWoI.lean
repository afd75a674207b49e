/-
  The program's WorldOk. No condition but the sizes that every text and number has.
-/
import Derived.Test.YtkmkldjipihceaaGreatWoI1
set_option linter.unusedVariables false
set_option linter.unusedSimpArgs false
set_option maxRecDepth 100000
set_option maxHeartbeats 8000000
set_option maxRecDepth 100000
set_option maxHeartbeats 8000000
namespace Go.Proofs.YtkmkldjipihceaaGreat.Gen
open ChangeShapes WideShapes ChangeAt RowKit Joins Deep Base
theorem Qej (p : WC) (h : WAsk p) (w : World) (hp : WAt w p) :
 Calls Tryz.prog 24 #[.agg (Qal p)] w fun e w' => e = .returned (.bool (Qas p)) /\ Below w.heap.size w w' := by
 have E1 : Hid (∀ W : World, Calls Tryz.prog 48 #[.agg (Qag p.ro p.wi p.le p.ke)] W fun e w' => e = .returned (.bool (setB p.ro p.wi p.le p.ke)) /\ Below W.heap.size W w') := fun W => Qdj _ _ _ _ W
 have E2 : Hid (∀ W : World, Calls Tryz.prog 49 #[.int .i64 p.size] W fun e w' => e = .returned (.bool (inB p.size 1 5)) /\ w' = W) := fun W => Qdt _ W
 have E3 : Hid (∀ W : World, Below w.heap.size w W -> Calls Tryz.prog 50 #[.agg (Qal p)] W fun e w' => e = .returned (.bool (Qcj p)) /\ Below W.heap.size W w') := fun W g => Qes p h W (hp.below g)
 have E5 : Hid (∀ W : World, Below w.heap.size w W -> Blk W w.heap.size 39 (Qal p) -> Calls Tryz.prog 51 #[.slice p.mA p.ms.length p.mc, .func (.func 52) #[] #[.pointer (some ⟨w.heap.size, 0, none⟩)]] W fun e w' => e = .returned (.bool (p.ms.all (rpB p.size))) /\ Below W.heap.size W w') := fun W g q => Qif p.mA p.mc p.ms h.f.ml p.size h.m h.f.mi W (hp.me.below g) w.heap.size q.lt (q.cell rfl) (hp.ma.below g)
 have E6 : Hid (∀ W : World, Below w.heap.size w W -> Calls Tryz.prog 54 #[.agg (Qal p)] W fun e w' => e = .returned (.bool (Qcw p)) /\ Below W.heap.size W w') := fun W g => Qfx p h W (hp.below g)
 have E8 : Hid (∀ W : World, Below w.heap.size w W -> Calls Tryz.prog 55 #[.slice p.fA p.fs.length p.fc, .func (.func 56) #[] #[]] W fun e w' => e = .returned (.bool (p.fs.all idxB)) /\ Below W.heap.size W w') := fun W g => Qdn p.fA p.fc p.fs h.f.fl W (hp.fa.below g)
 have E10 : Hid (∀ W : World, Below w.heap.size w W -> Calls Tryz.prog 57 #[.slice p.hA p.hs.length p.hc, .func (.func 58) #[] #[]] W fun e w' => e = .returned (.bool (p.hs.all Qbp)) /\ Below W.heap.size W w') := fun W g => Qf9 p.hA p.hc p.hs h.f.hl h.h W (hp.ha.below g)
 have E12 : Hid (∀ W : World, Below w.heap.size w W -> Calls Tryz.prog 59 #[.slice p.dA p.ds.length p.dc, .func (.func 60) #[] #[]] W fun e w' => e = .returned (.bool (p.ds.all okCo)) /\ Below W.heap.size W w') := fun W g => Qik p.dA p.dc p.ds h.f.dl h.d W (hp.da.below g)
 have HF : Hid (Qas p = _) := hidP (show Qas p = (setB p.ro p.wi p.le p.ke && inB p.size 1 5 && Qcj p && decide ((p.ms.length : Int) <= 40) && p.ms.all (rpB p.size) && Qcw p && decide ((p.fs.length : Int) = 4) && p.fs.all idxB && decide ((p.hs.length : Int) <= 300) && p.hs.all Qbp && decide ((p.ds.length : Int) <= 300) && p.ds.all okCo) from rfl)
 have hmf : ∀ (fn : Fn) (first cap : Array Value) (w : World), (Instr.makeFunc fn first cap).run Tryz.prog w = .ok (.func fn first cap) w := fun _ _ _ _ => rfl
 clear hp h
 generalize setB p.ro p.wi p.le p.ke = b1 at E1 HF
 generalize inB p.size 1 5 = b2 at E2 HF
 generalize Qcj p = b3 at E3 HF
 generalize p.ms.all (rpB p.size) = b5 at E5 HF
 generalize Qcw p = b6 at E6 HF
 generalize p.fs.all idxB = b8 at E8 HF
 generalize p.hs.all Qbp = b10 at E10 HF
 generalize p.ds.all okCo = b12 at E12 HF
 have P0 := hidP (Blk.new w 39 (Qal p))
 have B0 := hidP (show Below w.heap.size w (w.alloc (.cells (Qal p) 39)) from Qab (Below.refl _ _) _)
 have x0 := P0.out.cell (i := 0) (v := .int .i64 p.ro) rfl
 have x1 := P0.out.cell (i := 1) (v := .int .i64 p.wi) rfl
 have x2 := P0.out.cell (i := 2) (v := .int .i64 p.le) rfl
 have x3 := P0.out.cell (i := 3) (v := .int .i64 p.ke) rfl
 have x4 := P0.out.cell (i := 4) (v := .int .i64 p.size) rfl
 have x5 := P0.out.cell (i := 5) (v := .slice p.nA p.ns.length p.nc) rfl
 have x6 := P0.out.cell (i := 6) (v := .slice p.mA p.ms.length p.mc) rfl
 have x7 := P0.out.cell (i := 7) (v := .slice p.sA p.ss.length p.sc) rfl
 have x8 := P0.out.cell (i := 8) (v := .slice p.fA p.fs.length p.fc) rfl
 have x9 := P0.out.cell (i := 9) (v := .slice p.hA p.hs.length p.hc) rfl
 have x10 := P0.out.cell (i := 10) (v := .slice p.dA p.ds.length p.dc) rfl
 have q0 := P0.out.lt
 go_enter Tryz.func24, Tryz.ntmps24
 go_wp2_with fail
 refine (E1.out _).mono ?_
 rintro e w1 ⟨rfl, g⟩
 replace B0 := hidP (via0 g B0.out)
 replace P0 := hidP (P0.out.below g P0.out.lt)
 clear g q0 x0 x1 x2 x3 x4 x5 x6 x7 x8 x9 x10
 have x0 := P0.out.cell (i := 0) (v := .int .i64 p.ro) rfl
 have x1 := P0.out.cell (i := 1) (v := .int .i64 p.wi) rfl
 have x2 := P0.out.cell (i := 2) (v := .int .i64 p.le) rfl
 have x3 := P0.out.cell (i := 3) (v := .int .i64 p.ke) rfl
 have x4 := P0.out.cell (i := 4) (v := .int .i64 p.size) rfl
 have x5 := P0.out.cell (i := 5) (v := .slice p.nA p.ns.length p.nc) rfl
 have x6 := P0.out.cell (i := 6) (v := .slice p.mA p.ms.length p.mc) rfl
 have x7 := P0.out.cell (i := 7) (v := .slice p.sA p.ss.length p.sc) rfl
 have x8 := P0.out.cell (i := 8) (v := .slice p.fA p.fs.length p.fc) rfl
 have x9 := P0.out.cell (i := 9) (v := .slice p.hA p.hs.length p.hc) rfl
 have x10 := P0.out.cell (i := 10) (v := .slice p.dA p.ds.length p.dc) rfl
 have q0 := P0.out.lt
 cases b1
 . have hf : Hid (Qas p = false) := by show _ = _; rw [HF.out]; simp
   go_wp2
   go_ret
   exact ⟨by rw [hf.out]; rfl, B0.out⟩
 go_wp2_with fail
 refine (E2.out _).mono ?_
 rintro e w2 ⟨rfl, hw⟩
 subst w2
 cases b2
 . have hf : Hid (Qas p = false) := by show _ = _; rw [HF.out]; simp
   go_wp2
   go_ret
   exact ⟨by rw [hf.out]; rfl, B0.out⟩
 go_wp2_with fail
 refine (E3.out _ B0.out).mono ?_
 rintro e w3 ⟨rfl, g⟩
 replace B0 := hidP (via0 g B0.out)
 replace P0 := hidP (P0.out.below g P0.out.lt)
 clear g q0 x0 x1 x2 x3 x4 x5 x6 x7 x8 x9 x10
 have x0 := P0.out.cell (i := 0) (v := .int .i64 p.ro) rfl
 have x1 := P0.out.cell (i := 1) (v := .int .i64 p.wi) rfl
 have x2 := P0.out.cell (i := 2) (v := .int .i64 p.le) rfl
 have x3 := P0.out.cell (i := 3) (v := .int .i64 p.ke) rfl
 have x4 := P0.out.cell (i := 4) (v := .int .i64 p.size) rfl
 have x5 := P0.out.cell (i := 5) (v := .slice p.nA p.ns.length p.nc) rfl
 have x6 := P0.out.cell (i := 6) (v := .slice p.mA p.ms.length p.mc) rfl
 have x7 := P0.out.cell (i := 7) (v := .slice p.sA p.ss.length p.sc) rfl
 have x8 := P0.out.cell (i := 8) (v := .slice p.fA p.fs.length p.fc) rfl
 have x9 := P0.out.cell (i := 9) (v := .slice p.hA p.hs.length p.hc) rfl
 have x10 := P0.out.cell (i := 10) (v := .slice p.dA p.ds.length p.dc) rfl
 have q0 := P0.out.lt
 cases b3
 . have hf : Hid (Qas p = false) := by show _ = _; rw [HF.out]; simp
   go_wp2
   go_ret
   exact ⟨by rw [hf.out]; rfl, B0.out⟩
 by_cases h4 : (p.ms.length : Int) <= 40
 case neg =>
  have hf : Hid (Qas p = false) := by show _ = _; rw [HF.out, decide_eq_false h4]; simp
  go_wp2
  go_ret
  exact ⟨by rw [hf.out]; rfl, B0.out⟩
 replace HF := hidP (HF.out.trans (by rw [decide_eq_true h4]))
 go_wp2_with fail
 refine (E5.out _ B0.out P0.out).mono ?_
 rintro e w5 ⟨rfl, g⟩
 replace B0 := hidP (via0 g B0.out)
 replace P0 := hidP (P0.out.below g P0.out.lt)
 clear g q0 x0 x1 x2 x3 x4 x5 x6 x7 x8 x9 x10
 have x0 := P0.out.cell (i := 0) (v := .int .i64 p.ro) rfl
 have x1 := P0.out.cell (i := 1) (v := .int .i64 p.wi) rfl
 have x2 := P0.out.cell (i := 2) (v := .int .i64 p.le) rfl
 have x3 := P0.out.cell (i := 3) (v := .int .i64 p.ke) rfl
 have x4 := P0.out.cell (i := 4) (v := .int .i64 p.size) rfl
 have x5 := P0.out.cell (i := 5) (v := .slice p.nA p.ns.length p.nc) rfl
 have x6 := P0.out.cell (i := 6) (v := .slice p.mA p.ms.length p.mc) rfl
 have x7 := P0.out.cell (i := 7) (v := .slice p.sA p.ss.length p.sc) rfl
 have x8 := P0.out.cell (i := 8) (v := .slice p.fA p.fs.length p.fc) rfl
 have x9 := P0.out.cell (i := 9) (v := .slice p.hA p.hs.length p.hc) rfl
 have x10 := P0.out.cell (i := 10) (v := .slice p.dA p.ds.length p.dc) rfl
 have q0 := P0.out.lt
 cases b5
 . have hf : Hid (Qas p = false) := by show _ = _; rw [HF.out]; simp
   go_wp2
   go_ret
   exact ⟨by rw [hf.out]; rfl, B0.out⟩
 go_wp2_with fail
 refine (E6.out _ B0.out).mono ?_
 rintro e w6 ⟨rfl, g⟩
 replace B0 := hidP (via0 g B0.out)
 replace P0 := hidP (P0.out.below g P0.out.lt)
 clear g q0 x0 x1 x2 x3 x4 x5 x6 x7 x8 x9 x10
 have x0 := P0.out.cell (i := 0) (v := .int .i64 p.ro) rfl
 have x1 := P0.out.cell (i := 1) (v := .int .i64 p.wi) rfl
 have x2 := P0.out.cell (i := 2) (v := .int .i64 p.le) rfl
 have x3 := P0.out.cell (i := 3) (v := .int .i64 p.ke) rfl
 have x4 := P0.out.cell (i := 4) (v := .int .i64 p.size) rfl
 have x5 := P0.out.cell (i := 5) (v := .slice p.nA p.ns.length p.nc) rfl
 have x6 := P0.out.cell (i := 6) (v := .slice p.mA p.ms.length p.mc) rfl
 have x7 := P0.out.cell (i := 7) (v := .slice p.sA p.ss.length p.sc) rfl
 have x8 := P0.out.cell (i := 8) (v := .slice p.fA p.fs.length p.fc) rfl
 have x9 := P0.out.cell (i := 9) (v := .slice p.hA p.hs.length p.hc) rfl
 have x10 := P0.out.cell (i := 10) (v := .slice p.dA p.ds.length p.dc) rfl
 have q0 := P0.out.lt
 cases b6
 . have hf : Hid (Qas p = false) := by show _ = _; rw [HF.out]; simp
   go_wp2
   go_ret
   exact ⟨by rw [hf.out]; rfl, B0.out⟩
 by_cases h7 : (p.fs.length : Int) = 4
 case neg =>
  have hf : Hid (Qas p = false) := by show _ = _; rw [HF.out, decide_eq_false h7]; simp
  go_wp2
  go_ret
  exact ⟨by rw [hf.out]; rfl, B0.out⟩
 replace HF := hidP (HF.out.trans (by rw [decide_eq_true h7]))
 go_wp2_with fail
 refine (E8.out _ B0.out).mono ?_
 rintro e w8 ⟨rfl, g⟩
 replace B0 := hidP (via0 g B0.out)
 replace P0 := hidP (P0.out.below g P0.out.lt)
 clear g q0 x0 x1 x2 x3 x4 x5 x6 x7 x8 x9 x10
 have x0 := P0.out.cell (i := 0) (v := .int .i64 p.ro) rfl
 have x1 := P0.out.cell (i := 1) (v := .int .i64 p.wi) rfl
 have x2 := P0.out.cell (i := 2) (v := .int .i64 p.le) rfl
 have x3 := P0.out.cell (i := 3) (v := .int .i64 p.ke) rfl
 have x4 := P0.out.cell (i := 4) (v := .int .i64 p.size) rfl
 have x5 := P0.out.cell (i := 5) (v := .slice p.nA p.ns.length p.nc) rfl
 have x6 := P0.out.cell (i := 6) (v := .slice p.mA p.ms.length p.mc) rfl
 have x7 := P0.out.cell (i := 7) (v := .slice p.sA p.ss.length p.sc) rfl
 have x8 := P0.out.cell (i := 8) (v := .slice p.fA p.fs.length p.fc) rfl
 have x9 := P0.out.cell (i := 9) (v := .slice p.hA p.hs.length p.hc) rfl
 have x10 := P0.out.cell (i := 10) (v := .slice p.dA p.ds.length p.dc) rfl
 have q0 := P0.out.lt
 cases b8
 . have hf : Hid (Qas p = false) := by show _ = _; rw [HF.out]; simp
   go_wp2
   go_ret
   exact ⟨by rw [hf.out]; rfl, B0.out⟩
 by_cases h9 : (p.hs.length : Int) <= 300
 case neg =>
  have hf : Hid (Qas p = false) := by show _ = _; rw [HF.out, decide_eq_false h9]; simp
  go_wp2
  go_ret
  exact ⟨by rw [hf.out]; rfl, B0.out⟩
 replace HF := hidP (HF.out.trans (by rw [decide_eq_true h9]))
 go_wp2_with fail
 refine (E10.out _ B0.out).mono ?_
 rintro e w10 ⟨rfl, g⟩
 replace B0 := hidP (via0 g B0.out)
 replace P0 := hidP (P0.out.below g P0.out.lt)
 clear g q0 x0 x1 x2 x3 x4 x5 x6 x7 x8 x9 x10
 have x0 := P0.out.cell (i := 0) (v := .int .i64 p.ro) rfl
 have x1 := P0.out.cell (i := 1) (v := .int .i64 p.wi) rfl
 have x2 := P0.out.cell (i := 2) (v := .int .i64 p.le) rfl
 have x3 := P0.out.cell (i := 3) (v := .int .i64 p.ke) rfl
 have x4 := P0.out.cell (i := 4) (v := .int .i64 p.size) rfl
 have x5 := P0.out.cell (i := 5) (v := .slice p.nA p.ns.length p.nc) rfl
 have x6 := P0.out.cell (i := 6) (v := .slice p.mA p.ms.length p.mc) rfl
 have x7 := P0.out.cell (i := 7) (v := .slice p.sA p.ss.length p.sc) rfl
 have x8 := P0.out.cell (i := 8) (v := .slice p.fA p.fs.length p.fc) rfl
 have x9 := P0.out.cell (i := 9) (v := .slice p.hA p.hs.length p.hc) rfl
 have x10 := P0.out.cell (i := 10) (v := .slice p.dA p.ds.length p.dc) rfl
 have q0 := P0.out.lt
 cases b10
 . have hf : Hid (Qas p = false) := by show _ = _; rw [HF.out]; simp
   go_wp2
   go_ret
   exact ⟨by rw [hf.out]; rfl, B0.out⟩
 by_cases h11 : (p.ds.length : Int) <= 300
 case neg =>
  have hf : Hid (Qas p = false) := by show _ = _; rw [HF.out, decide_eq_false h11]; simp
  go_wp2
  go_ret
  exact ⟨by rw [hf.out]; rfl, B0.out⟩
 replace HF := hidP (HF.out.trans (by rw [decide_eq_true h11]))
 go_wp2_with fail
 refine (E12.out _ B0.out).mono ?_
 rintro e w12 ⟨rfl, g⟩
 replace B0 := hidP (via0 g B0.out)
 replace P0 := hidP (P0.out.below g P0.out.lt)
 clear g q0 x0 x1 x2 x3 x4 x5 x6 x7 x8 x9 x10
 have x0 := P0.out.cell (i := 0) (v := .int .i64 p.ro) rfl
 have x1 := P0.out.cell (i := 1) (v := .int .i64 p.wi) rfl
 have x2 := P0.out.cell (i := 2) (v := .int .i64 p.le) rfl
 have x3 := P0.out.cell (i := 3) (v := .int .i64 p.ke) rfl
 have x4 := P0.out.cell (i := 4) (v := .int .i64 p.size) rfl
 have x5 := P0.out.cell (i := 5) (v := .slice p.nA p.ns.length p.nc) rfl
 have x6 := P0.out.cell (i := 6) (v := .slice p.mA p.ms.length p.mc) rfl
 have x7 := P0.out.cell (i := 7) (v := .slice p.sA p.ss.length p.sc) rfl
 have x8 := P0.out.cell (i := 8) (v := .slice p.fA p.fs.length p.fc) rfl
 have x9 := P0.out.cell (i := 9) (v := .slice p.hA p.hs.length p.hc) rfl
 have x10 := P0.out.cell (i := 10) (v := .slice p.dA p.ds.length p.dc) rfl
 have q0 := P0.out.lt
 have hf := hidP (show Qas p = b12 by rw [HF.out]; simp)
 go_wp2
 go_ret
 exact ⟨by rw [hf.out]; rfl, B0.out⟩
end Go.Proofs.YtkmkldjipihceaaGreat.Gen
