/-
  The program's WorldOk. No condition but the sizes that every text and number has.
-/
import Derived.Test.YtkmkldjipihceaaGreatWoI1
set_option linter.unusedVariables false
set_option linter.unusedSimpArgs false
set_option maxRecDepth 100000
set_option maxHeartbeats 8000000
set_option maxRecDepth 100000
set_option maxHeartbeats 8000000
namespace Go.Proofs.YtkmkldjipihceaaGreat.Gen
open ChangeShapes WideShapes ChangeAt RowKit Joins Deep Base
theorem Qek (p : WC) (h : WAsk p) (w : World) (hp : WAt w p) :
 Calls Tryz.prog 24 #[.agg (Qam p)] w fun e w' => e = .returned (.bool (Qat p)) /\ Below w.heap.size w w' := by
 have E1 : Hid (∀ W : World, Calls Tryz.prog 48 #[.agg (Qag p.ro p.wi p.le p.ke)] W fun e w' => e = .returned (.bool (setB p.ro p.wi p.le p.ke)) /\ Below W.heap.size W w') := fun W => Qdh _ _ _ _ W
 have E2 : Hid (∀ W : World, Calls Tryz.prog 49 #[.int .i64 p.size] W fun e w' => e = .returned (.bool (inB p.size 1 5)) /\ w' = W) := fun W => Qdq _ W
 have E3 : Hid (∀ W : World, Below w.heap.size w W -> Calls Tryz.prog 50 #[.agg (Qam p)] W fun e w' => e = .returned (.bool (Qco p)) /\ Below W.heap.size W w') := fun W g => Qet p h W (hp.below g)
 have E5 : Hid (∀ W : World, Below w.heap.size w W -> Blk W w.heap.size 39 (Qam p) -> Calls Tryz.prog 51 #[.slice p.mA p.ms.length p.mc, .func (.func 52) #[] #[.pointer (some ⟨w.heap.size, 0, none⟩)]] W fun e w' => e = .returned (.bool (p.ms.all (rpB p.size))) /\ Below W.heap.size W w') := fun W g q => Qid p.mA p.mc p.ms h.f.ml p.size h.m h.f.mi W (hp.me.below g) w.heap.size q.lt (q.cell rfl) (hp.ma.below g)
 have E6 : Hid (∀ W : World, Below w.heap.size w W -> Calls Tryz.prog 54 #[.agg (Qam p)] W fun e w' => e = .returned (.bool (Qcr p)) /\ Below W.heap.size W w') := fun W g => Qfw p h W (hp.below g)
 have E8 : Hid (∀ W : World, Below w.heap.size w W -> Calls Tryz.prog 55 #[.slice p.fA p.fs.length p.fc, .func (.func 56) #[] #[]] W fun e w' => e = .returned (.bool (p.fs.all idxB)) /\ Below W.heap.size W w') := fun W g => Qdl p.fA p.fc p.fs h.f.fl W (hp.fa.below g)
 have E10 : Hid (∀ W : World, Below w.heap.size w W -> Calls Tryz.prog 57 #[.slice p.hA p.hs.length p.hc, .func (.func 58) #[] #[]] W fun e w' => e = .returned (.bool (p.hs.all Qbq)) /\ Below W.heap.size W w') := fun W g => Qf8 p.hA p.hc p.hs h.f.hl h.h W (hp.ha.below g)
 have E12 : Hid (∀ W : World, Below w.heap.size w W -> Calls Tryz.prog 59 #[.slice p.dA p.ds.length p.dc, .func (.func 60) #[] #[]] W fun e w' => e = .returned (.bool (p.ds.all okCo)) /\ Below W.heap.size W w') := fun W g => Qig p.dA p.dc p.ds h.f.dl h.d W (hp.da.below g)
 have HF : Hid (Qat p = _) := hidP (show Qat p = (setB p.ro p.wi p.le p.ke && inB p.size 1 5 && Qco p && decide ((p.ms.length : Int) <= 40) && p.ms.all (rpB p.size) && Qcr p && decide ((p.fs.length : Int) = 4) && p.fs.all idxB && decide ((p.hs.length : Int) <= 300) && p.hs.all Qbq && decide ((p.ds.length : Int) <= 300) && p.ds.all okCo) from rfl)
 have hmf : ∀ (fn : Fn) (first cap : Array Value) (w : World), (Instr.makeFunc fn first cap).run Tryz.prog w = .ok (.func fn first cap) w := fun _ _ _ _ => rfl
 clear hp h
 generalize setB p.ro p.wi p.le p.ke = b1 at E1 HF
 generalize inB p.size 1 5 = b2 at E2 HF
 generalize Qco p = b3 at E3 HF
 generalize p.ms.all (rpB p.size) = b5 at E5 HF
 generalize Qcr p = b6 at E6 HF
 generalize p.fs.all idxB = b8 at E8 HF
 generalize p.hs.all Qbq = b10 at E10 HF
 generalize p.ds.all okCo = b12 at E12 HF
 have P0 := hidP (Blk.new w 39 (Qam p))
 have B0 := hidP (show Below w.heap.size w (w.alloc (.cells (Qam p) 39)) from Qab (Below.refl _ _) _)
 have x0 := P0.out.cell (i := 0) (v := .int .i64 p.ro) rfl
 have x1 := P0.out.cell (i := 1) (v := .int .i64 p.wi) rfl
 have x2 := P0.out.cell (i := 2) (v := .int .i64 p.le) rfl
 have x3 := P0.out.cell (i := 3) (v := .int .i64 p.ke) rfl
 have x4 := P0.out.cell (i := 4) (v := .int .i64 p.size) rfl
 have x5 := P0.out.cell (i := 5) (v := .slice p.nA p.ns.length p.nc) rfl
 have x6 := P0.out.cell (i := 6) (v := .slice p.mA p.ms.length p.mc) rfl
 have x7 := P0.out.cell (i := 7) (v := .slice p.sA p.ss.length p.sc) rfl
 have x8 := P0.out.cell (i := 8) (v := .slice p.fA p.fs.length p.fc) rfl
 have x9 := P0.out.cell (i := 9) (v := .slice p.hA p.hs.length p.hc) rfl
 have x10 := P0.out.cell (i := 10) (v := .slice p.dA p.ds.length p.dc) rfl
 have q0 := P0.out.lt
 go_enter Tryz.func24, Tryz.ntmps24
 go_wp2_with fail
 refine (E1.out _).mono ?_
 rintro e w1 ⟨rfl, g⟩
 replace B0 := hidP (via0 g B0.out)
 replace P0 := hidP (P0.out.below g P0.out.lt)
 clear g q0 x0 x1 x2 x3 x4 x5 x6 x7 x8 x9 x10
 have x0 := P0.out.cell (i := 0) (v := .int .i64 p.ro) rfl
 have x1 := P0.out.cell (i := 1) (v := .int .i64 p.wi) rfl
 have x2 := P0.out.cell (i := 2) (v := .int .i64 p.le) rfl
 have x3 := P0.out.cell (i := 3) (v := .int .i64 p.ke) rfl
 have x4 := P0.out.cell (i := 4) (v := .int .i64 p.size) rfl
 have x5 := P0.out.cell (i := 5) (v := .slice p.nA p.ns.length p.nc) rfl
 have x6 := P0.out.cell (i := 6) (v := .slice p.mA p.ms.length p.mc) rfl
 have x7 := P0.out.cell (i := 7) (v := .slice p.sA p.ss.length p.sc) rfl
 have x8 := P0.out.cell (i := 8) (v := .slice p.fA p.fs.length p.fc) rfl
 have x9 := P0.out.cell (i := 9) (v := .slice p.hA p.hs.length p.hc) rfl
 have x10 := P0.out.cell (i := 10) (v := .slice p.dA p.ds.length p.dc) rfl
 have q0 := P0.out.lt
 cases b1
 . have hf : Hid (Qat p = false) := by show _ = _; rw [HF.out]; simp
   go_wp2
   go_ret
   exact ⟨by rw [hf.out]; rfl, B0.out⟩
 go_wp2_with fail
 refine (E2.out _).mono ?_
 rintro e w2 ⟨rfl, hw⟩
 subst w2
 cases b2
 . have hf : Hid (Qat p = false) := by show _ = _; rw [HF.out]; simp
   go_wp2
   go_ret
   exact ⟨by rw [hf.out]; rfl, B0.out⟩
 go_wp2_with fail
 refine (E3.out _ B0.out).mono ?_
 rintro e w3 ⟨rfl, g⟩
 replace B0 := hidP (via0 g B0.out)
 replace P0 := hidP (P0.out.below g P0.out.lt)
 clear g q0 x0 x1 x2 x3 x4 x5 x6 x7 x8 x9 x10
 have x0 := P0.out.cell (i := 0) (v := .int .i64 p.ro) rfl
 have x1 := P0.out.cell (i := 1) (v := .int .i64 p.wi) rfl
 have x2 := P0.out.cell (i := 2) (v := .int .i64 p.le) rfl
 have x3 := P0.out.cell (i := 3) (v := .int .i64 p.ke) rfl
 have x4 := P0.out.cell (i := 4) (v := .int .i64 p.size) rfl
 have x5 := P0.out.cell (i := 5) (v := .slice p.nA p.ns.length p.nc) rfl
 have x6 := P0.out.cell (i := 6) (v := .slice p.mA p.ms.length p.mc) rfl
 have x7 := P0.out.cell (i := 7) (v := .slice p.sA p.ss.length p.sc) rfl
 have x8 := P0.out.cell (i := 8) (v := .slice p.fA p.fs.length p.fc) rfl
 have x9 := P0.out.cell (i := 9) (v := .slice p.hA p.hs.length p.hc) rfl
 have x10 := P0.out.cell (i := 10) (v := .slice p.dA p.ds.length p.dc) rfl
 have q0 := P0.out.lt
 cases b3
 . have hf : Hid (Qat p = false) := by show _ = _; rw [HF.out]; simp
   go_wp2
   go_ret
   exact ⟨by rw [hf.out]; rfl, B0.out⟩
 by_cases h4 : (p.ms.length : Int) <= 40
 case neg =>
  have hf : Hid (Qat p = false) := by show _ = _; rw [HF.out, decide_eq_false h4]; simp
  go_wp2
  go_ret
  exact ⟨by rw [hf.out]; rfl, B0.out⟩
 replace HF := hidP (HF.out.trans (by rw [decide_eq_true h4]))
 go_wp2_with fail
 refine (E5.out _ B0.out P0.out).mono ?_
 rintro e w5 ⟨rfl, g⟩
 replace B0 := hidP (via0 g B0.out)
 replace P0 := hidP (P0.out.below g P0.out.lt)
 clear g q0 x0 x1 x2 x3 x4 x5 x6 x7 x8 x9 x10
 have x0 := P0.out.cell (i := 0) (v := .int .i64 p.ro) rfl
 have x1 := P0.out.cell (i := 1) (v := .int .i64 p.wi) rfl
 have x2 := P0.out.cell (i := 2) (v := .int .i64 p.le) rfl
 have x3 := P0.out.cell (i := 3) (v := .int .i64 p.ke) rfl
 have x4 := P0.out.cell (i := 4) (v := .int .i64 p.size) rfl
 have x5 := P0.out.cell (i := 5) (v := .slice p.nA p.ns.length p.nc) rfl
 have x6 := P0.out.cell (i := 6) (v := .slice p.mA p.ms.length p.mc) rfl
 have x7 := P0.out.cell (i := 7) (v := .slice p.sA p.ss.length p.sc) rfl
 have x8 := P0.out.cell (i := 8) (v := .slice p.fA p.fs.length p.fc) rfl
 have x9 := P0.out.cell (i := 9) (v := .slice p.hA p.hs.length p.hc) rfl
 have x10 := P0.out.cell (i := 10) (v := .slice p.dA p.ds.length p.dc) rfl
 have q0 := P0.out.lt
 cases b5
 . have hf : Hid (Qat p = false) := by show _ = _; rw [HF.out]; simp
   go_wp2
   go_ret
   exact ⟨by rw [hf.out]; rfl, B0.out⟩
 go_wp2_with fail
 refine (E6.out _ B0.out).mono ?_
 rintro e w6 ⟨rfl, g⟩
 replace B0 := hidP (via0 g B0.out)
 replace P0 := hidP (P0.out.below g P0.out.lt)
 clear g q0 x0 x1 x2 x3 x4 x5 x6 x7 x8 x9 x10
 have x0 := P0.out.cell (i := 0) (v := .int .i64 p.ro) rfl
 have x1 := P0.out.cell (i := 1) (v := .int .i64 p.wi) rfl
 have x2 := P0.out.cell (i := 2) (v := .int .i64 p.le) rfl
 have x3 := P0.out.cell (i := 3) (v := .int .i64 p.ke) rfl
 have x4 := P0.out.cell (i := 4) (v := .int .i64 p.size) rfl
 have x5 := P0.out.cell (i := 5) (v := .slice p.nA p.ns.length p.nc) rfl
 have x6 := P0.out.cell (i := 6) (v := .slice p.mA p.ms.length p.mc) rfl
 have x7 := P0.out.cell (i := 7) (v := .slice p.sA p.ss.length p.sc) rfl
 have x8 := P0.out.cell (i := 8) (v := .slice p.fA p.fs.length p.fc) rfl
 have x9 := P0.out.cell (i := 9) (v := .slice p.hA p.hs.length p.hc) rfl
 have x10 := P0.out.cell (i := 10) (v := .slice p.dA p.ds.length p.dc) rfl
 have q0 := P0.out.lt
 cases b6
 . have hf : Hid (Qat p = false) := by show _ = _; rw [HF.out]; simp
   go_wp2
   go_ret
   exact ⟨by rw [hf.out]; rfl, B0.out⟩
 by_cases h7 : (p.fs.length : Int) = 4
 case neg =>
  have hf : Hid (Qat p = false) := by show _ = _; rw [HF.out, decide_eq_false h7]; simp
  go_wp2
  go_ret
  exact ⟨by rw [hf.out]; rfl, B0.out⟩
 replace HF := hidP (HF.out.trans (by rw [decide_eq_true h7]))
 go_wp2_with fail
 refine (E8.out _ B0.out).mono ?_
 rintro e w8 ⟨rfl, g⟩
 replace B0 := hidP (via0 g B0.out)
 replace P0 := hidP (P0.out.below g P0.out.lt)
 clear g q0 x0 x1 x2 x3 x4 x5 x6 x7 x8 x9 x10
 have x0 := P0.out.cell (i := 0) (v := .int .i64 p.ro) rfl
 have x1 := P0.out.cell (i := 1) (v := .int .i64 p.wi) rfl
 have x2 := P0.out.cell (i := 2) (v := .int .i64 p.le) rfl
 have x3 := P0.out.cell (i := 3) (v := .int .i64 p.ke) rfl
 have x4 := P0.out.cell (i := 4) (v := .int .i64 p.size) rfl
 have x5 := P0.out.cell (i := 5) (v := .slice p.nA p.ns.length p.nc) rfl
 have x6 := P0.out.cell (i := 6) (v := .slice p.mA p.ms.length p.mc) rfl
 have x7 := P0.out.cell (i := 7) (v := .slice p.sA p.ss.length p.sc) rfl
 have x8 := P0.out.cell (i := 8) (v := .slice p.fA p.fs.length p.fc) rfl
 have x9 := P0.out.cell (i := 9) (v := .slice p.hA p.hs.length p.hc) rfl
 have x10 := P0.out.cell (i := 10) (v := .slice p.dA p.ds.length p.dc) rfl
 have q0 := P0.out.lt
 cases b8
 . have hf : Hid (Qat p = false) := by show _ = _; rw [HF.out]; simp
   go_wp2
   go_ret
   exact ⟨by rw [hf.out]; rfl, B0.out⟩
 by_cases h9 : (p.hs.length : Int) <= 300
 case neg =>
  have hf : Hid (Qat p = false) := by show _ = _; rw [HF.out, decide_eq_false h9]; simp
  go_wp2
  go_ret
  exact ⟨by rw [hf.out]; rfl, B0.out⟩
 replace HF := hidP (HF.out.trans (by rw [decide_eq_true h9]))
 go_wp2_with fail
 refine (E10.out _ B0.out).mono ?_
 rintro e w10 ⟨rfl, g⟩
 replace B0 := hidP (via0 g B0.out)
 replace P0 := hidP (P0.out.below g P0.out.lt)
 clear g q0 x0 x1 x2 x3 x4 x5 x6 x7 x8 x9 x10
 have x0 := P0.out.cell (i := 0) (v := .int .i64 p.ro) rfl
 have x1 := P0.out.cell (i := 1) (v := .int .i64 p.wi) rfl
 have x2 := P0.out.cell (i := 2) (v := .int .i64 p.le) rfl
 have x3 := P0.out.cell (i := 3) (v := .int .i64 p.ke) rfl
 have x4 := P0.out.cell (i := 4) (v := .int .i64 p.size) rfl
 have x5 := P0.out.cell (i := 5) (v := .slice p.nA p.ns.length p.nc) rfl
 have x6 := P0.out.cell (i := 6) (v := .slice p.mA p.ms.length p.mc) rfl
 have x7 := P0.out.cell (i := 7) (v := .slice p.sA p.ss.length p.sc) rfl
 have x8 := P0.out.cell (i := 8) (v := .slice p.fA p.fs.length p.fc) rfl
 have x9 := P0.out.cell (i := 9) (v := .slice p.hA p.hs.length p.hc) rfl
 have x10 := P0.out.cell (i := 10) (v := .slice p.dA p.ds.length p.dc) rfl
 have q0 := P0.out.lt
 cases b10
 . have hf : Hid (Qat p = false) := by show _ = _; rw [HF.out]; simp
   go_wp2
   go_ret
   exact ⟨by rw [hf.out]; rfl, B0.out⟩
 by_cases h11 : (p.ds.length : Int) <= 300
 case neg =>
  have hf : Hid (Qat p = false) := by show _ = _; rw [HF.out, decide_eq_false h11]; simp
  go_wp2
  go_ret
  exact ⟨by rw [hf.out]; rfl, B0.out⟩
 replace HF := hidP (HF.out.trans (by rw [decide_eq_true h11]))
 go_wp2_with fail
 refine (E12.out _ B0.out).mono ?_
 rintro e w12 ⟨rfl, g⟩
 replace B0 := hidP (via0 g B0.out)
 replace P0 := hidP (P0.out.below g P0.out.lt)
 clear g q0 x0 x1 x2 x3 x4 x5 x6 x7 x8 x9 x10
 have x0 := P0.out.cell (i := 0) (v := .int .i64 p.ro) rfl
 have x1 := P0.out.cell (i := 1) (v := .int .i64 p.wi) rfl
 have x2 := P0.out.cell (i := 2) (v := .int .i64 p.le) rfl
 have x3 := P0.out.cell (i := 3) (v := .int .i64 p.ke) rfl
 have x4 := P0.out.cell (i := 4) (v := .int .i64 p.size) rfl
 have x5 := P0.out.cell (i := 5) (v := .slice p.nA p.ns.length p.nc) rfl
 have x6 := P0.out.cell (i := 6) (v := .slice p.mA p.ms.length p.mc) rfl
 have x7 := P0.out.cell (i := 7) (v := .slice p.sA p.ss.length p.sc) rfl
 have x8 := P0.out.cell (i := 8) (v := .slice p.fA p.fs.length p.fc) rfl
 have x9 := P0.out.cell (i := 9) (v := .slice p.hA p.hs.length p.hc) rfl
 have x10 := P0.out.cell (i := 10) (v := .slice p.dA p.ds.length p.dc) rfl
 have q0 := P0.out.lt
 have hf := hidP (show Qat p = b12 by rw [HF.out]; simp)
 go_wp2
 go_ret
 exact ⟨by rw [hf.out]; rfl, B0.out⟩
theorem leads_any (p : WC) (n : Nat) (hn : n < p.ns.length) (hi : inB (n : Int) 0 (p.size - 1) = true) (w : World) (hA : At w p.nA p.ns) :
 Calls Tryz.prog 61 #[.agg (Qam p), .int .i64 (n : Int)] w fun e w' => e = .returned (.bool (p.ns[n].role == 2)) /\ Below w.heap.size w w' := by
 have E1 : Hid (∀ W : World, Calls Tryz.prog 91 #[.int .i64 (n : Int), .int .i64 p.size] W fun e w' => e = .returned (.bool true) /\ Below W.heap.size W w') := fun W => hi ▸ Qc1 _ _ W
 have P0 := hidP (Blk.new w 39 (Qam p))
 have B0 := hidP (show Below w.heap.size w (w.alloc (.cells (Qam p) 39)) from Qab (Below.refl _ _) _)
 have x4 := P0.out.cell (i := 4) (v := .int .i64 p.size) rfl
 have q0 := P0.out.lt
 obtain ⟨bn, on, hE, hbn, hIn⟩ : ∃ b o, p.nA = some ⟨b, o, none⟩ /\ b < w.heap.size /\ In w b o p.ns := by
  rcases hA with h | h
  . rw [h] at hn; simp at hn
  . exact h
 have HI := hidP hIn
 have HE := hidP hE
 have hi0 : (0 : Int) <= (n : Int) := by omega
 have hi1 : (n : Int) < (p.ns.length : Int) := by omega
 clear hi hA hIn hE
 go_enter Tryz.func61, Tryz.ntmps61
 go_wp2_with fail
 refine (E1.out _).mono ?_
 rintro e w1 ⟨rfl, g⟩
 replace B0 := hidP (via0 g B0.out)
 replace P0 := hidP (P0.out.below g P0.out.lt)
 clear x4 q0 g
 have x5 := P0.out.cell (i := 5) (v := .slice p.nA p.ns.length p.nc) rfl
 have q0 := P0.out.lt
 rw [HE.out] at x5
 have cr : w1.cell? ⟨bn, on + n * 26 + 12, none⟩ = some (.int .i64 p.ns[n].role) := (HI.out.below hbn B0.out).cell n hn (f := 12) rfl
 go_wp2
 go_ret
 exact ⟨rfl, B0.out⟩
theorem leader_any (p : WC) (hnl : p.ns.length <= 1048576) (hin : ∀ n : Nat, n < p.ns.length -> inB (n : Int) 0 (p.size - 1) = true) (w : World) (hA : At w p.nA p.ns) :
 Calls Tryz.prog 25 #[.agg (Qam p)] w fun e w' => e = .returned (.int .i64 (Qa6 p.ns p.ns.length)) /\ Below w.heap.size w w' := by
 have HA := hidP hA
 have EL : Hid (∀ (n : Nat) (hn : n < p.ns.length) (W : World), Below w.heap.size w W -> Calls Tryz.prog 61 #[.agg (Qam p), .int .i64 (n : Int)] W fun e w' => e = .returned (.bool (p.ns[n].role == 2)) /\ Below W.heap.size W w') := fun n hn W g => leads_any p n hn (hin n hn) W (hA.below g)
 have P0 := hidP (Blk.new w 39 (Qam p))
 have B0 := hidP (show Below w.heap.size w (w.alloc (.cells (Qam p) 39)) from Qab (Below.refl _ _) _)
 obtain ⟨bl, hbl⟩ : ∃ z, z = Qa6 p.ns p.ns.length := ⟨_, rfl⟩
 rw [← hbl]
 have HL := hidP hbl
 have x5 := P0.out.cell (i := 5) (v := .slice p.nA p.ns.length p.nc) rfl
 have q0 := P0.out.lt
 clear hA hin hbl
 go_enter Tryz.func25, Tryz.ntmps25
 go_wp2
 clear x5 q0
 go_loopw [3, 9] (fun q i W => ∃ n : Nat, i = .int .i64 (n : Int) /\ n <= p.ns.length /\ q = .int .i64 (Qa6 p.ns n) /\ Hid (Below w.heap.size w W) /\ Hid (Blk W w.heap.size 39 (Qam p))) (fun _ i _ => p.ns.length - (intOf i).toNat)
 case atStart => exact ⟨0, rfl, by omega, rfl, B0, P0⟩
 case round =>
  clear B0 P0
  obtain ⟨n, rfl, hn, rfl, hB, hX⟩ := hrel
  by_cases hlt : n < p.ns.length
  . obtain ⟨bn, on, hE, hbn, hIn⟩ : ∃ b o, p.nA = some ⟨b, o, none⟩ /\ b < w.heap.size /\ In w b o p.ns := by
     rcases HA.out with h | h
     . rw [h] at hlt; simp at hlt
     . exact h
    have HR := hidP ((hIn.below hbn hB.out).el n hlt)
    have HI := hidP hIn
    have HE := hidP hE
    have hi0 : (0 : Int) <= (n : Int) := by omega
    have hi1 : (n : Int) < (p.ns.length : Int) := by omega
    have hst := hidP (Qhc p.ns n hlt)
    have EN := hidP (EL.out n hlt)
    rw [hE]
    clear hE hIn
    go_upto_region 4 with fail
    refine wp_region_lit ?_
    iterate 6 go_step
    refine wpList_load_mid (by rfl) 67 _ (by rfl) bn (on + n * 26) (by rfl) (Cel.cs p.ns[n]) _ HR.out Tryz.underlying67 rfl Qdx ?_
    iterate 6 go_step
    refine Qa7 rfl 67 _ _ rfl (g := wr.heap.size) (cells := Qa5 p.ns[n]) rfl rfl (Blk.new wr 67 Qan) (by kernel_rfl) rfl (Qc2 _) ?_
    refine wpList_nil ?_
    rw [World.setRow_alloc_new]
    have XN : Hid (Blk (wr.alloc (.cells (Qa5 p.ns[n]) 67)) wr.heap.size 67 (Qa5 p.ns[n])) := Blk.new wr _ _
    replace hB := hidP (show Below w.heap.size w (wr.alloc (.cells (Qa5 p.ns[n]) 67)) from Qab hB.out _)
    replace hX := hidP (hX.out.alloc (.cells (Qa5 p.ns[n]) 67))
    generalize wr.alloc (.cells (Qa5 p.ns[n]) 67) = Y at XN hB hX ⊢
    generalize wr.heap.size = bx at XN ⊢
    clear HR
    rcases best_nat p.ns n with hb | ⟨m, hb, hm⟩
    all_goals
     rw [hb]
     go_upto_region 5 with fail
     refine wp_region_noPanic ?_
    . have SS : Hid (∀ W : World, Below Y.heap.size Y W -> (fun (V : World) => Blk V w.heap.size 39 (Qam p)) W) := fun W g => hX.out.below g hX.out.lt
      refine wp_region_held_drew (S := (fun (V : World) => Blk V w.heap.size 39 (Qam p))) (by kernel_rfl) (SS.out _ (Below.refl _ _).drew) (fun hH => ?_)
      refine zt1 0 ?_; refine ztn (hS := hH) (hy := fun w' hSw => Qbl rfl rfl hSw Tryz.underlying39 infoW) (h := ?_); try simp only [zX,zY]
      refine zte ?_
      refine ztk [1] ?_; repeat (refine ztn (hS := hH) (h := ?_); try simp only [zX,zY])
      refine zte ?_
      refine zR1 2 (fun K hK => ?_)
      simp only [zG]
      go_simp
      refine (EN.out _ hB.out.drew).mono ?_
      rintro e w6 ⟨rfl, g6⟩
      have g7 := via0 g6 (Below.drew (Below.refl _ _))
      have BB := hidP (via0 g7 hB.out)
      have XX := hidP (hX.out.below g7 hX.out.lt)
      refine hK.out _ _ (SS.out _ g7) (fun hH => ?_)
      clear hK K g6 g7
      try simp only [zX,zY]
      by_cases h1 : p.ns[n].role = 2
      case neg =>
       have hF := hidP (show Qa6 p.ns (n + 1) = -1 by rw [hst.out, if_neg (fun e => h1 e.1), hb])
       have hb1 : (p.ns[n].role == 2) = false := by simp [h1]
       rw [hb1]
       refine ztk [3] ?_; repeat (refine ztn (hS := hH) (h := ?_); try simp only [zX,zY])
       refine zte ?_
       refine ztk [4,5,6,7,8,9,10,11,12,13,14,15,16,17,18] ?_; repeat (refine ztu (hS := hH) (h := ?_); try simp only [zX,zY])
       refine zte ?_
       refine ztk [19] ?_; repeat (refine ztn (hS := hH) (h := ?_); try simp only [zX,zY])
       refine zte ?_
       refine zdn ?_
       go_wp2
       exact ⟨⟨n + 1, by go_num, by omega, by rw [hF.out], BB, XX⟩, by simp [intOf]; omega⟩
      . have hF := hidP (show Qa6 p.ns (n + 1) = (n : Int) by rw [hst.out, if_pos ⟨h1, Or.inl (by omega)⟩])
        have hb1 : (p.ns[n].role == 2) = true := by simp [h1]
        rw [hb1]
        refine ztk [3,4,5,6] ?_; repeat (refine ztn (hS := hH) (h := ?_); try simp only [zX,zY])
        refine zte ?_
        refine ztk [7,8,9,10,11,12,13,14,15,16,17] ?_; repeat (refine ztu (hS := hH) (h := ?_); try simp only [zX,zY])
        refine zte ?_
        refine ztk [18,19] ?_; repeat (refine ztn (hS := hH) (h := ?_); try simp only [zX,zY])
        refine zte ?_
        refine zdn ?_
        go_wp2
        exact ⟨⟨n + 1, by go_num, by omega, by rw [hF.out], BB, XX⟩, by simp [intOf]; omega⟩
    . have hmN : m < p.ns.length := by omega
      have hj0 : (0 : Int) <= (m : Int) := by omega
      have hj1 : (m : Int) < (p.ns.length : Int) := by omega
      have hj2 : ((m : Int) == -1) = false := by simp
      have hte := hidP (teAt_nat hmN)
      have SS : Hid (∀ W : World, Below Y.heap.size Y W -> (fun (V : World) => Blk V w.heap.size 39 (Qam p) /\ V.cell? ⟨w.heap.size, 5, none⟩ = some (.slice (some ⟨bn, on, none⟩) p.ns.length p.nc) /\ V.cell? ⟨bx, 1, none⟩ = some (.int .i64 p.ns[n].te) /\ V.cell? ⟨bn, on + m * 26 + 1, none⟩ = some (.int .i64 p.ns[m].te)) W) := fun W g => by
       have hx := hX.out.below g hX.out.lt
       have hy := XN.out.below g XN.out.lt
       refine ⟨hx, ?_, hy.cell (i := 1) (v := .int .i64 p.ns[n].te) rfl, ((HI.out.below hbn hB.out).below (Nat.lt_of_lt_of_le hbn hB.out.size) g).cell m hmN (f := 1) rfl⟩
       rw [← HE.out]; exact hx.cell rfl
      refine wp_region_held_drew (S := (fun (V : World) => Blk V w.heap.size 39 (Qam p) /\ V.cell? ⟨w.heap.size, 5, none⟩ = some (.slice (some ⟨bn, on, none⟩) p.ns.length p.nc) /\ V.cell? ⟨bx, 1, none⟩ = some (.int .i64 p.ns[n].te) /\ V.cell? ⟨bn, on + m * 26 + 1, none⟩ = some (.int .i64 p.ns[m].te))) (by kernel_rfl) (SS.out _ (Below.refl _ _).drew) (fun hH => ?_)
      refine zt1 0 ?_; refine ztn (hS := hH) (hy := fun w' hSw => Qbl rfl rfl hSw.1 Tryz.underlying39 infoW) (h := ?_); try simp only [zX,zY]
      refine zte ?_
      refine ztk [1] ?_; repeat (refine ztn (hS := hH) (h := ?_); try simp only [zX,zY])
      refine zte ?_
      refine zR1 2 (fun K hK => ?_)
      simp only [zG]
      go_simp
      refine (EN.out _ hB.out.drew).mono ?_
      rintro e w6 ⟨rfl, g6⟩
      have g7 := via0 g6 (Below.drew (Below.refl _ _))
      have BB := hidP (via0 g7 hB.out)
      have XX := hidP (hX.out.below g7 hX.out.lt)
      refine hK.out _ _ (SS.out _ g7) (fun hH => ?_)
      clear hK K g6 g7
      try simp only [zX,zY]
      by_cases h1 : p.ns[n].role = 2
      case neg =>
       have hF := hidP (show Qa6 p.ns (n + 1) = (m : Int) by rw [hst.out, if_neg (fun e => h1 e.1), hb])
       have hb1 : (p.ns[n].role == 2) = false := by simp [h1]
       rw [hb1]
       refine ztk [3] ?_; repeat (refine ztn (hS := hH) (h := ?_); try simp only [zX,zY])
       refine zte ?_
       refine ztk [4,5,6,7,8,9,10,11,12,13,14,15,16,17,18] ?_; repeat (refine ztu (hS := hH) (h := ?_); try simp only [zX,zY])
       refine zte ?_
       refine ztk [19] ?_; repeat (refine ztn (hS := hH) (h := ?_); try simp only [zX,zY])
       refine zte ?_
       refine zdn ?_
       go_wp2
       exact ⟨⟨n + 1, by go_num, by omega, by rw [hF.out], BB, XX⟩, by simp [intOf]; omega⟩
      . have hF := hidP (show Qa6 p.ns (n + 1) = if p.ns[m].te < p.ns[n].te then (n : Int) else (m : Int) by
         rw [hst.out, hb, hte.out]
         by_cases h2 : p.ns[m].te < p.ns[n].te
         . rw [if_pos ⟨h1, Or.inr h2⟩, if_pos h2]
         . rw [if_neg (fun e => by rcases e.2 with e | e<;>omega), if_neg h2])
        have hb1 : (p.ns[n].role == 2) = true := by simp [h1]
        rw [hb1]
        by_cases h2 : p.ns[m].te < p.ns[n].te
        all_goals
         first
         | replace hF := hidP (hF.out.trans (if_pos h2))
         | replace hF := hidP (hF.out.trans (if_neg h2))
         refine ztk [3,4,5,6,7,8,9,10,11,12,13,14,15,16,17,18,19] ?_; repeat (refine ztn (hS := hH) (h := ?_); try simp only [zX,zY])
         refine zte ?_
         refine zdn ?_
         go_wp2
         exact ⟨⟨n + 1, by go_num, by omega, by rw [hF.out], BB, XX⟩, by simp [intOf]; omega⟩
  . have hF := hidP (show Qa6 p.ns n = bl by rw [HL.out]; congr 1; omega)
    have hge : ¬ (n : Int) < (p.ns.length : Int) := by omega
    rw [hF.out]
    go_wp2
    go_ret
    exact ⟨rfl, hB.out⟩
theorem Qez (p : WC) (h : WAsk p) (w : World) (hp : WAt w p) :
 Calls Tryz.prog 8 #[.agg (Qam p)] w fun e w' => e = .returned (.int .i64 (Qb1 p)) /\ Below w.heap.size w w' := by
 have EW : Hid (∀ W : World, Below w.heap.size w W -> Calls Tryz.prog 24 #[.agg (Qam p)] W fun e w' => e = .returned (.bool (Qat p)) /\ Below W.heap.size W w') := fun W g => Qek p h W (hp.below g)
 have EL : Hid (Qat p = true -> ∀ W : World, Below w.heap.size w W -> Calls Tryz.prog 25 #[.agg (Qam p)] W fun e w' => e = .returned (.int .i64 (Qa6 p.ns p.ns.length)) /\ Below W.heap.size W w') := fun hw W g => leader_any p h.f.nl (world_node hw) W (hp.na.below g)
 have HL : Hid (Qb1 p = if Qat p = true then Qa6 p.ns p.ns.length else -1) := rfl
 have P0 := hidP (Blk.new w 39 (Qam p))
 have B0 := hidP (show Below w.heap.size w (w.alloc (.cells (Qam p) 39)) from Qab (Below.refl _ _) _)
 clear hp h
 generalize Qat p = wb at EW HL EL
 generalize Qb1 p = lb at HL ⊢
 generalize Qa6 p.ns p.ns.length = bl at HL EL
 go_enter Tryz.func8, Tryz.ntmps8
 go_upto_region 1 with fail
 refine wp_region_lit ?_
 refine Qav rfl 39 _ rfl (b := w.heap.size) rfl P0.out Tryz.underlying39 infoW ?_
 go_wp2_with fail
 refine (EW.out _ B0.out).mono ?_
 rintro e w1 ⟨rfl, g⟩
 replace B0 := hidP (via0 g B0.out)
 replace P0 := hidP (P0.out.below g P0.out.lt)
 clear g EW
 cases wb
 . go_wp2
   go_ret
   exact ⟨by rw [HL.out]; rfl, B0.out⟩
 replace HL := hidP (show lb = bl by rw [HL.out]; rfl)
 replace EL := hidP (EL.out rfl)
 go_upto_region 3 with fail
 refine wp_region_lit ?_
 refine Qav rfl 39 _ rfl (b := w.heap.size) rfl P0.out Tryz.underlying39 infoW ?_
 go_wp2_with fail
 refine (EL.out _ B0.out).mono ?_
 rintro e w2 ⟨rfl, g⟩
 go_wp2
 go_ret
 exact ⟨by rw [HL.out]; rfl, via0 g B0.out⟩
end Go.Proofs.YtkmkldjipihceaaGreat.Gen
