/-
  The program's WorldOk. No condition but the sizes that every text and number has.
-/
import Derived.Test.YtbcbdhjeebcleaaGreatDoorWoI1
import Derived.Test.YtbcbdhjeebcleaaGreatDoorJlI
set_option linter.unusedVariables false
set_option linter.unusedSimpArgs false
set_option maxRecDepth 100000
set_option maxHeartbeats 8000000
namespace Go.Proofs.YtbcbdhjeebcleaaGreatDoor.Gen
open ChangeShapes WideShapes ChangeAt RowKit Joins Deep Base
theorem Qd3 (p : WC) (h : WAsk p) (w : World) (hp : WAt w p) :
 Calls Tryz.prog 46 #[.agg (Qad p)] w fun e w' => e = .returned (.bool (Qai p)) /\ Below w.heap.size w w' := by
 have E1 : Hid (∀ W : World, Calls Tryz.prog 74 #[.agg #[.int .i64 p.ro, .int .i64 p.wi, .int .i64 p.le, .int .i64 p.ke]] W fun e w' => e = .returned (.bool (setB p.ro p.wi p.le p.ke)) /\ Below W.heap.size W w') := fun W => Qcx _ _ _ _ W
 have E2 : Hid (∀ W : World, Calls Tryz.prog 75 #[.int .i64 p.size] W fun e w' => e = .returned (.bool (inB p.size 1 5)) /\ w' = W) := fun W => Qc6 _ W
 have E3 : Hid (∀ W : World, Below w.heap.size w W -> Calls Tryz.prog 76 #[.agg (Qad p)] W fun e w' => e = .returned (.bool (Qb0 p)) /\ Below W.heap.size W w') := fun W g => Qed p h W (hp.below g)
 have E5 : Hid (∀ W : World, Below w.heap.size w W -> Blk W w.heap.size 39 (Qad p) -> Calls Tryz.prog 77 #[.slice p.mA p.ms.length p.mc, .func (.func 78) #[] #[.pointer (some ⟨w.heap.size, 0, none⟩)]] W fun e w' => e = .returned (.bool (p.ms.all (rpB p.size))) /\ Below W.heap.size W w') := fun W g q => Qie p.mA p.mc p.ms h.f.ml p.size h.m h.f.mi W (hp.me.below g) w.heap.size q.lt (q.cell rfl) (hp.ma.below g)
 have E6 : Hid (∀ W : World, Below w.heap.size w W -> Calls Tryz.prog 80 #[.agg (Qad p)] W fun e w' => e = .returned (.bool (Qb7 p)) /\ Below W.heap.size W w') := fun W g => Qfi p h W (hp.below g)
 have E8 : Hid (∀ W : World, Below w.heap.size w W -> Calls Tryz.prog 81 #[.slice p.fA p.fs.length p.fc, .func (.func 82) #[] #[]] W fun e w' => e = .returned (.bool (p.fs.all idxB)) /\ Below W.heap.size W w') := fun W g => Qc1 p.fA p.fc p.fs h.f.fl W (hp.fa.below g)
 have E10 : Hid (∀ W : World, Below w.heap.size w W -> Calls Tryz.prog 83 #[.slice p.hA p.hs.length p.hc, .func (.func 84) #[] #[]] W fun e w' => e = .returned (.bool (p.hs.all Qa8)) /\ Below W.heap.size W w') := fun W g => Qfw p.hA p.hc p.hs h.f.hl h.h W (hp.ha.below g)
 have E12 : Hid (∀ W : World, Below w.heap.size w W -> Calls Tryz.prog 85 #[.slice p.dA p.ds.length p.dc, .func (.func 86) #[] #[]] W fun e w' => e = .returned (.bool (p.ds.all okCo)) /\ Below W.heap.size W w') := fun W g => Qih p.dA p.dc p.ds h.f.dl h.d W (hp.da.below g)
 have HF : Hid (Qai p = _) := hidP (show Qai p = (setB p.ro p.wi p.le p.ke && inB p.size 1 5 && Qb0 p && decide ((p.ms.length : Int) <= 40) && p.ms.all (rpB p.size) && Qb7 p && decide ((p.fs.length : Int) = 4) && p.fs.all idxB && decide ((p.hs.length : Int) <= 300) && p.hs.all Qa8 && decide ((p.ds.length : Int) <= 300) && p.ds.all okCo) from rfl)
 have hmf : ∀ (fn : Fn) (first cap : Array Value) (w : World), (Instr.makeFunc fn first cap).run Tryz.prog w = .ok (.func fn first cap) w := fun _ _ _ _ => rfl
 clear hp h
 generalize setB p.ro p.wi p.le p.ke = b1 at E1 HF
 generalize inB p.size 1 5 = b2 at E2 HF
 generalize Qb0 p = b3 at E3 HF
 generalize p.ms.all (rpB p.size) = b5 at E5 HF
 generalize Qb7 p = b6 at E6 HF
 generalize p.fs.all idxB = b8 at E8 HF
 generalize p.hs.all Qa8 = b10 at E10 HF
 generalize p.ds.all okCo = b12 at E12 HF
 have P0 := hidP (Blk.new w 39 (Qad p))
 have B0 := hidP (show Below w.heap.size w (w.alloc (.cells (Qad p) 39)) from Qaa (Below.refl _ _) _)
 have x0 := P0.out.cell (i := 0) (v := .int .i64 p.ro) rfl
 have x1 := P0.out.cell (i := 1) (v := .int .i64 p.wi) rfl
 have x2 := P0.out.cell (i := 2) (v := .int .i64 p.le) rfl
 have x3 := P0.out.cell (i := 3) (v := .int .i64 p.ke) rfl
 have x4 := P0.out.cell (i := 4) (v := .int .i64 p.size) rfl
 have x5 := P0.out.cell (i := 5) (v := .slice p.nA p.ns.length p.nc) rfl
 have x6 := P0.out.cell (i := 6) (v := .slice p.mA p.ms.length p.mc) rfl
 have x7 := P0.out.cell (i := 7) (v := .slice p.sA p.ss.length p.sc) rfl
 have x8 := P0.out.cell (i := 8) (v := .slice p.fA p.fs.length p.fc) rfl
 have x9 := P0.out.cell (i := 9) (v := .slice p.hA p.hs.length p.hc) rfl
 have x10 := P0.out.cell (i := 10) (v := .slice p.dA p.ds.length p.dc) rfl
 have q0 := P0.out.lt
 go_enter Tryz.func46, Tryz.ntmps46
 go_wp2_with fail
 refine (E1.out _).mono ?_
 rintro e w1 ⟨rfl, g⟩
 replace B0 := hidP (via0 g B0.out)
 replace P0 := hidP (P0.out.below g P0.out.lt)
 clear g q0 x0 x1 x2 x3 x4 x5 x6 x7 x8 x9 x10
 have x0 := P0.out.cell (i := 0) (v := .int .i64 p.ro) rfl
 have x1 := P0.out.cell (i := 1) (v := .int .i64 p.wi) rfl
 have x2 := P0.out.cell (i := 2) (v := .int .i64 p.le) rfl
 have x3 := P0.out.cell (i := 3) (v := .int .i64 p.ke) rfl
 have x4 := P0.out.cell (i := 4) (v := .int .i64 p.size) rfl
 have x5 := P0.out.cell (i := 5) (v := .slice p.nA p.ns.length p.nc) rfl
 have x6 := P0.out.cell (i := 6) (v := .slice p.mA p.ms.length p.mc) rfl
 have x7 := P0.out.cell (i := 7) (v := .slice p.sA p.ss.length p.sc) rfl
 have x8 := P0.out.cell (i := 8) (v := .slice p.fA p.fs.length p.fc) rfl
 have x9 := P0.out.cell (i := 9) (v := .slice p.hA p.hs.length p.hc) rfl
 have x10 := P0.out.cell (i := 10) (v := .slice p.dA p.ds.length p.dc) rfl
 have q0 := P0.out.lt
 cases b1
 . have hf : Hid (Qai p = false) := by show _ = _; rw [HF.out]; simp
   go_wp2
   go_ret
   exact ⟨by rw [hf.out]; rfl, B0.out⟩
 go_wp2_with fail
 refine (E2.out _).mono ?_
 rintro e w2 ⟨rfl, hw⟩
 subst w2
 cases b2
 . have hf : Hid (Qai p = false) := by show _ = _; rw [HF.out]; simp
   go_wp2
   go_ret
   exact ⟨by rw [hf.out]; rfl, B0.out⟩
 go_wp2_with fail
 refine (E3.out _ B0.out).mono ?_
 rintro e w3 ⟨rfl, g⟩
 replace B0 := hidP (via0 g B0.out)
 replace P0 := hidP (P0.out.below g P0.out.lt)
 clear g q0 x0 x1 x2 x3 x4 x5 x6 x7 x8 x9 x10
 have x0 := P0.out.cell (i := 0) (v := .int .i64 p.ro) rfl
 have x1 := P0.out.cell (i := 1) (v := .int .i64 p.wi) rfl
 have x2 := P0.out.cell (i := 2) (v := .int .i64 p.le) rfl
 have x3 := P0.out.cell (i := 3) (v := .int .i64 p.ke) rfl
 have x4 := P0.out.cell (i := 4) (v := .int .i64 p.size) rfl
 have x5 := P0.out.cell (i := 5) (v := .slice p.nA p.ns.length p.nc) rfl
 have x6 := P0.out.cell (i := 6) (v := .slice p.mA p.ms.length p.mc) rfl
 have x7 := P0.out.cell (i := 7) (v := .slice p.sA p.ss.length p.sc) rfl
 have x8 := P0.out.cell (i := 8) (v := .slice p.fA p.fs.length p.fc) rfl
 have x9 := P0.out.cell (i := 9) (v := .slice p.hA p.hs.length p.hc) rfl
 have x10 := P0.out.cell (i := 10) (v := .slice p.dA p.ds.length p.dc) rfl
 have q0 := P0.out.lt
 cases b3
 . have hf : Hid (Qai p = false) := by show _ = _; rw [HF.out]; simp
   go_wp2
   go_ret
   exact ⟨by rw [hf.out]; rfl, B0.out⟩
 by_cases h4 : (p.ms.length : Int) <= 40
 case neg =>
  have hf : Hid (Qai p = false) := by show _ = _; rw [HF.out, decide_eq_false h4]; simp
  go_wp2
  go_ret
  exact ⟨by rw [hf.out]; rfl, B0.out⟩
 replace HF := hidP (HF.out.trans (by rw [decide_eq_true h4]))
 go_wp2_with fail
 refine (E5.out _ B0.out P0.out).mono ?_
 rintro e w5 ⟨rfl, g⟩
 replace B0 := hidP (via0 g B0.out)
 replace P0 := hidP (P0.out.below g P0.out.lt)
 clear g q0 x0 x1 x2 x3 x4 x5 x6 x7 x8 x9 x10
 have x0 := P0.out.cell (i := 0) (v := .int .i64 p.ro) rfl
 have x1 := P0.out.cell (i := 1) (v := .int .i64 p.wi) rfl
 have x2 := P0.out.cell (i := 2) (v := .int .i64 p.le) rfl
 have x3 := P0.out.cell (i := 3) (v := .int .i64 p.ke) rfl
 have x4 := P0.out.cell (i := 4) (v := .int .i64 p.size) rfl
 have x5 := P0.out.cell (i := 5) (v := .slice p.nA p.ns.length p.nc) rfl
 have x6 := P0.out.cell (i := 6) (v := .slice p.mA p.ms.length p.mc) rfl
 have x7 := P0.out.cell (i := 7) (v := .slice p.sA p.ss.length p.sc) rfl
 have x8 := P0.out.cell (i := 8) (v := .slice p.fA p.fs.length p.fc) rfl
 have x9 := P0.out.cell (i := 9) (v := .slice p.hA p.hs.length p.hc) rfl
 have x10 := P0.out.cell (i := 10) (v := .slice p.dA p.ds.length p.dc) rfl
 have q0 := P0.out.lt
 cases b5
 . have hf : Hid (Qai p = false) := by show _ = _; rw [HF.out]; simp
   go_wp2
   go_ret
   exact ⟨by rw [hf.out]; rfl, B0.out⟩
 go_wp2_with fail
 refine (E6.out _ B0.out).mono ?_
 rintro e w6 ⟨rfl, g⟩
 replace B0 := hidP (via0 g B0.out)
 replace P0 := hidP (P0.out.below g P0.out.lt)
 clear g q0 x0 x1 x2 x3 x4 x5 x6 x7 x8 x9 x10
 have x0 := P0.out.cell (i := 0) (v := .int .i64 p.ro) rfl
 have x1 := P0.out.cell (i := 1) (v := .int .i64 p.wi) rfl
 have x2 := P0.out.cell (i := 2) (v := .int .i64 p.le) rfl
 have x3 := P0.out.cell (i := 3) (v := .int .i64 p.ke) rfl
 have x4 := P0.out.cell (i := 4) (v := .int .i64 p.size) rfl
 have x5 := P0.out.cell (i := 5) (v := .slice p.nA p.ns.length p.nc) rfl
 have x6 := P0.out.cell (i := 6) (v := .slice p.mA p.ms.length p.mc) rfl
 have x7 := P0.out.cell (i := 7) (v := .slice p.sA p.ss.length p.sc) rfl
 have x8 := P0.out.cell (i := 8) (v := .slice p.fA p.fs.length p.fc) rfl
 have x9 := P0.out.cell (i := 9) (v := .slice p.hA p.hs.length p.hc) rfl
 have x10 := P0.out.cell (i := 10) (v := .slice p.dA p.ds.length p.dc) rfl
 have q0 := P0.out.lt
 cases b6
 . have hf : Hid (Qai p = false) := by show _ = _; rw [HF.out]; simp
   go_wp2
   go_ret
   exact ⟨by rw [hf.out]; rfl, B0.out⟩
 by_cases h7 : (p.fs.length : Int) = 4
 case neg =>
  have hf : Hid (Qai p = false) := by show _ = _; rw [HF.out, decide_eq_false h7]; simp
  go_wp2
  go_ret
  exact ⟨by rw [hf.out]; rfl, B0.out⟩
 replace HF := hidP (HF.out.trans (by rw [decide_eq_true h7]))
 go_wp2_with fail
 refine (E8.out _ B0.out).mono ?_
 rintro e w8 ⟨rfl, g⟩
 replace B0 := hidP (via0 g B0.out)
 replace P0 := hidP (P0.out.below g P0.out.lt)
 clear g q0 x0 x1 x2 x3 x4 x5 x6 x7 x8 x9 x10
 have x0 := P0.out.cell (i := 0) (v := .int .i64 p.ro) rfl
 have x1 := P0.out.cell (i := 1) (v := .int .i64 p.wi) rfl
 have x2 := P0.out.cell (i := 2) (v := .int .i64 p.le) rfl
 have x3 := P0.out.cell (i := 3) (v := .int .i64 p.ke) rfl
 have x4 := P0.out.cell (i := 4) (v := .int .i64 p.size) rfl
 have x5 := P0.out.cell (i := 5) (v := .slice p.nA p.ns.length p.nc) rfl
 have x6 := P0.out.cell (i := 6) (v := .slice p.mA p.ms.length p.mc) rfl
 have x7 := P0.out.cell (i := 7) (v := .slice p.sA p.ss.length p.sc) rfl
 have x8 := P0.out.cell (i := 8) (v := .slice p.fA p.fs.length p.fc) rfl
 have x9 := P0.out.cell (i := 9) (v := .slice p.hA p.hs.length p.hc) rfl
 have x10 := P0.out.cell (i := 10) (v := .slice p.dA p.ds.length p.dc) rfl
 have q0 := P0.out.lt
 cases b8
 . have hf : Hid (Qai p = false) := by show _ = _; rw [HF.out]; simp
   go_wp2
   go_ret
   exact ⟨by rw [hf.out]; rfl, B0.out⟩
 by_cases h9 : (p.hs.length : Int) <= 300
 case neg =>
  have hf : Hid (Qai p = false) := by show _ = _; rw [HF.out, decide_eq_false h9]; simp
  go_wp2
  go_ret
  exact ⟨by rw [hf.out]; rfl, B0.out⟩
 replace HF := hidP (HF.out.trans (by rw [decide_eq_true h9]))
 go_wp2_with fail
 refine (E10.out _ B0.out).mono ?_
 rintro e w10 ⟨rfl, g⟩
 replace B0 := hidP (via0 g B0.out)
 replace P0 := hidP (P0.out.below g P0.out.lt)
 clear g q0 x0 x1 x2 x3 x4 x5 x6 x7 x8 x9 x10
 have x0 := P0.out.cell (i := 0) (v := .int .i64 p.ro) rfl
 have x1 := P0.out.cell (i := 1) (v := .int .i64 p.wi) rfl
 have x2 := P0.out.cell (i := 2) (v := .int .i64 p.le) rfl
 have x3 := P0.out.cell (i := 3) (v := .int .i64 p.ke) rfl
 have x4 := P0.out.cell (i := 4) (v := .int .i64 p.size) rfl
 have x5 := P0.out.cell (i := 5) (v := .slice p.nA p.ns.length p.nc) rfl
 have x6 := P0.out.cell (i := 6) (v := .slice p.mA p.ms.length p.mc) rfl
 have x7 := P0.out.cell (i := 7) (v := .slice p.sA p.ss.length p.sc) rfl
 have x8 := P0.out.cell (i := 8) (v := .slice p.fA p.fs.length p.fc) rfl
 have x9 := P0.out.cell (i := 9) (v := .slice p.hA p.hs.length p.hc) rfl
 have x10 := P0.out.cell (i := 10) (v := .slice p.dA p.ds.length p.dc) rfl
 have q0 := P0.out.lt
 cases b10
 . have hf : Hid (Qai p = false) := by show _ = _; rw [HF.out]; simp
   go_wp2
   go_ret
   exact ⟨by rw [hf.out]; rfl, B0.out⟩
 by_cases h11 : (p.ds.length : Int) <= 300
 case neg =>
  have hf : Hid (Qai p = false) := by show _ = _; rw [HF.out, decide_eq_false h11]; simp
  go_wp2
  go_ret
  exact ⟨by rw [hf.out]; rfl, B0.out⟩
 replace HF := hidP (HF.out.trans (by rw [decide_eq_true h11]))
 go_wp2_with fail
 refine (E12.out _ B0.out).mono ?_
 rintro e w12 ⟨rfl, g⟩
 replace B0 := hidP (via0 g B0.out)
 replace P0 := hidP (P0.out.below g P0.out.lt)
 clear g q0 x0 x1 x2 x3 x4 x5 x6 x7 x8 x9 x10
 have x0 := P0.out.cell (i := 0) (v := .int .i64 p.ro) rfl
 have x1 := P0.out.cell (i := 1) (v := .int .i64 p.wi) rfl
 have x2 := P0.out.cell (i := 2) (v := .int .i64 p.le) rfl
 have x3 := P0.out.cell (i := 3) (v := .int .i64 p.ke) rfl
 have x4 := P0.out.cell (i := 4) (v := .int .i64 p.size) rfl
 have x5 := P0.out.cell (i := 5) (v := .slice p.nA p.ns.length p.nc) rfl
 have x6 := P0.out.cell (i := 6) (v := .slice p.mA p.ms.length p.mc) rfl
 have x7 := P0.out.cell (i := 7) (v := .slice p.sA p.ss.length p.sc) rfl
 have x8 := P0.out.cell (i := 8) (v := .slice p.fA p.fs.length p.fc) rfl
 have x9 := P0.out.cell (i := 9) (v := .slice p.hA p.hs.length p.hc) rfl
 have x10 := P0.out.cell (i := 10) (v := .slice p.dA p.ds.length p.dc) rfl
 have q0 := P0.out.lt
 have hf := hidP (show Qai p = b12 by rw [HF.out]; simp)
 go_wp2
 go_ret
 exact ⟨by rw [hf.out]; rfl, B0.out⟩
end Go.Proofs.YtbcbdhjeebcleaaGreatDoor.Gen
namespace Go.Proofs.YtbcbdhjeebcleaaGreatDoor.Gen
open ChangeShapes WideShapes ChangeAt RowKit Joins Deep Base
theorem olLacks (v : Value) (xT : TypeId) (w : World) : (Instr.typeAssert (.iface 76 v) xT 176 true).run Tryz.prog w = .ok (.tuple #[.nilIface, .bool false]) w := run_typeAssert_lacksB Tryz.underlying176 (by kernel_rfl) (by kernel_rfl) v xT w
theorem olFault (v : Value) (w : World) : (Go.method 571 76 v "loop.example/g00393/impl.fault").run Tryz.prog w = .ok (305, v) w := by kernel_rfl
theorem olAhead (w : World) : (nilAhead 571 76 (.agg #[]) "loop.example/g00393/impl.fault").run Tryz.prog w = .ok (some false) w := by kernel_rfl
def Qe9 (p : WC) : Array Value := #[.int .i64 p.ro, .int .i64 p.wi, .int .i64 p.le, .int .i64 p.ke, .int .i64 p.size, .slice p.nA p.ns.length p.nc, .slice p.mA p.ms.length p.mc, .slice p.sA p.ss.length p.sc, .slice p.fA p.fs.length p.fc, .slice p.hA p.hs.length p.hc, .slice p.dA p.ds.length p.dc, .slice none 0 0, .slice none 0 0]
theorem Qdj {W : World} {b : Nat} {t : TypeId} {p : WC} (h : Blk W b t (Qe9 p)) : W.rangeAt b 0 (Qad p).toList := fun j v hv => by
 have h2 : (Qe9 p)[j]? = some v := by
  have e : (Qe9 p).toList = (Qad p).toList ++ [.slice none 0 0, .slice none 0 0] := rfl
  rw [← Array.getElem?_toList, e, List.getElem?_append_left (by rcases List.getElem?_eq_some_iff.1 hv with ⟨h, _⟩; exact h)]
  exact hv
 rw [Nat.zero_add]
 exact h.cell h2
theorem Qd8 (p : WC) (hl : p.ns.length <= 1048576) (hT : ∀ x ∈ p.ns, I64 x.te) (a0 a1 : Addr) (b : Nat) (w : World) (hp : At w p.nA p.ns) (hs : Sen w a0 a1) (hb : Blk w b 134 (Qe9 p)) :
 Calls Tryz.prog 47 #[.pointer (some ⟨b, 0, none⟩), (.iface 76 (.agg #[]))] w fun e w' => e = .returned (if oneLead p.ns then .nilIface else (.iface 431 (.pointer (some a1)))) /\ Below w.heap.size w w' := by
 have HF : Hid (∀ W : World, Below w.heap.size w W -> Calls Tryz.prog 305 #[.agg #[], .agg (Qad p)] W fun e w' => e = .returned (if oneLead p.ns then .nilIface else (.iface 431 (.pointer (some a1)))) /\ Below W.heap.size W w') := fun W g => Qfm p hl hT a0 a1 W (hp.below g) (hs.below g)
 have HB := hidP hb
 have nA := olLacks (.agg #[])
 have mF := olFault (.agg #[])
 have nH := olAhead
 clear hp hs hb hT
 generalize (if oneLead p.ns then Value.nilIface else (.iface 431 (.pointer (some a1)))) = ev at HF ⊢
 go_enter Tryz.func47, Tryz.ntmps47
 go_upto_region 4 with fail
 refine wp_region_noPanic ?_
 refine wp_region_held_drew (S := (fun (V : World) => V.rangeAt b 0 (Qad p).toList)) (by kernel_rfl) ?_ (fun hH => ?_)
 . exact Qdj (HB.out.below (Below.refl _ _).drew HB.out.lt)
 refine ztk [0,1,2,3] ?_; repeat (refine ztn (h := ?_); try simp only [zX,zY])
 refine zte ?_
 refine zt1 4 ?_; refine ztn (hy := fun w' hSw => Qbh rfl rfl hSw Tryz.underlying39 (by kernel_rfl)) (h := ?_); try simp only [zX,zY]
 refine zte ?_
 refine zt1 5 ?_; refine ztn (h := ?_); try simp only [zX,zY]
 refine zte ?_
 refine zt1 6 ?_; refine ztn (h := ?_); try simp only [zX,zY]
 refine zte ?_
 refine zt1 7 ?_; refine ztn (h := ?_); try simp only [zX,zY]
 refine zte ?_
 refine zR1 8 (fun K hK => ?_)
 simp only [zG]
 go_simp
 refine (HF.out _ (Below.refl _ _).drew).mono ?_; rintro e w6 ⟨rfl, g6⟩; have g7 := via0 g6 (Below.drew (Below.refl _ _))
 refine hK.out _ _ ?_ (fun hH => ?_)
 . exact Qdj (HB.out.below g7 HB.out.lt)
 clear hK K g6
 try simp only [zX,zY]
 refine zt1 9 ?_; refine ztn (h := ?_); try simp only [zX,zY]
 refine zte ?_
 refine zdn ?_
 go_wp2
 go_ret
 exact ⟨rfl, g7⟩
noncomputable def kOf (p : WC) : Option Bool := if Qai p = true then (if oneLead p.ns = true then none else some true) else some false
theorem kOf_some (p : WC) : (kOf p).isSome = !(leadB p) := by
 unfold kOf leadB
 cases Qai p<;>cases oneLead p.ns<;>rfl
theorem judged_any (p : WC) (h : WAsk p) (a0 a1 : Addr) (b : Nat) {tb : TypeId} (w : World) (hp : WAt w p) (hs : Sen w a0 a1) (hb : Blk w b tb #[(.iface 76 (.agg #[]))]) :
 Calls Tryz.prog 22 #[.agg (Qad p), .slice (some ⟨b, 0, none⟩) 1 1] w fun e w' => e = .returned (evOf a0 a1 (kOf p)) /\ Below w.heap.size w w' := by
 have EW : Hid (∀ W : World, Below w.heap.size w W -> Calls Tryz.prog 46 #[.agg (Qad p)] W fun e w' => e = .returned (.bool (Qai p)) /\ Below W.heap.size W w') := fun W g => Qd3 p h W (hp.below g)
 have EF : Hid (Qai p = true -> ∀ (c : Nat) (W : World), Below w.heap.size w W -> Blk W c 134 (Qe9 p) -> Calls Tryz.prog 47 #[.pointer (some ⟨c, 0, none⟩), (.iface 76 (.agg #[]))] W fun e w' => e = .returned (if oneLead p.ns then .nilIface else (.iface 431 (.pointer (some a1)))) /\ Below W.heap.size W w') := fun hw c W g hc => Qd8 p h.f.nl (fun x hx => by have := world_te hw x hx; exact ⟨by omega, by omega⟩) a0 a1 c W (hp.na.below g) (hs.below g) hc
 have HK : Hid (kOf p = if Qai p = true then (if oneLead p.ns = true then none else some true) else some false) := rfl
 have HS := hidP hs
 have HB := hidP hb
 have P0 := hidP (Blk.new w 39 #[.int .i64 p.ro, .int .i64 p.wi, .int .i64 p.le, .int .i64 p.ke, .int .i64 p.size, .slice p.nA p.ns.length p.nc, .slice p.mA p.ms.length p.mc, .slice p.sA p.ss.length p.sc, .slice p.fA p.fs.length p.fc, .slice p.hA p.hs.length p.hc, .slice p.dA p.ds.length p.dc])
 have B0 := hidP (show Below w.heap.size w (w.alloc (.cells #[.int .i64 p.ro, .int .i64 p.wi, .int .i64 p.le, .int .i64 p.ke, .int .i64 p.size, .slice p.nA p.ns.length p.nc, .slice p.mA p.ms.length p.mc, .slice p.sA p.ss.length p.sc, .slice p.fA p.fs.length p.fc, .slice p.hA p.hs.length p.hc, .slice p.dA p.ds.length p.dc] 39)) from Qaa (Below.refl _ _) _)
 clear hp hs hb h
 generalize Qai p = wb at EW EF HK
 generalize oneLead p.ns = ol at EF HK
 generalize kOf p = kk at HK ⊢
 unfold Qad at EW ⊢
 unfold Qe9 at EF
 go_enter Tryz.func22, Tryz.ntmps22
 go_upto_region 1 with fail
 refine wp_region_lit ?_
 refine Qaj rfl 39 _ rfl (b := w.heap.size) rfl P0.out Tryz.underlying39 infoW ?_
 go_wp2_with fail
 refine (EW.out _ B0.out).mono ?_
 rintro e w1 ⟨rfl, g⟩
 replace B0 := hidP (via0 g B0.out)
 replace P0 := hidP (P0.out.below g P0.out.lt)
 clear g EW
 have HS1 := HS.out.below B0.out
 cases wb
 . have v0 := HS1.v0
   go_wp2
   go_ret
   exact ⟨by rw [HK.out]; rfl, B0.out⟩
 replace EF := hidP (EF.out rfl)
 replace HK := hidP (show kk = if ol = true then none else some true by rw [HK.out]; rfl)
 go_upto_region 3 with fail
 refine wp_region_lit ?_
 refine Qaj rfl 39 _ rfl (b := w.heap.size) rfl P0.out Tryz.underlying39 infoW ?_
 go_wp2_with fail
 have T1 := hidP (Blk.new w1 134 #[.int .i64 p.ro, .int .i64 p.wi, .int .i64 p.le, .int .i64 p.ke, .int .i64 p.size, .slice p.nA p.ns.length p.nc, .slice p.mA p.ms.length p.mc, .slice p.sA p.ss.length p.sc, .slice p.fA p.fs.length p.fc, .slice p.hA p.hs.length p.hc, .slice p.dA p.ds.length p.dc, .slice none 0 0, .slice none 0 0])
 have BT := hidP (show Below w.heap.size w (w1.alloc (.cells #[.int .i64 p.ro, .int .i64 p.wi, .int .i64 p.le, .int .i64 p.ke, .int .i64 p.size, .slice p.nA p.ns.length p.nc, .slice p.mA p.ms.length p.mc, .slice p.sA p.ss.length p.sc, .slice p.fA p.fs.length p.fc, .slice p.hA p.hs.length p.hc, .slice p.dA p.ds.length p.dc, .slice none 0 0, .slice none 0 0] 134)) from Qaa B0.out _)
 generalize w1.alloc (.cells #[.int .i64 p.ro, .int .i64 p.wi, .int .i64 p.le, .int .i64 p.ke, .int .i64 p.size, .slice p.nA p.ns.length p.nc, .slice p.mA p.ms.length p.mc, .slice p.sA p.ss.length p.sc, .slice p.fA p.fs.length p.fc, .slice p.hA p.hs.length p.hc, .slice p.dA p.ds.length p.dc, .slice none 0 0, .slice none 0 0] 134) = w2 at T1 BT ⊢
 generalize w1.heap.size = bt at T1 ⊢
 clear P0 B0 HS1
 go_loopw [18] (fun i W => ∃ n : Nat, i = .int .i64 (n : Int) /\ n <= 1 /\ Hid (Below w.heap.size w W) /\ Hid (Blk W bt 134 #[.int .i64 p.ro, .int .i64 p.wi, .int .i64 p.le, .int .i64 p.ke, .int .i64 p.size, .slice p.nA p.ns.length p.nc, .slice p.mA p.ms.length p.mc, .slice p.sA p.ss.length p.sc, .slice p.fA p.fs.length p.fc, .slice p.hA p.hs.length p.hc, .slice p.dA p.ds.length p.dc, .slice none 0 0, .slice none 0 0]) /\ Hid (1 <= n -> ol = true)) (fun i _ => 1 - (intOf i).toNat)
 case atStart => exact ⟨0, rfl, by omega, BT, T1, fun h => by omega⟩
 case round =>
  clear BT T1
  obtain ⟨n, rfl, hn, hB, hX, hO⟩ := hrel
  rcases (show n = 0 ∨ n = 1 by omega) with rfl | rfl
  . have c0 := (HB.out.below hB.out HB.out.lt).cell (i := 0) (v := (.iface 76 (.agg #[]))) rfl
    have q0 := Nat.lt_of_lt_of_le HB.out.lt hB.out.size
    cases ol
    . go_wp2_with fail
      refine (EF.out _ _ hB.out hX.out).mono ?_
      rintro e w3 ⟨rfl, g⟩
      have B3 := hidP (via0 g hB.out)
      go_wp2
      go_ret
      exact ⟨by rw [HK.out]; rfl, B3.out⟩
    . go_wp2_with fail
      refine (EF.out _ _ hB.out hX.out).mono ?_
      rintro e w3 ⟨rfl, g⟩
      have B3 := hidP (via0 g hB.out)
      have X3 := hidP (hX.out.below g hX.out.lt)
      go_wp2
      exact ⟨⟨1, by go_num, by omega, B3, X3, fun _ => by first | rfl | trivial⟩, by simp [intOf]⟩
  . have ho := hO.out (by omega)
    go_wp2
    go_ret
    exact ⟨by rw [HK.out, ho]; rfl, hB.out⟩
end Go.Proofs.YtbcbdhjeebcleaaGreatDoor.Gen
namespace Go.Proofs.YtbcbdhjeebcleaaGreatDoor.Gen
open ChangeShapes WideShapes ChangeAt RowKit Joins Deep Base
theorem Qgy (p : WC) (h : WAsk p) (a0 a1 : Addr) (w : World) (hp : WAt w p) (hs : Sen w a0 a1) :
 Calls Tryz.prog 7 #[.agg (Qad p)] w fun e w' => e = .returned (.bool (leadB p)) /\ Below w.heap.size w w' := by
 have EJ : Hid (∀ (b : Nat) (W : World), Below w.heap.size w W -> Blk W b 136 #[(.iface 76 (.agg #[]))] -> Calls Tryz.prog 22 #[.agg (Qad p), .slice (some ⟨b, 0, none⟩) 1 1] W fun e w' => e = .returned (evOf a0 a1 (kOf p)) /\ Below W.heap.size W w') := fun b W g hb => judged_any p h a0 a1 b W (hp.below g) (hs.below g) hb
 have EO : Hid (∀ (b : Nat) (W : World), Below w.heap.size w W -> Blk W b 73 #[(.iface 431 (.pointer (some a0))), (.iface 431 (.pointer (some a1)))] -> Calls Tryz.prog 21 #[evOf a0 a1 (kOf p), .slice (some ⟨b, 0, none⟩) 2 2] W fun e w' => e = .returned (.bool (kOf p).isSome) /\ Below W.heap.size W w') := fun b W g hb => Qh2 a0 a1 (kOf p) b W (hs.below g) hb
 have HK : Hid ((kOf p).isSome = !(leadB p)) := kOf_some p
 have P0 := hidP (Blk.new w 39 (Qad p))
 have B0 := hidP (show Below w.heap.size w (w.alloc (.cells (Qad p) 39)) from Qaa (Below.refl _ _) _)
 have SS : Hid (∀ W : World, Below (w.alloc (.cells (Qad p) 39)).heap.size (w.alloc (.cells (Qad p) 39)) W -> (fun (V : World) => Blk V w.heap.size 39 (Qad p) /\ V.cell? ⟨0, 0, none⟩ = some (.iface 431 (.pointer (some a0))) /\ V.cell? ⟨1, 0, none⟩ = some (.iface 431 (.pointer (some a1)))) W) := fun W g => ⟨P0.out.below g P0.out.lt, (hs.below (via0 g B0.out)).v0, (hs.below (via0 g B0.out)).v1⟩
 clear hp hs h
 generalize leadB p = lb at HK ⊢
 generalize (kOf p).isSome = ks at EO HK
 generalize evOf a0 a1 (kOf p) = ev at EJ EO
 go_enter Tryz.func7, Tryz.ntmps7
 go_upto_region 1 with fail
 refine wp_region_noPanic ?_
 refine wp_region_held_drew (S := (fun (V : World) => Blk V w.heap.size 39 (Qad p) /\ V.cell? ⟨0, 0, none⟩ = some (.iface 431 (.pointer (some a0))) /\ V.cell? ⟨1, 0, none⟩ = some (.iface 431 (.pointer (some a1))))) (by kernel_rfl) ?_ (fun hH => ?_)
 . exact SS.out _ (Below.refl _ _).drew
 have G0 : Below (w.alloc (.cells (Qad p) 39)).heap.size (w.alloc (.cells (Qad p) 39)) (w.alloc (.cells (Qad p) 39)).drew := (Below.refl _ _).drew
 generalize (w.alloc (.cells (Qad p) 39)).drew = X at G0 hH ⊢
 generalize w.alloc (.cells (Qad p) 39) = Y at *
 refine zt1 0 ?_; refine ztn (hS := hH) (hy := fun w' hSw => Qbi rfl rfl hSw.1 Tryz.underlying39 infoW) (h := ?_); try simp only [zX,zY]
 refine zte ?_
 refine ztk [1,2,5,6] ?_; repeat (refine ztn (hS := hH) (h := ?_); try simp only [zX,zY])
 refine zte ?_
 refine zR2 3 7 (fun K hK => ?_) (fun K hK => ?_)
 focus
  simp only [zG]
  go_simp
  have G1 := Qaa G0 (.cells #[(.iface 76 (.agg #[]))] 136)
  have L1 := Blk.new X 136 #[(.iface 76 (.agg #[]))]
  refine hK.out _ _ (SS.out _ G1) (fun hH => ?_)
  clear hK K
  try simp only [zX,zY]
  generalize X.alloc (.cells #[(.iface 76 (.agg #[]))] 136) = Y1 at G1 L1 hH ⊢
  refine zR2 4 7 (fun K hK => ?_) (fun K hK => ?_)
  focus
   simp only [zG]
   go_simp
   refine (EJ.out _ _ (via0 G1 B0.out) L1).mono ?_
   rintro e Y2 ⟨rfl, g2⟩
   have G2 := via0 g2 G1
   refine hK.out _ _ (SS.out _ G2) (fun hH => ?_)
   clear hK K g2
   try simp only [zX,zY]
   refine zR1 7 (fun K hK => ?_)
   simp only [zG]
   go_simp
   have G3 := Qaa G2 (.cells #[(.iface 431 (.pointer (some a0))), (.iface 431 (.pointer (some a1)))] 73)
   replace L1 := L1.alloc (.cells #[(.iface 431 (.pointer (some a0))), (.iface 431 (.pointer (some a1)))] 73)
   have L2 := Blk.new Y2 73 #[(.iface 431 (.pointer (some a0))), (.iface 431 (.pointer (some a1)))]
   refine hK.out _ _ (SS.out _ G3) (fun hH => ?_)
   clear hK K
   try simp only [zX,zY]
   generalize Y2.alloc (.cells #[(.iface 431 (.pointer (some a0))), (.iface 431 (.pointer (some a1)))] 73) = Y3 at G3 L1 L2 hH ⊢
  rotate_left
  focus
   simp only [zG]
   go_simp
   have G2 := Qaa G1 (.cells #[(.iface 431 (.pointer (some a0))), (.iface 431 (.pointer (some a1)))] 73)
   replace L1 := L1.alloc (.cells #[(.iface 431 (.pointer (some a0))), (.iface 431 (.pointer (some a1)))] 73)
   have L2 := Blk.new Y1 73 #[(.iface 431 (.pointer (some a0))), (.iface 431 (.pointer (some a1)))]
   refine hK.out _ _ (SS.out _ G2) (fun hH => ?_)
   clear hK K
   try simp only [zX,zY]
   generalize Y1.alloc (.cells #[(.iface 431 (.pointer (some a0))), (.iface 431 (.pointer (some a1)))] 73) = Y2 at G2 L1 L2 hH ⊢
   refine zR1 4 (fun K hK => ?_)
   simp only [zG]
   go_simp
   refine (EJ.out _ _ (via0 G2 B0.out) L1).mono ?_
   rintro e Y3 ⟨rfl, g3⟩
   have G3 := via0 g3 G2
   replace L2 := L2.below g3 L2.lt
   refine hK.out _ _ (SS.out _ G3) (fun hH => ?_)
   clear hK K g3
   try simp only [zX,zY]
 rotate_left 2
 focus
  simp only [zG]
  go_simp
  have G1 := Qaa G0 (.cells #[(.iface 431 (.pointer (some a0))), (.iface 431 (.pointer (some a1)))] 73)
  have L2 := Blk.new X 73 #[(.iface 431 (.pointer (some a0))), (.iface 431 (.pointer (some a1)))]
  refine hK.out _ _ (SS.out _ G1) (fun hH => ?_)
  clear hK K
  try simp only [zX,zY]
  generalize X.alloc (.cells #[(.iface 431 (.pointer (some a0))), (.iface 431 (.pointer (some a1)))] 73) = Y1 at G1 L2 hH ⊢
  refine zR1 3 (fun K hK => ?_)
  simp only [zG]
  go_simp
  have G2 := Qaa G1 (.cells #[(.iface 76 (.agg #[]))] 136)
  replace L2 := L2.alloc (.cells #[(.iface 76 (.agg #[]))] 136)
  have L1 := Blk.new Y1 136 #[(.iface 76 (.agg #[]))]
  refine hK.out _ _ (SS.out _ G2) (fun hH => ?_)
  clear hK K
  try simp only [zX,zY]
  generalize Y1.alloc (.cells #[(.iface 76 (.agg #[]))] 136) = Y2 at G2 L2 L1 hH ⊢
  refine zR1 4 (fun K hK => ?_)
  simp only [zG]
  go_simp
  refine (EJ.out _ _ (via0 G2 B0.out) L1).mono ?_
  rintro e Y3 ⟨rfl, g3⟩
  have G3 := via0 g3 G2
  replace L2 := L2.below g3 L2.lt
  refine hK.out _ _ (SS.out _ G3) (fun hH => ?_)
  clear hK K g3
  try simp only [zX,zY]
 all_goals
  refine zR1 8 (fun K hK => ?_)
  simp only [zG]
  go_simp
  refine (EO.out _ _ (via0 G3 B0.out) L2).mono ?_
  rintro e Y4 ⟨rfl, g4⟩
  have G4 := via0 g4 G3
  refine hK.out _ _ (SS.out _ G4) (fun hH => ?_)
  clear hK K g4
  try simp only [zX,zY]
  refine ztk [9,10] ?_; repeat (refine ztn (hS := hH) (h := ?_); try simp only [zX,zY])
  refine zte ?_
  refine zdn ?_
  go_wp2
  go_ret
  exact ⟨by rw [HK.out]; simp, via0 G4 B0.out⟩
end Go.Proofs.YtbcbdhjeebcleaaGreatDoor.Gen
