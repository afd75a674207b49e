/-
  The program's feedsRight, walked. No condition but the sizes of lists.
-/
import Derived.Test.YtbcbdhjeebcleaaGreatDoorPeI1
set_option linter.unusedVariables false
set_option linter.unusedSimpArgs false
set_option maxRecDepth 100000
set_option maxHeartbeats 8000000
namespace Go.Proofs.YtbcbdhjeebcleaaGreatDoor.Gen
open ChangeShapes WideShapes ChangeAt RowKit Joins Deep Base
theorem Blk.row31 {W : World} {B : Nat} {t : TypeId} {v0 v1 v2 v3 v4 v5 v6 v7 v8 v9 v10 v11 v12 v13 v14 v15 v16 v17 v18 v19 v20 v21 v22 v23 v24 v25 v26 v27 v28 v29 v30 : Value} (p : Blk W B t #[v0, v1, v2, v3, v4, v5, v6, v7, v8, v9, v10, v11, v12, v13, v14, v15, v16, v17, v18, v19, v20, v21, v22, v23, v24, v25, v26, v27, v28, v29, v30]) :
 W.cell? ⟨B, 0, none⟩ = some v0 /\ W.cell? ⟨B, 1, none⟩ = some v1 /\ W.cell? ⟨B, 2, none⟩ = some v2 /\ W.cell? ⟨B, 3, none⟩ = some v3 /\ W.cell? ⟨B, 4, none⟩ = some v4 /\ W.cell? ⟨B, 5, none⟩ = some v5 /\ W.cell? ⟨B, 6, none⟩ = some v6 /\ W.cell? ⟨B, 7, none⟩ = some v7 /\ W.cell? ⟨B, 8, none⟩ = some v8 /\ W.cell? ⟨B, 9, none⟩ = some v9 /\ W.cell? ⟨B, 10, none⟩ = some v10 /\ W.cell? ⟨B, 11, none⟩ = some v11 /\ W.cell? ⟨B, 11 + 1, none⟩ = some v12 /\ W.cell? ⟨B, 11 + 2, none⟩ = some v13 /\ W.cell? ⟨B, 11 + 3, none⟩ = some v14 /\ W.cell? ⟨B, 15, none⟩ = some v15 /\ W.cell? ⟨B, 16, none⟩ = some v16 /\ W.cell? ⟨B, 17, none⟩ = some v17 /\ W.cell? ⟨B, 18, none⟩ = some v18 /\ W.cell? ⟨B, 19, none⟩ = some v19 /\ W.cell? ⟨B, 20, none⟩ = some v20 /\ W.cell? ⟨B, 21, none⟩ = some v21 /\ W.cell? ⟨B, 22, none⟩ = some v22 /\ W.cell? ⟨B, 22 + 1, none⟩ = some v23 /\ W.cell? ⟨B, 22 + 2, none⟩ = some v24 /\ W.cell? ⟨B, 22 + 3, none⟩ = some v25 /\ W.cell? ⟨B, 22 + 4, none⟩ = some v26 /\ W.cell? ⟨B, 22 + 5, none⟩ = some v27 /\ W.cell? ⟨B, 28, none⟩ = some v28 /\ W.cell? ⟨B, 28 + 1, none⟩ = some v29 /\ W.cell? ⟨B, 30, none⟩ = some v30 :=
 ⟨p.cell (by rfl), p.cell (by rfl), p.cell (by rfl), p.cell (by rfl), p.cell (by rfl), p.cell (by rfl), p.cell (by rfl), p.cell (by rfl), p.cell (by rfl), p.cell (by rfl), p.cell (by rfl), p.cell (by rfl), p.cell (by rfl), p.cell (by rfl), p.cell (by rfl), p.cell (by rfl), p.cell (by rfl), p.cell (by rfl), p.cell (by rfl), p.cell (by rfl), p.cell (by rfl), p.cell (by rfl), p.cell (by rfl), p.cell (by rfl), p.cell (by rfl), p.cell (by rfl), p.cell (by rfl), p.cell (by rfl), p.cell (by rfl), p.cell (by rfl), p.cell (by rfl)⟩
theorem Qck (te vo base bt : Int) (A : Option Addr) (cap : Nat) (l : List En) (hl : l.length <= 1048576) (x : KC) (w : World) (hA : At w A l) :
 Calls Tryz.prog 155 #[.agg #[.int .i64 te, .int .i64 vo, .int .i64 base, .int .i64 bt, .slice A l.length cap, .slice x.rA x.rs.length x.rc, .slice x.mA x.ms.length x.mc, .slice x.gA x.gs.length x.gc, .int .i64 x.time, .slice x.dA x.ds.length x.dc, .slice x.lA x.ls.length x.lc]] w fun e w' => e = .returned (.int .i64 (Qbe base l)) /\ Below w.heap.size w w' := by
 obtain ⟨ln, hln⟩ : ∃ z, Qbe base l = z := ⟨_, rfl⟩
 obtain ⟨lt, hlt0⟩ : ∃ z, Qd1 bt l = z := ⟨_, rfl⟩
 have P0 := Blk.new w 58 #[.int .i64 te, .int .i64 vo, .int .i64 base, .int .i64 bt, .slice A l.length cap, .slice x.rA x.rs.length x.rc, .slice x.mA x.ms.length x.mc, .slice x.gA x.gs.length x.gc, .int .i64 x.time, .slice x.dA x.ds.length x.dc, .slice x.lA x.ls.length x.lc]
 have B0 : Below w.heap.size w (w.alloc (.cells #[.int .i64 te, .int .i64 vo, .int .i64 base, .int .i64 bt, .slice A l.length cap, .slice x.rA x.rs.length x.rc, .slice x.mA x.ms.length x.mc, .slice x.gA x.gs.length x.gc, .int .i64 x.time, .slice x.dA x.ds.length x.dc, .slice x.lA x.ls.length x.lc] 58)) := Qaa (Below.refl _ w) _
 have E6 : Hid (Calls Tryz.prog 169 #[.agg #[.int .i64 base, .int .i64 bt, .slice A l.length cap]] (w.alloc (.cells #[.int .i64 te, .int .i64 vo, .int .i64 base, .int .i64 bt, .slice A l.length cap, .slice x.rA x.rs.length x.rc, .slice x.mA x.ms.length x.mc, .slice x.gA x.gs.length x.gc, .int .i64 x.time, .slice x.dA x.ds.length x.dc, .slice x.lA x.ls.length x.lc] 58)) fun e w' => e = .returned (.tuple #[.int .i64 ln, .int .i64 lt]) /\ Below (w.alloc (.cells #[.int .i64 te, .int .i64 vo, .int .i64 base, .int .i64 bt, .slice A l.length cap, .slice x.rA x.rs.length x.rc, .slice x.mA x.ms.length x.mc, .slice x.gA x.gs.length x.gc, .int .i64 x.time, .slice x.dA x.ds.length x.dc, .slice x.lA x.ls.length x.lc] 58)).heap.size (w.alloc (.cells #[.int .i64 te, .int .i64 vo, .int .i64 base, .int .i64 bt, .slice A l.length cap, .slice x.rA x.rs.length x.rc, .slice x.mA x.ms.length x.mc, .slice x.gA x.gs.length x.gc, .int .i64 x.time, .slice x.dA x.ds.length x.dc, .slice x.lA x.ls.length x.lc] 58)) w') := by have h := Qdh base bt A cap l (by omega) (w.alloc (.cells #[.int .i64 te, .int .i64 vo, .int .i64 base, .int .i64 bt, .slice A l.length cap, .slice x.rA x.rs.length x.rc, .slice x.mA x.ms.length x.mc, .slice x.gA x.gs.length x.gc, .int .i64 x.time, .slice x.dA x.ds.length x.dc, .slice x.lA x.ls.length x.lc] 58)) (hA.below B0); rw [hln, hlt0] at h; exact h
 rw [hln]
 obtain ⟨u0, u1, u2, u3, u4, u5, u6, u7, u8, u9, u10⟩ := P0.row11
 clear P0 hA hln hlt0
 go_enter Tryz.func155, Tryz.ntmps155
 go_wp2_with fail
 refine E6.out.mono ?_
 rintro e w1 ⟨rfl, g1⟩
 go_wp2
 go_ret
 exact ⟨rfl, via0 g1 B0⟩
theorem Qen (ro wi le ke id te vo base bt role com su size : Int) (A vA nA pA dA hA0 : Option Addr) (cap vn vc nn nc pn pc dc hc : Nat) (l : List En) (ns ps : List Int) (db : List UInt8) (hs : List RpC) (x y : KC) (hl : l.length <= 1048576) (hnn : nn = ns.length) (hpn : pn = ps.length) (hnl : nn <= 1048576) (hpl : pn <= 1048576) (hln : 0 <= Qbe base l /\ Qbe base l <= 300) (w : World) (hA : At w A l) (hN : At w nA ns) (hP : At w pA ps) :
 Calls Tryz.prog 154 #[.agg #[.int .i64 te, .int .i64 vo, .int .i64 base, .int .i64 bt, .slice A l.length cap, .slice x.rA x.rs.length x.rc, .slice x.mA x.ms.length x.mc, .slice x.gA x.gs.length x.gc, .int .i64 x.time, .slice x.dA x.ds.length x.dc, .slice x.lA x.ls.length x.lc, .int .i64 ro, .int .i64 wi, .int .i64 le, .int .i64 ke, .int .i64 size, .int .i64 id, .int .i64 role, .slice vA vn vc, .slice nA nn nc, .slice pA pn pc, .int .i64 com, .slice y.rA y.rs.length y.rc, .slice y.mA y.ms.length y.mc, .slice y.gA y.gs.length y.gc, .int .i64 y.time, .slice y.dA y.ds.length y.dc, .slice y.lA y.ls.length y.lc, .slice dA db.length dc, .int .i64 su, .slice hA0 hs.length hc]] w fun e w' => e = .returned (.bool (decide ((nn : Int) = size) && ns.all (fun z => inB z 1 (Qbe base l + 1)) && decide ((pn : Int) = size) && ps.all (fun z => inB z 0 (Qbe base l)))) /\ Below w.heap.size w w' := by
 have P0 := hidP (Blk.new w 257 #[.int .i64 te, .int .i64 vo, .int .i64 base, .int .i64 bt, .slice A l.length cap, .slice x.rA x.rs.length x.rc, .slice x.mA x.ms.length x.mc, .slice x.gA x.gs.length x.gc, .int .i64 x.time, .slice x.dA x.ds.length x.dc, .slice x.lA x.ls.length x.lc, .int .i64 ro, .int .i64 wi, .int .i64 le, .int .i64 ke, .int .i64 size, .int .i64 id, .int .i64 role, .slice vA vn vc, .slice nA nn nc, .slice pA pn pc, .int .i64 com, .slice y.rA y.rs.length y.rc, .slice y.mA y.ms.length y.mc, .slice y.gA y.gs.length y.gc, .int .i64 y.time, .slice y.dA y.ds.length y.dc, .slice y.lA y.ls.length y.lc, .slice dA db.length dc, .int .i64 su, .slice hA0 hs.length hc])
 have B0 : Below w.heap.size w (w.alloc (.cells #[.int .i64 te, .int .i64 vo, .int .i64 base, .int .i64 bt, .slice A l.length cap, .slice x.rA x.rs.length x.rc, .slice x.mA x.ms.length x.mc, .slice x.gA x.gs.length x.gc, .int .i64 x.time, .slice x.dA x.ds.length x.dc, .slice x.lA x.ls.length x.lc, .int .i64 ro, .int .i64 wi, .int .i64 le, .int .i64 ke, .int .i64 size, .int .i64 id, .int .i64 role, .slice vA vn vc, .slice nA nn nc, .slice pA pn pc, .int .i64 com, .slice y.rA y.rs.length y.rc, .slice y.mA y.ms.length y.mc, .slice y.gA y.gs.length y.gc, .int .i64 y.time, .slice y.dA y.ds.length y.dc, .slice y.lA y.ls.length y.lc, .slice dA db.length dc, .int .i64 su, .slice hA0 hs.length hc] 257)) := Qaa (Below.refl _ w) _
 have E1 := hidP (Qck te vo base bt A cap l hl x (w.alloc (.cells #[.int .i64 te, .int .i64 vo, .int .i64 base, .int .i64 bt, .slice A l.length cap, .slice x.rA x.rs.length x.rc, .slice x.mA x.ms.length x.mc, .slice x.gA x.gs.length x.gc, .int .i64 x.time, .slice x.dA x.ds.length x.dc, .slice x.lA x.ls.length x.lc, .int .i64 ro, .int .i64 wi, .int .i64 le, .int .i64 ke, .int .i64 size, .int .i64 id, .int .i64 role, .slice vA vn vc, .slice nA nn nc, .slice pA pn pc, .int .i64 com, .slice y.rA y.rs.length y.rc, .slice y.mA y.ms.length y.mc, .slice y.gA y.gs.length y.gc, .int .i64 y.time, .slice y.dA y.ds.length y.dc, .slice y.lA y.ls.length y.lc, .slice dA db.length dc, .int .i64 su, .slice hA0 hs.length hc] 257)) (hA.below B0))
 generalize hlz : Qbe base l = ln at *
 have E2 : Hid (∀ (W : World) (Bl : Nat), Below w.heap.size w W -> Blk W Bl 223 #[.int .i64 ln] -> Calls Tryz.prog 81 #[.slice nA nn nc, .func (.func 171) #[] #[.pointer (some ⟨Bl, 0, none⟩)]] W fun e w' => e = .returned (.bool (ns.all (fun z => inB z 1 (ln + 1)))) /\ Below W.heap.size W w') := fun W Bl g hb => by have h := Qfz ln hln Bl nA nc ns (by omega) W hb (hN.below g); rw [← hnn] at h; exact h
 have E3 : Hid (∀ (W : World) (Bl : Nat), Below w.heap.size w W -> Blk W Bl 223 #[.int .i64 ln] -> Calls Tryz.prog 81 #[.slice pA pn pc, .func (.func 172) #[] #[.pointer (some ⟨Bl, 0, none⟩)]] W fun e w' => e = .returned (.bool (ps.all (fun z => inB z 0 ln))) /\ Below W.heap.size W w') := fun W Bl g hb => by have h := Qfy ln hln Bl pA pc ps (by omega) W hb (hP.below g); rw [← hpn] at h; exact h
 generalize ns.all (fun z => inB z 1 (ln + 1)) = b1 at *
 generalize ps.all (fun z => inB z 0 ln) = b2 at *
 have hmf : ∀ (fn : Fn) (first cap : Array Value) (w : World), (Instr.makeFunc fn first cap).run Tryz.prog w = .ok (.func fn first cap) w := fun _ _ _ _ => rfl
 have HB0 := hidP B0
 clear hA hN hP hnn hpn hlz hl B0
 obtain ⟨c0, c1, c2, c3, c4, c5, c6, c7, c8, c9, c10, -, -, -, -, -, -, -, -, -, -, -, -, -, -, -, -, -, -, -, -⟩ := P0.out.row31
 go_enter Tryz.func154, Tryz.ntmps154
 go_wp2_with fail
 refine E1.out.mono ?_
 rintro e w1 ⟨rfl, g1⟩
 have B1 := via0 g1 HB0.out
 have PL := Blk.new w1 223 #[.int .i64 ln]
 have P1 := (P0.out.below g1 P0.out.lt).alloc (.cells #[.int .i64 ln] 223)
 have B2 : Below w.heap.size w (w1.alloc (.cells #[.int .i64 ln] 223)) := Qaa B1 _
 have HX2 := hidP (And.intro B2 (And.intro PL P1))
 clear c0 c1 c2 c3 c4 c5 c6 c7 c8 c9 c10 g1 B1 PL P1 B2 P0 E1 HB0
 obtain ⟨-, -, -, -, -, -, -, -, -, -, -, -, -, -, -, c15, -, -, -, c19, c20, -, -, -, -, -, -, -, -, -, -⟩ := HX2.out.2.2.row31
 have q0 := HX2.out.2.2.lt
 have q1 := HX2.out.2.1.lt
 by_cases h1 : (nn : Int) = size
 case neg =>
  go_wp2
  go_ret
  exact ⟨by simp [h1], HX2.out.1⟩
 subst h1
 go_wp2_with fail
 refine (E2.out _ _ HX2.out.1 HX2.out.2.1).mono ?_
 rintro e w3 ⟨rfl, g3⟩
 have HX3 := hidP (And.intro (via0 g3 HX2.out.1) (And.intro (HX2.out.2.1.below g3 HX2.out.2.1.lt) (HX2.out.2.2.below g3 HX2.out.2.2.lt)))
 clear c15 c19 c20 q0 q1 g3 HX2 E2
 obtain ⟨-, -, -, -, -, -, -, -, -, -, -, -, -, -, -, c15, -, -, -, -, c20, -, -, -, -, -, -, -, -, -, -⟩ := HX3.out.2.2.row31
 have q0 := HX3.out.2.2.lt
 have q1 := HX3.out.2.1.lt
 cases b1
 . go_wp2
   go_ret
   exact ⟨by simp, HX3.out.1⟩
 by_cases h2 : pn = nn
 case neg =>
  have hf1 : Hid (decide ((pn : Int) = (nn : Int)) = false) := decide_eq_false (fun h => h2 (Int.ofNat.inj h))
  have hb1 : ((pn : Int) == (nn : Int)) = false := beq_eq_false_iff_ne.2 (fun h => h2 (Int.ofNat.inj h))
  go_wp2
  go_ret
  exact ⟨by rw [hf1.out]; simp, HX3.out.1⟩
 subst h2
 go_wp2_with fail
 refine (E3.out _ _ HX3.out.1 HX3.out.2.1).mono ?_
 rintro e w4 ⟨rfl, g4⟩
 have B4 := hidP (via0 g4 HX3.out.1)
 cases b2
 . go_wp2
   go_ret
   exact ⟨by simp, B4.out⟩
 . go_wp2
   go_ret
   exact ⟨by simp, B4.out⟩
end Go.Proofs.YtbcbdhjeebcleaaGreatDoor.Gen
namespace Go.Proofs.YtbcbdhjeebcleaaGreatDoor.Gen
open ChangeShapes WideShapes ChangeAt RowKit Joins Deep Base
theorem hold1_any (ro wi le ke id te vo base bt role com su size : Int) (A vA nA pA dA hA0 : Option Addr) (cap vn vc nn nc pn pc dc hc : Nat) (l : List En) (ns ps : List Int) (db : List UInt8) (hs : List RpC) (x y : KC) (zk zf zt ze zi zj zm : Int) (zA : Option Addr) (zc : Nat) (zl : List En) (zo : Bool) (zs : ByteArray) (rb : Bool) (Bn : Nat) (w : World) (hB : Blk w Bn 257 #[.int .i64 te, .int .i64 vo, .int .i64 base, .int .i64 bt, .slice A l.length cap, .slice x.rA x.rs.length x.rc, .slice x.mA x.ms.length x.mc, .slice x.gA x.gs.length x.gc, .int .i64 x.time, .slice x.dA x.ds.length x.dc, .slice x.lA x.ls.length x.lc, .int .i64 ro, .int .i64 wi, .int .i64 le, .int .i64 ke, .int .i64 size, .int .i64 id, .int .i64 role, .slice vA vn vc, .slice nA nn nc, .slice pA pn pc, .int .i64 com, .slice y.rA y.rs.length y.rc, .slice y.mA y.ms.length y.mc, .slice y.gA y.gs.length y.gc, .int .i64 y.time, .slice y.dA y.ds.length y.dc, .slice y.lA y.ls.length y.lc, .slice dA db.length dc, .int .i64 su, .slice hA0 hs.length hc])
 (hR : ∀ W : World, Below w.heap.size w W -> Calls Tryz.prog 79 #[.agg #[.int .i64 zk, .int .i64 zf, .int .i64 zt, .int .i64 ze, .int .i64 zi, .int .i64 zj, .int .i64 zm, .slice zA zl.length zc, .bool zo, .string zs], .int .i64 size] W fun e w' => e = .returned (.bool rb) /\ Below W.heap.size W w') :
 Calls Tryz.prog 184 #[.agg #[.int .i64 zk, .int .i64 zf, .int .i64 zt, .int .i64 ze, .int .i64 zi, .int .i64 zj, .int .i64 zm, .slice zA zl.length zc, .bool zo, .string zs], .pointer (some ⟨Bn, 0, none⟩)] w fun e w' => e = .returned (.bool (rb && zf == id)) /\ Below w.heap.size w w' := by
 have B0 : Below w.heap.size w (w.alloc (.cells #[.int .i64 zk, .int .i64 zf, .int .i64 zt, .int .i64 ze, .int .i64 zi, .int .i64 zj, .int .i64 zm, .slice zA zl.length zc, .bool zo, .string zs] 114)) := Qaa (Below.refl _ w) _
 have HN : Hid (∀ W : World, Below (w.alloc (.cells #[.int .i64 zk, .int .i64 zf, .int .i64 zt, .int .i64 ze, .int .i64 zi, .int .i64 zj, .int .i64 zm, .slice zA zl.length zc, .bool zo, .string zs] 114)).heap.size (w.alloc (.cells #[.int .i64 zk, .int .i64 zf, .int .i64 zt, .int .i64 ze, .int .i64 zi, .int .i64 zj, .int .i64 zm, .slice zA zl.length zc, .bool zo, .string zs] 114)) W -> Blk W Bn 257 #[.int .i64 te, .int .i64 vo, .int .i64 base, .int .i64 bt, .slice A l.length cap, .slice x.rA x.rs.length x.rc, .slice x.mA x.ms.length x.mc, .slice x.gA x.gs.length x.gc, .int .i64 x.time, .slice x.dA x.ds.length x.dc, .slice x.lA x.ls.length x.lc, .int .i64 ro, .int .i64 wi, .int .i64 le, .int .i64 ke, .int .i64 size, .int .i64 id, .int .i64 role, .slice vA vn vc, .slice nA nn nc, .slice pA pn pc, .int .i64 com, .slice y.rA y.rs.length y.rc, .slice y.mA y.ms.length y.mc, .slice y.gA y.gs.length y.gc, .int .i64 y.time, .slice y.dA y.ds.length y.dc, .slice y.lA y.ls.length y.lc, .slice dA db.length dc, .int .i64 su, .slice hA0 hs.length hc] /\ Blk W w.heap.size 114 #[.int .i64 zk, .int .i64 zf, .int .i64 zt, .int .i64 ze, .int .i64 zi, .int .i64 zj, .int .i64 zm, .slice zA zl.length zc, .bool zo, .string zs]) := fun W g => ⟨(hB.alloc _).below g (hB.alloc _).lt, (Blk.new w 114 #[.int .i64 zk, .int .i64 zf, .int .i64 zt, .int .i64 ze, .int .i64 zi, .int .i64 zj, .int .i64 zm, .slice zA zl.length zc, .bool zo, .string zs]).below g (Blk.new w 114 #[.int .i64 zk, .int .i64 zf, .int .i64 zt, .int .i64 ze, .int .i64 zi, .int .i64 zj, .int .i64 zm, .slice zA zl.length zc, .bool zo, .string zs]).lt⟩
 have HR := hidP hR
 have HB0 := hidP B0
 obtain ⟨N0, Z0⟩ := HN.out _ (Below.refl _ _)
 have c15 : (w.alloc (.cells #[.int .i64 zk, .int .i64 zf, .int .i64 zt, .int .i64 ze, .int .i64 zi, .int .i64 zj, .int .i64 zm, .slice zA zl.length zc, .bool zo, .string zs] 114)).cell? ⟨Bn, 15, none⟩ = some (.int .i64 size) := N0.cell rfl
 have q0 := N0.lt
 clear hB hR B0 N0 Z0
 go_enter Tryz.func184, Tryz.ntmps184
 go_wp2_with fail
 refine (HR.out _ HB0.out).mono ?_
 rintro e w1 ⟨rfl, g1⟩
 have B1 := via0 g1 HB0.out
 obtain ⟨N1, Z1⟩ := HN.out _ g1
 have c16 : w1.cell? ⟨Bn, 16, none⟩ = some (.int .i64 id) := N1.cell rfl
 have e1 : w1.cell? ⟨w.heap.size, 1, none⟩ = some (.int .i64 zf) := Z1.cell rfl
 have q1 := N1.lt
 have q2 := Z1.lt
 clear N1 Z1 g1 c15 q0
 cases rb
 . go_wp2
   go_ret
   exact ⟨by simp, B1⟩
 . by_cases h : zf = id
   . subst h
     go_wp2
     go_ret
     exact ⟨by simp, B1⟩
   . have hb : (zf == id) = false := beq_eq_false_iff_ne.2 h
     go_wp2
     go_ret
     exact ⟨by simp [hb], B1⟩
theorem Qha (rpcF : RpP -> Bool) (ro wi le ke id te vo base bt role com su size : Int) (A vA nA pA dA hA0 : Option Addr) (cap vn vc nn nc pn pc dc hc : Nat) (l : List En) (ns ps : List Int) (db : List UInt8) (hs : List RpC) (x y : KC) (hhl : hs.length <= 1048576) (Bn : Nat) (w : World) (hB : Blk w Bn 257 #[.int .i64 te, .int .i64 vo, .int .i64 base, .int .i64 bt, .slice A l.length cap, .slice x.rA x.rs.length x.rc, .slice x.mA x.ms.length x.mc, .slice x.gA x.gs.length x.gc, .int .i64 x.time, .slice x.dA x.ds.length x.dc, .slice x.lA x.ls.length x.lc, .int .i64 ro, .int .i64 wi, .int .i64 le, .int .i64 ke, .int .i64 size, .int .i64 id, .int .i64 role, .slice vA vn vc, .slice nA nn nc, .slice pA pn pc, .int .i64 com, .slice y.rA y.rs.length y.rc, .slice y.mA y.ms.length y.mc, .slice y.gA y.gs.length y.gc, .int .i64 y.time, .slice y.dA y.ds.length y.dc, .slice y.lA y.ls.length y.lc, .slice dA db.length dc, .int .i64 su, .slice hA0 hs.length hc]) (hH : At w hA0 hs)
 (hR : ∀ z ∈ hs, ∀ W : World, Below w.heap.size w W -> Calls Tryz.prog 79 #[.agg (Cel.cs z).toArray, .int .i64 size] W fun e w' => e = .returned (.bool (rpcF z.p)) /\ Below W.heap.size W w') :
 Calls Tryz.prog 77 #[.slice hA0 hs.length hc, .func (.func 184) #[] #[.pointer (some ⟨Bn, 0, none⟩)]] w fun e w' => e = .returned (.bool (Qcp rpcF id hs)) /\ Below w.heap.size w w' := by
 have HA := hidP hH
 have HB := hidP hB
 have HR := hidP hR
 clear hH hB hR
 go_enter Tryz.func77, Tryz.ntmps77
 go_wp2
 go_loopw [9] (fun i w' => ∃ (n : Nat), i = .int .i64 (n : Int) /\ n <= hs.length /\ Hid ((hs.take n).all (fun z => rpcF z.p && z.frm == id) = true) /\ Below w.heap.size w w') (fun i _ => hs.length - (intOf i).toNat)
 case atStart => exact ⟨0, rfl, by omega, rfl, Below.refl _ _⟩
 case round =>
  obtain ⟨n, rfl, hn, hall, hbl⟩ := hrel
  by_cases hlt : n < hs.length
  . obtain ⟨b, o, rfl, hbs, hIn⟩ : ∃ b o, hA0 = some ⟨b, o, none⟩ /\ b < w.heap.size /\ In w b o hs := by
     rcases HA.out with h | h
     . subst h; simp at hlt
     . exact h
    obtain ⟨e0, e1, e2, e3, e4, e5, e6, e7, e8, e9⟩ := (hIn.below hbs hbl).getRpC n hlt
    have hb1 : b < wr.heap.size := Nat.lt_of_lt_of_le hbs hbl.size
    have hsu := Qbb (fun z : RpC => rpcF z.p && z.frm == id) hlt
    have hno := Qce (fun z : RpC => rpcF z.p && z.frm == id) hlt
    generalize hbb : (rpcF hs[n].p && hs[n].frm == id) = bb at hsu hno
    have Hsu := hidP hsu
    have Hno := hidP hno
    clear hsu hno
    have HRz := HR.out hs[n] (List.getElem_mem hlt)
    have HBr := hidP (HB.out.below hbl HB.out.lt)
    generalize hs[n] = z at e0 e1 e2 e3 e4 e5 e6 e7 e8 e9 hbb HRz
    obtain ⟨zk, zf, zt, ze, zi, zj, zm, zA, zc, zl, zo, zs⟩ := z
    simp only [RpC.p, Cel.cs] at e0 e1 e2 e3 e4 e5 e6 e7 e8 e9 hbb HRz
    generalize rpcF ⟨zk, zf, zt, ze, zi, zj, zm, zl, zo, zs⟩ = rb at hbb HRz
    have HC : Hid (∀ W : World, Below wr.heap.size wr W -> Calls Tryz.prog 184 #[.agg #[.int .i64 zk, .int .i64 zf, .int .i64 zt, .int .i64 ze, .int .i64 zi, .int .i64 zj, .int .i64 zm, .slice zA zl.length zc, .bool zo, .string zs], .pointer (some ⟨Bn, 0, none⟩)] W fun e w' => e = .returned (.bool bb) /\ Below W.heap.size W w') := fun W g => hbb ▸ hold1_any ro wi le ke id te vo base bt role com su size A vA nA pA dA (some ⟨b, o, none⟩) cap vn vc nn nc pn pc dc hc l ns ps db hs x y zk zf zt ze zi zj zm zA zc zl zo zs rb Bn W (HBr.out.below g HBr.out.lt) (fun V g' => HRz V (via0 g' (via0 g hbl)))
    have hi0 : (0 : Int) <= (n : Int) := by omega
    have hi1 : (n : Int) < (hs.length : Int) := by omega
    clear hbb HRz
    cases bb
    . have HN := hidP (Hno.out rfl)
      clear Hno Hsu
      go_wp2_with fail
      refine (HC.out _ (Qaa (Below.refl _ _) _)).mono ?_
      rintro e w1 ⟨rfl, g1⟩
      go_wp2
      go_ret
      exact ⟨by unfold Qcp; rw [HN.out]; rfl, via0 g1 (Qaa hbl _)⟩
    . clear Hno
      go_wp2_with fail
      refine (HC.out _ (Qaa (Below.refl _ _) _)).mono ?_
      rintro e w1 ⟨rfl, g1⟩
      go_wp2
      exact ⟨⟨n + 1, by go_num, by omega, by show _ = _; rw [Hsu.out, hall.out]; rfl, via0 g1 (Qaa hbl _)⟩, by simp [intOf]; omega⟩
  . have e : hs.take n = hs := List.take_of_length_le (by omega)
    go_wp2
    go_ret
    have h := hall.out
    rw [e] at h
    exact ⟨by unfold Qcp; rw [h]; rfl, hbl⟩
theorem Qel (rpcF : RpP -> Bool) (ro wi le ke id te vo base bt role com su size : Int) (A vA nA pA dA hA0 : Option Addr) (cap vn vc nn nc pn pc dc hc : Nat) (l : List En) (ns ps : List Int) (db : List UInt8) (hs : List RpC) (x y : KC) (hhl : hs.length <= 1048576) (w : World) (hH : At w hA0 hs)
 (hR : ∀ z ∈ hs, ∀ W : World, Below w.heap.size w W -> Calls Tryz.prog 79 #[.agg (Cel.cs z).toArray, .int .i64 size] W fun e w' => e = .returned (.bool (rpcF z.p)) /\ Below W.heap.size W w') :
 Calls Tryz.prog 158 #[.agg #[.int .i64 te, .int .i64 vo, .int .i64 base, .int .i64 bt, .slice A l.length cap, .slice x.rA x.rs.length x.rc, .slice x.mA x.ms.length x.mc, .slice x.gA x.gs.length x.gc, .int .i64 x.time, .slice x.dA x.ds.length x.dc, .slice x.lA x.ls.length x.lc, .int .i64 ro, .int .i64 wi, .int .i64 le, .int .i64 ke, .int .i64 size, .int .i64 id, .int .i64 role, .slice vA vn vc, .slice nA nn nc, .slice pA pn pc, .int .i64 com, .slice y.rA y.rs.length y.rc, .slice y.mA y.ms.length y.mc, .slice y.gA y.gs.length y.gc, .int .i64 y.time, .slice y.dA y.ds.length y.dc, .slice y.lA y.ls.length y.lc, .slice dA db.length dc, .int .i64 su, .slice hA0 hs.length hc]] w fun e w' => e = .returned (.bool (decide (hs.length <= 40) && Qcp rpcF id hs)) /\ Below w.heap.size w w' := by
 have B0 : Below w.heap.size w (w.alloc (.cells #[.int .i64 te, .int .i64 vo, .int .i64 base, .int .i64 bt, .slice A l.length cap, .slice x.rA x.rs.length x.rc, .slice x.mA x.ms.length x.mc, .slice x.gA x.gs.length x.gc, .int .i64 x.time, .slice x.dA x.ds.length x.dc, .slice x.lA x.ls.length x.lc, .int .i64 ro, .int .i64 wi, .int .i64 le, .int .i64 ke, .int .i64 size, .int .i64 id, .int .i64 role, .slice vA vn vc, .slice nA nn nc, .slice pA pn pc, .int .i64 com, .slice y.rA y.rs.length y.rc, .slice y.mA y.ms.length y.mc, .slice y.gA y.gs.length y.gc, .int .i64 y.time, .slice y.dA y.ds.length y.dc, .slice y.lA y.ls.length y.lc, .slice dA db.length dc, .int .i64 su, .slice hA0 hs.length hc] 257)) := Qaa (Below.refl _ w) _
 have P0 := Blk.new w 257 #[.int .i64 te, .int .i64 vo, .int .i64 base, .int .i64 bt, .slice A l.length cap, .slice x.rA x.rs.length x.rc, .slice x.mA x.ms.length x.mc, .slice x.gA x.gs.length x.gc, .int .i64 x.time, .slice x.dA x.ds.length x.dc, .slice x.lA x.ls.length x.lc, .int .i64 ro, .int .i64 wi, .int .i64 le, .int .i64 ke, .int .i64 size, .int .i64 id, .int .i64 role, .slice vA vn vc, .slice nA nn nc, .slice pA pn pc, .int .i64 com, .slice y.rA y.rs.length y.rc, .slice y.mA y.ms.length y.mc, .slice y.gA y.gs.length y.gc, .int .i64 y.time, .slice y.dA y.ds.length y.dc, .slice y.lA y.ls.length y.lc, .slice dA db.length dc, .int .i64 su, .slice hA0 hs.length hc]
 have E1 := hidP (Qha rpcF ro wi le ke id te vo base bt role com su size A vA nA pA dA hA0 cap vn vc nn nc pn pc dc hc l ns ps db hs x y hhl w.heap.size (w.alloc (.cells #[.int .i64 te, .int .i64 vo, .int .i64 base, .int .i64 bt, .slice A l.length cap, .slice x.rA x.rs.length x.rc, .slice x.mA x.ms.length x.mc, .slice x.gA x.gs.length x.gc, .int .i64 x.time, .slice x.dA x.ds.length x.dc, .slice x.lA x.ls.length x.lc, .int .i64 ro, .int .i64 wi, .int .i64 le, .int .i64 ke, .int .i64 size, .int .i64 id, .int .i64 role, .slice vA vn vc, .slice nA nn nc, .slice pA pn pc, .int .i64 com, .slice y.rA y.rs.length y.rc, .slice y.mA y.ms.length y.mc, .slice y.gA y.gs.length y.gc, .int .i64 y.time, .slice y.dA y.ds.length y.dc, .slice y.lA y.ls.length y.lc, .slice dA db.length dc, .int .i64 su, .slice hA0 hs.length hc] 257)) P0 (hH.below B0) (fun z hz W g => hR z hz W (via0 g B0)))
 have hmf : ∀ (fn : Fn) (first cap : Array Value) (w : World), (Instr.makeFunc fn first cap).run Tryz.prog w = .ok (.func fn first cap) w := fun _ _ _ _ => rfl
 have c30 : (w.alloc (.cells #[.int .i64 te, .int .i64 vo, .int .i64 base, .int .i64 bt, .slice A l.length cap, .slice x.rA x.rs.length x.rc, .slice x.mA x.ms.length x.mc, .slice x.gA x.gs.length x.gc, .int .i64 x.time, .slice x.dA x.ds.length x.dc, .slice x.lA x.ls.length x.lc, .int .i64 ro, .int .i64 wi, .int .i64 le, .int .i64 ke, .int .i64 size, .int .i64 id, .int .i64 role, .slice vA vn vc, .slice nA nn nc, .slice pA pn pc, .int .i64 com, .slice y.rA y.rs.length y.rc, .slice y.mA y.ms.length y.mc, .slice y.gA y.gs.length y.gc, .int .i64 y.time, .slice y.dA y.ds.length y.dc, .slice y.lA y.ls.length y.lc, .slice dA db.length dc, .int .i64 su, .slice hA0 hs.length hc] 257)).cell? ⟨w.heap.size, 30, none⟩ = some (.slice hA0 hs.length hc) := P0.cell rfl
 generalize Qcp rpcF id hs = bb at E1 ⊢
 clear P0 hH hR
 by_cases h40 : (hs.length : Int) <= 40
 . have h41 : Hid (decide (hs.length <= 40) = true) := decide_eq_true (by omega)
   go_enter Tryz.func158, Tryz.ntmps158
   go_wp2_with fail
   refine E1.out.mono ?_
   rintro e w1 ⟨rfl, g1⟩
   go_wp2
   go_ret
   exact ⟨by rw [h41.out]; simp, via0 g1 B0⟩
 . have h41 : Hid (decide (hs.length <= 40) = false) := decide_eq_false (by omega)
   go_enter Tryz.func158, Tryz.ntmps158
   go_wp2
   go_ret
   exact ⟨by rw [h41.out]; simp, B0⟩
end Go.Proofs.YtbcbdhjeebcleaaGreatDoor.Gen
