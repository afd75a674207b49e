/-
  The program's holdsRight: which messages a node may hold. No condition but what it says of RpcOk.
-/
import Derived.Test.YtkmkldjipihceaaGreatPeI2
set_option linter.unusedVariables false
set_option linter.unusedSimpArgs false
set_option maxRecDepth 100000
set_option maxHeartbeats 8000000
set_option maxRecDepth 100000
set_option maxHeartbeats 8000000
namespace Go.Proofs.YtkmkldjipihceaaGreat.Gen
open ChangeShapes WideShapes ChangeAt RowKit Joins Deep Base
theorem hold1_any (ro wi le ke id te vo base bt role com su size : Int) (A vA nA pA dA hA0 : Option Addr) (cap vn vc nn nc pn pc dc hc : Nat) (l : List En) (ns ps : List Int) (db : List UInt8) (hs : List RpC) (x y : KC) (zk zf zt ze zi zj zm : Int) (zA : Option Addr) (zc : Nat) (zl : List En) (zo : Bool) (zs : ByteArray) (rb : Bool) (Bn : Nat) (w : World) (hB : Blk w Bn 195 (Qac te vo base bt A l.length cap x.rA x.rs.length x.rc x.mA x.ms.length x.mc x.gA x.gs.length x.gc x.time x.dA x.ds.length x.dc x.lA x.ls.length x.lc ro wi le ke size id role vA vn vc nA nn nc pA pn pc com y.rA y.rs.length y.rc y.mA y.ms.length y.mc y.gA y.gs.length y.gc y.time y.dA y.ds.length y.dc y.lA y.ls.length y.lc dA db.length dc su hA0 hs.length hc))
 (hR : ∀ W : World, Below w.heap.size w W -> Calls Tryz.prog 53 #[.agg (Qaf zk zf zt ze zi zj zm zA zl.length zc zo zs), .int .i64 size] W fun e w' => e = .returned (.bool rb) /\ Below W.heap.size W w') :
 Calls Tryz.prog 172 #[.agg (Qaf zk zf zt ze zi zj zm zA zl.length zc zo zs), .pointer (some ⟨Bn, 0, none⟩)] w fun e w' => e = .returned (.bool (rb && zf == id)) /\ Below w.heap.size w w' := by
 have B0 : Below w.heap.size w (w.alloc (.cells (Qaf zk zf zt ze zi zj zm zA zl.length zc zo zs) 113)) := Qab (Below.refl _ w) _
 have HN : Hid (∀ W : World, Below (w.alloc (.cells (Qaf zk zf zt ze zi zj zm zA zl.length zc zo zs) 113)).heap.size (w.alloc (.cells (Qaf zk zf zt ze zi zj zm zA zl.length zc zo zs) 113)) W -> Blk W Bn 195 (Qac te vo base bt A l.length cap x.rA x.rs.length x.rc x.mA x.ms.length x.mc x.gA x.gs.length x.gc x.time x.dA x.ds.length x.dc x.lA x.ls.length x.lc ro wi le ke size id role vA vn vc nA nn nc pA pn pc com y.rA y.rs.length y.rc y.mA y.ms.length y.mc y.gA y.gs.length y.gc y.time y.dA y.ds.length y.dc y.lA y.ls.length y.lc dA db.length dc su hA0 hs.length hc) /\ Blk W w.heap.size 113 (Qaf zk zf zt ze zi zj zm zA zl.length zc zo zs)) := fun W g => ⟨(hB.alloc _).below g (hB.alloc _).lt, (Blk.new w 113 (Qaf zk zf zt ze zi zj zm zA zl.length zc zo zs)).below g (Blk.new w 113 (Qaf zk zf zt ze zi zj zm zA zl.length zc zo zs)).lt⟩
 have HR := hidP hR
 have HB0 := hidP B0
 obtain ⟨N0, Z0⟩ := HN.out _ (Below.refl _ _)
 have c15 : (w.alloc (.cells (Qaf zk zf zt ze zi zj zm zA zl.length zc zo zs) 113)).cell? ⟨Bn, 15, none⟩ = some (.int .i64 size) := N0.cell rfl
 have q0 := N0.lt
 clear hB hR B0 N0 Z0
 go_enter Tryz.func172, Tryz.ntmps172
 go_wp2_with fail
 refine (HR.out _ HB0.out).mono ?_
 rintro e w1 ⟨rfl, g1⟩
 have B1 := via0 g1 HB0.out
 obtain ⟨N1, Z1⟩ := HN.out _ g1
 have c16 : w1.cell? ⟨Bn, 16, none⟩ = some (.int .i64 id) := N1.cell rfl
 have e1 : w1.cell? ⟨w.heap.size, 1, none⟩ = some (.int .i64 zf) := Z1.cell rfl
 have q1 := N1.lt
 have q2 := Z1.lt
 clear N1 Z1 g1 c15 q0
 cases rb
 . go_wp2
   go_ret
   exact ⟨by simp, B1⟩
 . by_cases h : zf = id
   . subst h
     go_wp2
     go_ret
     exact ⟨by simp, B1⟩
   . have hb : (zf == id) = false := beq_eq_false_iff_ne.2 h
     go_wp2
     go_ret
     exact ⟨by simp [hb], B1⟩
theorem Qhc (rpcF : RpP -> Bool) (ro wi le ke id te vo base bt role com su size : Int) (A vA nA pA dA hA0 : Option Addr) (cap vn vc nn nc pn pc dc hc : Nat) (l : List En) (ns ps : List Int) (db : List UInt8) (hs : List RpC) (x y : KC) (hhl : hs.length <= 1048576) (Bn : Nat) (w : World) (hB : Blk w Bn 195 (Qac te vo base bt A l.length cap x.rA x.rs.length x.rc x.mA x.ms.length x.mc x.gA x.gs.length x.gc x.time x.dA x.ds.length x.dc x.lA x.ls.length x.lc ro wi le ke size id role vA vn vc nA nn nc pA pn pc com y.rA y.rs.length y.rc y.mA y.ms.length y.mc y.gA y.gs.length y.gc y.time y.dA y.ds.length y.dc y.lA y.ls.length y.lc dA db.length dc su hA0 hs.length hc)) (hH : At w hA0 hs)
 (hR : ∀ z ∈ hs, ∀ W : World, Below w.heap.size w W -> Calls Tryz.prog 53 #[.agg (Cel.cs z).toArray, .int .i64 size] W fun e w' => e = .returned (.bool (rpcF z.p)) /\ Below W.heap.size W w') :
 Calls Tryz.prog 51 #[.slice hA0 hs.length hc, .func (.func 172) #[] #[.pointer (some ⟨Bn, 0, none⟩)]] w fun e w' => e = .returned (.bool (Qdc rpcF id hs)) /\ Below w.heap.size w w' := by
 have HA := hidP hH
 have HB := hidP hB
 have HR := hidP hR
 clear hH hB hR
 go_enter Tryz.func51, Tryz.ntmps51
 go_wp2
 go_loopw [9] (fun i w' => ∃ (n : Nat), i = .int .i64 (n : Int) /\ n <= hs.length /\ Hid ((hs.take n).all (fun z => rpcF z.p && z.frm == id) = true) /\ Below w.heap.size w w') (fun i _ => hs.length - (intOf i).toNat)
 case atStart => exact ⟨0, rfl, by omega, rfl, Below.refl _ _⟩
 case round =>
  obtain ⟨n, rfl, hn, hall, hbl⟩ := hrel
  by_cases hlt : n < hs.length
  . obtain ⟨b, o, rfl, hbs, hIn⟩ : ∃ b o, hA0 = some ⟨b, o, none⟩ /\ b < w.heap.size /\ In w b o hs := by
     rcases HA.out with h | h
     . subst h; simp at hlt
     . exact h
    obtain ⟨e0, e1, e2, e3, e4, e5, e6, e7, e8, e9⟩ := (hIn.below hbs hbl).getRpC n hlt
    have hb1 : b < wr.heap.size := Nat.lt_of_lt_of_le hbs hbl.size
    have hsu := Qbs (fun z : RpC => rpcF z.p && z.frm == id) hlt
    have hno := Qc3 (fun z : RpC => rpcF z.p && z.frm == id) hlt
    generalize hbb : (rpcF hs[n].p && hs[n].frm == id) = bb at hsu hno
    have Hsu := hidP hsu
    have Hno := hidP hno
    clear hsu hno
    have HRz := HR.out hs[n] (List.getElem_mem hlt)
    have HBr := hidP (HB.out.below hbl HB.out.lt)
    generalize hs[n] = z at e0 e1 e2 e3 e4 e5 e6 e7 e8 e9 hbb HRz
    obtain ⟨zk, zf, zt, ze, zi, zj, zm, zA, zc, zl, zo, zs⟩ := z
    simp only [RpC.p, Cel.cs] at e0 e1 e2 e3 e4 e5 e6 e7 e8 e9 hbb HRz
    generalize rpcF ⟨zk, zf, zt, ze, zi, zj, zm, zl, zo, zs⟩ = rb at hbb HRz
    have HC : Hid (∀ W : World, Below wr.heap.size wr W -> Calls Tryz.prog 172 #[.agg (Qaf zk zf zt ze zi zj zm zA zl.length zc zo zs), .pointer (some ⟨Bn, 0, none⟩)] W fun e w' => e = .returned (.bool bb) /\ Below W.heap.size W w') := fun W g => hbb ▸ hold1_any ro wi le ke id te vo base bt role com su size A vA nA pA dA (some ⟨b, o, none⟩) cap vn vc nn nc pn pc dc hc l ns ps db hs x y zk zf zt ze zi zj zm zA zc zl zo zs rb Bn W (HBr.out.below g HBr.out.lt) (fun V g' => HRz V (via0 g' (via0 g hbl)))
    have hi0 : (0 : Int) <= (n : Int) := by omega
    have hi1 : (n : Int) < (hs.length : Int) := by omega
    clear hbb HRz
    cases bb
    . have HN := hidP (Hno.out rfl)
      clear Hno Hsu
      go_wp2_with fail
      refine (HC.out _ (Qab (Below.refl _ _) _)).mono ?_
      rintro e w1 ⟨rfl, g1⟩
      go_wp2
      go_ret
      exact ⟨by unfold Qdc; rw [HN.out]; rfl, via0 g1 (Qab hbl _)⟩
    . clear Hno
      go_wp2_with fail
      refine (HC.out _ (Qab (Below.refl _ _) _)).mono ?_
      rintro e w1 ⟨rfl, g1⟩
      go_wp2
      exact ⟨⟨n + 1, by go_num, by omega, by show _ = _; rw [Hsu.out, hall.out]; rfl, via0 g1 (Qab hbl _)⟩, by simp [intOf]; omega⟩
  . have e : hs.take n = hs := List.take_of_length_le (by omega)
    go_wp2
    go_ret
    have h := hall.out
    rw [e] at h
    exact ⟨by unfold Qdc; rw [h]; rfl, hbl⟩
theorem Qe0 (rpcF : RpP -> Bool) (ro wi le ke id te vo base bt role com su size : Int) (A vA nA pA dA hA0 : Option Addr) (cap vn vc nn nc pn pc dc hc : Nat) (l : List En) (ns ps : List Int) (db : List UInt8) (hs : List RpC) (x y : KC) (hhl : hs.length <= 1048576) (w : World) (hH : At w hA0 hs)
 (hR : ∀ z ∈ hs, ∀ W : World, Below w.heap.size w W -> Calls Tryz.prog 53 #[.agg (Cel.cs z).toArray, .int .i64 size] W fun e w' => e = .returned (.bool (rpcF z.p)) /\ Below W.heap.size W w') :
 Calls Tryz.prog 149 #[.agg (Qac te vo base bt A l.length cap x.rA x.rs.length x.rc x.mA x.ms.length x.mc x.gA x.gs.length x.gc x.time x.dA x.ds.length x.dc x.lA x.ls.length x.lc ro wi le ke size id role vA vn vc nA nn nc pA pn pc com y.rA y.rs.length y.rc y.mA y.ms.length y.mc y.gA y.gs.length y.gc y.time y.dA y.ds.length y.dc y.lA y.ls.length y.lc dA db.length dc su hA0 hs.length hc)] w fun e w' => e = .returned (.bool (decide (hs.length <= 40) && Qdc rpcF id hs)) /\ Below w.heap.size w w' := by
 have B0 : Below w.heap.size w (w.alloc (.cells (Qac te vo base bt A l.length cap x.rA x.rs.length x.rc x.mA x.ms.length x.mc x.gA x.gs.length x.gc x.time x.dA x.ds.length x.dc x.lA x.ls.length x.lc ro wi le ke size id role vA vn vc nA nn nc pA pn pc com y.rA y.rs.length y.rc y.mA y.ms.length y.mc y.gA y.gs.length y.gc y.time y.dA y.ds.length y.dc y.lA y.ls.length y.lc dA db.length dc su hA0 hs.length hc) 195)) := Qab (Below.refl _ w) _
 have P0 := Blk.new w 195 (Qac te vo base bt A l.length cap x.rA x.rs.length x.rc x.mA x.ms.length x.mc x.gA x.gs.length x.gc x.time x.dA x.ds.length x.dc x.lA x.ls.length x.lc ro wi le ke size id role vA vn vc nA nn nc pA pn pc com y.rA y.rs.length y.rc y.mA y.ms.length y.mc y.gA y.gs.length y.gc y.time y.dA y.ds.length y.dc y.lA y.ls.length y.lc dA db.length dc su hA0 hs.length hc)
 have E1 := hidP (Qhc rpcF ro wi le ke id te vo base bt role com su size A vA nA pA dA hA0 cap vn vc nn nc pn pc dc hc l ns ps db hs x y hhl w.heap.size (w.alloc (.cells (Qac te vo base bt A l.length cap x.rA x.rs.length x.rc x.mA x.ms.length x.mc x.gA x.gs.length x.gc x.time x.dA x.ds.length x.dc x.lA x.ls.length x.lc ro wi le ke size id role vA vn vc nA nn nc pA pn pc com y.rA y.rs.length y.rc y.mA y.ms.length y.mc y.gA y.gs.length y.gc y.time y.dA y.ds.length y.dc y.lA y.ls.length y.lc dA db.length dc su hA0 hs.length hc) 195)) P0 (hH.below B0) (fun z hz W g => hR z hz W (via0 g B0)))
 have hmf : ∀ (fn : Fn) (first cap : Array Value) (w : World), (Instr.makeFunc fn first cap).run Tryz.prog w = .ok (.func fn first cap) w := fun _ _ _ _ => rfl
 have c30 : (w.alloc (.cells (Qac te vo base bt A l.length cap x.rA x.rs.length x.rc x.mA x.ms.length x.mc x.gA x.gs.length x.gc x.time x.dA x.ds.length x.dc x.lA x.ls.length x.lc ro wi le ke size id role vA vn vc nA nn nc pA pn pc com y.rA y.rs.length y.rc y.mA y.ms.length y.mc y.gA y.gs.length y.gc y.time y.dA y.ds.length y.dc y.lA y.ls.length y.lc dA db.length dc su hA0 hs.length hc) 195)).cell? ⟨w.heap.size, 30, none⟩ = some (.slice hA0 hs.length hc) := P0.cell rfl
 generalize Qdc rpcF id hs = bb at E1 ⊢
 clear P0 hH hR
 by_cases h40 : (hs.length : Int) <= 40
 . have h41 : Hid (decide (hs.length <= 40) = true) := decide_eq_true (by omega)
   go_enter Tryz.func149, Tryz.ntmps149
   go_wp2_with fail
   refine E1.out.mono ?_
   rintro e w1 ⟨rfl, g1⟩
   go_wp2
   go_ret
   exact ⟨by rw [h41.out]; simp, via0 g1 B0⟩
 . have h41 : Hid (decide (hs.length <= 40) = false) := decide_eq_false (by omega)
   go_enter Tryz.func149, Tryz.ntmps149
   go_wp2
   go_ret
   exact ⟨by rw [h41.out]; simp, B0⟩
end Go.Proofs.YtkmkldjipihceaaGreat.Gen
