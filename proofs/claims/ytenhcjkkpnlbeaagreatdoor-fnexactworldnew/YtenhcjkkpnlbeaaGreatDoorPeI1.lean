/-
  The program's feedsRight: which places of nodes are right. No condition but the sizes of lists.
-/
import Derived.Test.YtenhcjkkpnlbeaaGreatDoorPeP
set_option linter.unusedVariables false
set_option linter.unusedSimpArgs false
set_option maxRecDepth 100000
set_option maxHeartbeats 8000000
namespace Go.Proofs.YtenhcjkkpnlbeaaGreatDoor.Gen
open ChangeShapes WideShapes ChangeAt RowKit Joins Deep Base
theorem feed1_any (z ln : Int) (hl : 0 <= ln /\ ln <= 300) (Bl : Nat) (w : World) (hB : Blk w Bl 117 #[.int .i64 ln]) :
 Calls Tryz.prog 124 #[.int .i64 z, .pointer (some ⟨Bl, 0, none⟩)] w fun e w' => e = .returned (.bool (inB z 1 (ln + 1))) /\ w' = w := by
 have c0 : w.cell? ⟨Bl, 0, none⟩ = some (.int .i64 ln) := hB.cell rfl
 obtain ⟨h0, h1⟩ := hl
 have HC := hidP (within_any z 1 (ln + 1))
 have q0 := hB.lt
 clear hB
 go_enter Tryz.func124, Tryz.ntmps124
 go_wp2_with fail
 refine (HC.out _).mono ?_
 rintro e w1 ⟨rfl, rfl⟩
 go_wp2
 go_ret
 exact ⟨rfl, rfl⟩
theorem Qjs (ln : Int) (hl : 0 <= ln /\ ln <= 300) (Bl : Nat) (A : Option Addr) (cap : Nat) (l : List Int) (hll : l.length <= 1048576) (w : World) (hB : Blk w Bl 117 #[.int .i64 ln]) (hA : At w A l) :
 Calls Tryz.prog 45 #[.slice A l.length cap, .func (.func 124) #[] #[.pointer (some ⟨Bl, 0, none⟩)]] w fun e w' => e = .returned (.bool (l.all (fun z => inB z 1 (ln + 1)))) /\ Below w.heap.size w w' := by
 have HA := hidP hA
 have HB := hidP hB
 have HL := hidP hl
 clear hA hB hl
 go_enter Tryz.func45, Tryz.ntmps45
 go_wp2
 go_loopw [9] (fun i w' => ∃ (n : Nat), i = .int .i64 (n : Int) /\ n <= l.length /\ Hid ((l.take n).all (fun z => inB z 1 (ln + 1)) = true) /\ Below w.heap.size w w') (fun i _ => l.length - (intOf i).toNat)
 case atStart => exact ⟨0, rfl, by omega, rfl, Below.refl _ _⟩
 case round =>
  obtain ⟨n, rfl, hn, hall, hbl⟩ := hrel
  by_cases hlt : n < l.length
  . obtain ⟨b, o, rfl, hbs, hIn⟩ : ∃ b o, A = some ⟨b, o, none⟩ /\ b < w.heap.size /\ In w b o l := by
     rcases HA.out with h | h
     . subst h; simp at hlt
     . exact h
    have c0 := (hIn.below hbs hbl).getInt n hlt
    have hb1 : b < wr.heap.size := Nat.lt_of_lt_of_le hbs hbl.size
    have HC : Calls Tryz.prog 124 #[.int .i64 l[n], .pointer (some ⟨Bl, 0, none⟩)] wr fun e w' => e = .returned (.bool (inB l[n] 1 (ln + 1))) /\ w' = wr := feed1_any l[n] ln HL.out Bl wr (HB.out.below hbl HB.out.lt)
    have hsu := Qc1 (fun z => inB z 1 (ln + 1)) hlt
    have hno := Qeq (fun z => inB z 1 (ln + 1)) hlt
    generalize hb : inB l[n] 1 (ln + 1) = bb at HC hsu hno
    have HC := hidP HC
    have Hsu := hidP hsu
    have Hno := hidP hno
    clear hb hsu hno
    generalize l[n] = zz at c0 HC
    have hi0 : (0 : Int) <= (n : Int) := by omega
    have hi1 : (n : Int) < (l.length : Int) := by omega
    cases bb
    . have HN := hidP (Hno.out rfl)
      clear Hno Hsu
      go_wp2_with fail
      refine HC.out.mono ?_
      rintro e w1 ⟨rfl, hw1⟩
      subst w1
      go_wp2
      go_ret
      exact ⟨by rw [HN.out]; rfl, hbl⟩
    . clear Hno
      go_wp2_with fail
      refine HC.out.mono ?_
      rintro e w1 ⟨rfl, hw1⟩
      subst w1
      go_wp2
      exact ⟨⟨n + 1, by go_num, by omega, by show _ = _; rw [Hsu.out, hall.out]; rfl, hbl⟩, by simp [intOf]; omega⟩
  . have e : l.take n = l := List.take_of_length_le (by omega)
    go_wp2
    go_ret
    have h := hall.out
    rw [e] at h
    exact ⟨by rw [h]; rfl, hbl⟩
theorem feed2_any (z ln : Int) (hl : 0 <= ln /\ ln <= 300) (Bl : Nat) (w : World) (hB : Blk w Bl 117 #[.int .i64 ln]) :
 Calls Tryz.prog 125 #[.int .i64 z, .pointer (some ⟨Bl, 0, none⟩)] w fun e w' => e = .returned (.bool (inB z 0 (ln))) /\ w' = w := by
 have c0 : w.cell? ⟨Bl, 0, none⟩ = some (.int .i64 ln) := hB.cell rfl
 obtain ⟨h0, h1⟩ := hl
 have HC := hidP (within_any z 0 (ln))
 have q0 := hB.lt
 clear hB
 go_enter Tryz.func125, Tryz.ntmps125
 go_wp2_with fail
 refine (HC.out _).mono ?_
 rintro e w1 ⟨rfl, rfl⟩
 go_wp2
 go_ret
 exact ⟨rfl, rfl⟩
theorem Qjr (ln : Int) (hl : 0 <= ln /\ ln <= 300) (Bl : Nat) (A : Option Addr) (cap : Nat) (l : List Int) (hll : l.length <= 1048576) (w : World) (hB : Blk w Bl 117 #[.int .i64 ln]) (hA : At w A l) :
 Calls Tryz.prog 45 #[.slice A l.length cap, .func (.func 125) #[] #[.pointer (some ⟨Bl, 0, none⟩)]] w fun e w' => e = .returned (.bool (l.all (fun z => inB z 0 (ln)))) /\ Below w.heap.size w w' := by
 have HA := hidP hA
 have HB := hidP hB
 have HL := hidP hl
 clear hA hB hl
 go_enter Tryz.func45, Tryz.ntmps45
 go_wp2
 go_loopw [9] (fun i w' => ∃ (n : Nat), i = .int .i64 (n : Int) /\ n <= l.length /\ Hid ((l.take n).all (fun z => inB z 0 (ln)) = true) /\ Below w.heap.size w w') (fun i _ => l.length - (intOf i).toNat)
 case atStart => exact ⟨0, rfl, by omega, rfl, Below.refl _ _⟩
 case round =>
  obtain ⟨n, rfl, hn, hall, hbl⟩ := hrel
  by_cases hlt : n < l.length
  . obtain ⟨b, o, rfl, hbs, hIn⟩ : ∃ b o, A = some ⟨b, o, none⟩ /\ b < w.heap.size /\ In w b o l := by
     rcases HA.out with h | h
     . subst h; simp at hlt
     . exact h
    have c0 := (hIn.below hbs hbl).getInt n hlt
    have hb1 : b < wr.heap.size := Nat.lt_of_lt_of_le hbs hbl.size
    have HC : Calls Tryz.prog 125 #[.int .i64 l[n], .pointer (some ⟨Bl, 0, none⟩)] wr fun e w' => e = .returned (.bool (inB l[n] 0 (ln))) /\ w' = wr := feed2_any l[n] ln HL.out Bl wr (HB.out.below hbl HB.out.lt)
    have hsu := Qc1 (fun z => inB z 0 (ln)) hlt
    have hno := Qeq (fun z => inB z 0 (ln)) hlt
    generalize hb : inB l[n] 0 (ln) = bb at HC hsu hno
    have HC := hidP HC
    have Hsu := hidP hsu
    have Hno := hidP hno
    clear hb hsu hno
    generalize l[n] = zz at c0 HC
    have hi0 : (0 : Int) <= (n : Int) := by omega
    have hi1 : (n : Int) < (l.length : Int) := by omega
    cases bb
    . have HN := hidP (Hno.out rfl)
      clear Hno Hsu
      go_wp2_with fail
      refine HC.out.mono ?_
      rintro e w1 ⟨rfl, hw1⟩
      subst w1
      go_wp2
      go_ret
      exact ⟨by rw [HN.out]; rfl, hbl⟩
    . clear Hno
      go_wp2_with fail
      refine HC.out.mono ?_
      rintro e w1 ⟨rfl, hw1⟩
      subst w1
      go_wp2
      exact ⟨⟨n + 1, by go_num, by omega, by show _ = _; rw [Hsu.out, hall.out]; rfl, hbl⟩, by simp [intOf]; omega⟩
  . have e : l.take n = l := List.take_of_length_le (by omega)
    go_wp2
    go_ret
    have h := hall.out
    rw [e] at h
    exact ⟨by rw [h]; rfl, hbl⟩
end Go.Proofs.YtenhcjkkpnlbeaaGreatDoor.Gen
namespace Go.Proofs.YtenhcjkkpnlbeaaGreatDoor.Gen
open ChangeShapes WideShapes ChangeAt RowKit Joins Deep Base
theorem Blk.row31 {W : World} {B : Nat} {t : TypeId} {v0 v1 v2 v3 v4 v5 v6 v7 v8 v9 v10 v11 v12 v13 v14 v15 v16 v17 v18 v19 v20 v21 v22 v23 v24 v25 v26 v27 v28 v29 v30 : Value} (p : Blk W B t #[v0, v1, v2, v3, v4, v5, v6, v7, v8, v9, v10, v11, v12, v13, v14, v15, v16, v17, v18, v19, v20, v21, v22, v23, v24, v25, v26, v27, v28, v29, v30]) :
 W.cell? ⟨B, 0, none⟩ = some v0 /\ W.cell? ⟨B, 1, none⟩ = some v1 /\ W.cell? ⟨B, 2, none⟩ = some v2 /\ W.cell? ⟨B, 3, none⟩ = some v3 /\ W.cell? ⟨B, 4, none⟩ = some v4 /\ W.cell? ⟨B, 5, none⟩ = some v5 /\ W.cell? ⟨B, 6, none⟩ = some v6 /\ W.cell? ⟨B, 7, none⟩ = some v7 /\ W.cell? ⟨B, 8, none⟩ = some v8 /\ W.cell? ⟨B, 9, none⟩ = some v9 /\ W.cell? ⟨B, 10, none⟩ = some v10 /\ W.cell? ⟨B, 11, none⟩ = some v11 /\ W.cell? ⟨B, 11 + 1, none⟩ = some v12 /\ W.cell? ⟨B, 11 + 2, none⟩ = some v13 /\ W.cell? ⟨B, 11 + 3, none⟩ = some v14 /\ W.cell? ⟨B, 15, none⟩ = some v15 /\ W.cell? ⟨B, 16, none⟩ = some v16 /\ W.cell? ⟨B, 17, none⟩ = some v17 /\ W.cell? ⟨B, 18, none⟩ = some v18 /\ W.cell? ⟨B, 19, none⟩ = some v19 /\ W.cell? ⟨B, 20, none⟩ = some v20 /\ W.cell? ⟨B, 21, none⟩ = some v21 /\ W.cell? ⟨B, 22, none⟩ = some v22 /\ W.cell? ⟨B, 22 + 1, none⟩ = some v23 /\ W.cell? ⟨B, 22 + 2, none⟩ = some v24 /\ W.cell? ⟨B, 22 + 3, none⟩ = some v25 /\ W.cell? ⟨B, 22 + 4, none⟩ = some v26 /\ W.cell? ⟨B, 22 + 5, none⟩ = some v27 /\ W.cell? ⟨B, 28, none⟩ = some v28 /\ W.cell? ⟨B, 28 + 1, none⟩ = some v29 /\ W.cell? ⟨B, 30, none⟩ = some v30 :=
 ⟨p.cell (by rfl), p.cell (by rfl), p.cell (by rfl), p.cell (by rfl), p.cell (by rfl), p.cell (by rfl), p.cell (by rfl), p.cell (by rfl), p.cell (by rfl), p.cell (by rfl), p.cell (by rfl), p.cell (by rfl), p.cell (by rfl), p.cell (by rfl), p.cell (by rfl), p.cell (by rfl), p.cell (by rfl), p.cell (by rfl), p.cell (by rfl), p.cell (by rfl), p.cell (by rfl), p.cell (by rfl), p.cell (by rfl), p.cell (by rfl), p.cell (by rfl), p.cell (by rfl), p.cell (by rfl), p.cell (by rfl), p.cell (by rfl), p.cell (by rfl), p.cell (by rfl)⟩
theorem Qez (te vo base bt : Int) (A : Option Addr) (cap : Nat) (l : List En) (hl : l.length <= 1048576) (x : KC) (w : World) (hA : At w A l) :
 Calls Tryz.prog 84 #[.agg (Qaj te vo base bt A l.length cap x.rA x.rs.length x.rc x.mA x.ms.length x.mc x.gA x.gs.length x.gc x.time x.dA x.ds.length x.dc x.lA x.ls.length x.lc)] w fun e w' => e = .returned (.int .i64 (Qc3 base l)) /\ Below w.heap.size w w' := by
 obtain ⟨ln, hln⟩ : ∃ z, Qc3 base l = z := ⟨_, rfl⟩
 obtain ⟨lt, hlt0⟩ : ∃ z, Qg6 bt l = z := ⟨_, rfl⟩
 have P0 := Blk.new w 50 (Qaj te vo base bt A l.length cap x.rA x.rs.length x.rc x.mA x.ms.length x.mc x.gA x.gs.length x.gc x.time x.dA x.ds.length x.dc x.lA x.ls.length x.lc)
 have B0 : Below w.heap.size w (w.alloc (.cells (Qaj te vo base bt A l.length cap x.rA x.rs.length x.rc x.mA x.ms.length x.mc x.gA x.gs.length x.gc x.time x.dA x.ds.length x.dc x.lA x.ls.length x.lc) 50)) := Qab (Below.refl _ w) _
 have E6 : Hid (Calls Tryz.prog 122 #[.agg (Qay base bt A l.length cap)] (w.alloc (.cells (Qaj te vo base bt A l.length cap x.rA x.rs.length x.rc x.mA x.ms.length x.mc x.gA x.gs.length x.gc x.time x.dA x.ds.length x.dc x.lA x.ls.length x.lc) 50)) fun e w' => e = .returned (.tuple #[.int .i64 ln, .int .i64 lt]) /\ Below (w.alloc (.cells (Qaj te vo base bt A l.length cap x.rA x.rs.length x.rc x.mA x.ms.length x.mc x.gA x.gs.length x.gc x.time x.dA x.ds.length x.dc x.lA x.ls.length x.lc) 50)).heap.size (w.alloc (.cells (Qaj te vo base bt A l.length cap x.rA x.rs.length x.rc x.mA x.ms.length x.mc x.gA x.gs.length x.gc x.time x.dA x.ds.length x.dc x.lA x.ls.length x.lc) 50)) w') := by have h := Qgc base bt A cap l (by omega) (w.alloc (.cells (Qaj te vo base bt A l.length cap x.rA x.rs.length x.rc x.mA x.ms.length x.mc x.gA x.gs.length x.gc x.time x.dA x.ds.length x.dc x.lA x.ls.length x.lc) 50)) (hA.below B0); rw [hln, hlt0] at h; exact h
 rw [hln]
 obtain ⟨u0, u1, u2, u3, u4, u5, u6, u7, u8, u9, u10⟩ := P0.row11
 clear P0 hA hln hlt0
 go_enter Tryz.func84, Tryz.ntmps84
 go_wp2_with fail
 refine E6.out.mono ?_
 rintro e w1 ⟨rfl, g1⟩
 go_wp2
 go_ret
 exact ⟨rfl, via0 g1 B0⟩
theorem Qig (ro wi le ke id te vo base bt role com su size : Int) (A vA nA pA dA hA0 : Option Addr) (cap vn vc nn nc pn pc dc hc : Nat) (l : List En) (ns ps : List Int) (db : List UInt8) (hs : List RpC) (x y : KC) (hl : l.length <= 1048576) (hnn : nn = ns.length) (hpn : pn = ps.length) (hnl : nn <= 1048576) (hpl : pn <= 1048576) (hln : 0 <= Qc3 base l /\ Qc3 base l <= 300) (w : World) (hA : At w A l) (hN : At w nA ns) (hP : At w pA ps) :
 Calls Tryz.prog 83 #[.agg (Qae te vo base bt A l.length cap x.rA x.rs.length x.rc x.mA x.ms.length x.mc x.gA x.gs.length x.gc x.time x.dA x.ds.length x.dc x.lA x.ls.length x.lc ro wi le ke size id role vA vn vc nA nn nc pA pn pc com y.rA y.rs.length y.rc y.mA y.ms.length y.mc y.gA y.gs.length y.gc y.time y.dA y.ds.length y.dc y.lA y.ls.length y.lc dA db.length dc su hA0 hs.length hc)] w fun e w' => e = .returned (.bool (decide ((nn : Int) = size) && ns.all (fun z => inB z 1 (Qc3 base l + 1)) && decide ((pn : Int) = size) && ps.all (fun z => inB z 0 (Qc3 base l)))) /\ Below w.heap.size w w' := by
 have P0 := hidP (Blk.new w 77 (Qae te vo base bt A l.length cap x.rA x.rs.length x.rc x.mA x.ms.length x.mc x.gA x.gs.length x.gc x.time x.dA x.ds.length x.dc x.lA x.ls.length x.lc ro wi le ke size id role vA vn vc nA nn nc pA pn pc com y.rA y.rs.length y.rc y.mA y.ms.length y.mc y.gA y.gs.length y.gc y.time y.dA y.ds.length y.dc y.lA y.ls.length y.lc dA db.length dc su hA0 hs.length hc))
 have B0 : Below w.heap.size w (w.alloc (.cells (Qae te vo base bt A l.length cap x.rA x.rs.length x.rc x.mA x.ms.length x.mc x.gA x.gs.length x.gc x.time x.dA x.ds.length x.dc x.lA x.ls.length x.lc ro wi le ke size id role vA vn vc nA nn nc pA pn pc com y.rA y.rs.length y.rc y.mA y.ms.length y.mc y.gA y.gs.length y.gc y.time y.dA y.ds.length y.dc y.lA y.ls.length y.lc dA db.length dc su hA0 hs.length hc) 77)) := Qab (Below.refl _ w) _
 have E1 := hidP (Qez te vo base bt A cap l hl x (w.alloc (.cells (Qae te vo base bt A l.length cap x.rA x.rs.length x.rc x.mA x.ms.length x.mc x.gA x.gs.length x.gc x.time x.dA x.ds.length x.dc x.lA x.ls.length x.lc ro wi le ke size id role vA vn vc nA nn nc pA pn pc com y.rA y.rs.length y.rc y.mA y.ms.length y.mc y.gA y.gs.length y.gc y.time y.dA y.ds.length y.dc y.lA y.ls.length y.lc dA db.length dc su hA0 hs.length hc) 77)) (hA.below B0))
 generalize hlz : Qc3 base l = ln at *
 have E2 : Hid (∀ (W : World) (Bl : Nat), Below w.heap.size w W -> Blk W Bl 117 #[.int .i64 ln] -> Calls Tryz.prog 45 #[.slice nA nn nc, .func (.func 124) #[] #[.pointer (some ⟨Bl, 0, none⟩)]] W fun e w' => e = .returned (.bool (ns.all (fun z => inB z 1 (ln + 1)))) /\ Below W.heap.size W w') := fun W Bl g hb => by have h := Qjs ln hln Bl nA nc ns (by omega) W hb (hN.below g); rw [← hnn] at h; exact h
 have E3 : Hid (∀ (W : World) (Bl : Nat), Below w.heap.size w W -> Blk W Bl 117 #[.int .i64 ln] -> Calls Tryz.prog 45 #[.slice pA pn pc, .func (.func 125) #[] #[.pointer (some ⟨Bl, 0, none⟩)]] W fun e w' => e = .returned (.bool (ps.all (fun z => inB z 0 ln))) /\ Below W.heap.size W w') := fun W Bl g hb => by have h := Qjr ln hln Bl pA pc ps (by omega) W hb (hP.below g); rw [← hpn] at h; exact h
 generalize ns.all (fun z => inB z 1 (ln + 1)) = b1 at *
 generalize ps.all (fun z => inB z 0 ln) = b2 at *
 have hmf : ∀ (fn : Fn) (first cap : Array Value) (w : World), (Instr.makeFunc fn first cap).run Tryz.prog w = .ok (.func fn first cap) w := fun _ _ _ _ => rfl
 have HB0 := hidP B0
 clear hA hN hP hnn hpn hlz hl B0
 obtain ⟨c0, c1, c2, c3, c4, c5, c6, c7, c8, c9, c10, -, -, -, -, -, -, -, -, -, -, -, -, -, -, -, -, -, -, -, -⟩ := P0.out.row31
 go_enter Tryz.func83, Tryz.ntmps83
 go_wp2_with fail
 refine E1.out.mono ?_
 rintro e w1 ⟨rfl, g1⟩
 have B1 := via0 g1 HB0.out
 have PL := Blk.new w1 117 #[.int .i64 ln]
 have P1 := (P0.out.below g1 P0.out.lt).alloc (.cells #[.int .i64 ln] 117)
 have B2 : Below w.heap.size w (w1.alloc (.cells #[.int .i64 ln] 117)) := Qab B1 _
 have HX2 := hidP (And.intro B2 (And.intro PL P1))
 clear c0 c1 c2 c3 c4 c5 c6 c7 c8 c9 c10 g1 B1 PL P1 B2 P0 E1 HB0
 obtain ⟨-, -, -, -, -, -, -, -, -, -, -, -, -, -, -, c15, -, -, -, c19, c20, -, -, -, -, -, -, -, -, -, -⟩ := HX2.out.2.2.row31
 have q0 := HX2.out.2.2.lt
 have q1 := HX2.out.2.1.lt
 by_cases h1 : (nn : Int) = size
 case neg =>
  go_wp2
  go_ret
  exact ⟨by simp [h1], HX2.out.1⟩
 subst h1
 go_wp2_with fail
 refine (E2.out _ _ HX2.out.1 HX2.out.2.1).mono ?_
 rintro e w3 ⟨rfl, g3⟩
 have HX3 := hidP (And.intro (via0 g3 HX2.out.1) (And.intro (HX2.out.2.1.below g3 HX2.out.2.1.lt) (HX2.out.2.2.below g3 HX2.out.2.2.lt)))
 clear c15 c19 c20 q0 q1 g3 HX2 E2
 obtain ⟨-, -, -, -, -, -, -, -, -, -, -, -, -, -, -, c15, -, -, -, -, c20, -, -, -, -, -, -, -, -, -, -⟩ := HX3.out.2.2.row31
 have q0 := HX3.out.2.2.lt
 have q1 := HX3.out.2.1.lt
 cases b1
 . go_wp2
   go_ret
   exact ⟨by simp, HX3.out.1⟩
 by_cases h2 : pn = nn
 case neg =>
  have hf1 : Hid (decide ((pn : Int) = (nn : Int)) = false) := decide_eq_false (fun h => h2 (Int.ofNat.inj h))
  have hb1 : ((pn : Int) == (nn : Int)) = false := beq_eq_false_iff_ne.2 (fun h => h2 (Int.ofNat.inj h))
  go_wp2
  go_ret
  exact ⟨by rw [hf1.out]; simp, HX3.out.1⟩
 subst h2
 go_wp2_with fail
 refine (E3.out _ _ HX3.out.1 HX3.out.2.1).mono ?_
 rintro e w4 ⟨rfl, g4⟩
 have B4 := hidP (via0 g4 HX3.out.1)
 cases b2
 . go_wp2
   go_ret
   exact ⟨by simp, B4.out⟩
 . go_wp2
   go_ret
   exact ⟨by simp, B4.out⟩
end Go.Proofs.YtenhcjkkpnlbeaaGreatDoor.Gen
