/-
  spec.PeerOk, walked: it answers peerB. No condition but the sizes of lists and texts, and what it says of RpcOk.
-/
import Derived.Test.YtkmkldjipihceaaGreatLGet
import Derived.Test.YtkmkldjipihceaaGreatSmP
set_option linter.unusedVariables false
set_option linter.unusedSimpArgs false
set_option maxRecDepth 100000
set_option maxHeartbeats 8000000
set_option maxRecDepth 100000
set_option maxHeartbeats 8000000
namespace Go.Proofs.YtkmkldjipihceaaGreat.Gen
open ChangeShapes WideShapes ChangeAt RowKit Joins Deep Base
theorem Qen (rpcF : RpP -> Bool) (ro wi le ke id te vo base bt role com su size : Int) (A vA nA pA dA hA0 : Option Addr) (cap vn vc nn nc pn pc dc hc : Nat) (l : List En) (ns ps : List Int) (db : List UInt8) (hs : List RpC) (x y : KC)
 (hl : l.length <= 1048576) (hr : ∀ z ∈ l, z.fit) (hnn : nn = ns.length) (hpn : pn = ps.length) (hvl : vn <= 1048576) (hnl : nn <= 1048576) (hpl : pn <= 1048576) (hdl : db.length <= 9223372036854775807) (hhl : hs.length <= 1048576) (hax : KAsk x) (hay : KAsk y) (hsz : I64 size) (w : World)
 (hA : At w A l) (hx : KAt w x) (hN : At w nA ns) (hP : At w pA ps) (hy : KAt w y) (hH : At w hA0 hs)
 (hR : ∀ z ∈ hs, ∀ W : World, Below w.heap.size w W -> Calls Tryz.prog 42 #[.agg (Cel.cs z).toArray, .int .i64 size] W fun e w' => e = .returned (.bool (rpcF z.p)) /\ Below W.heap.size W w') :
 Calls Tryz.prog 41 #[.agg (Qag ro wi le ke), .agg (Qaa id te vo base bt A l.length cap x.rA x.rs.length x.rc x.mA x.ms.length x.mc x.gA x.gs.length x.gc x.time x.dA x.ds.length x.dc x.lA x.ls.length x.lc role vA vn vc nA nn nc pA pn pc com y.rA y.rs.length y.rc y.mA y.ms.length y.mc y.gA y.gs.length y.gc y.time y.dA y.ds.length y.dc y.lA y.ls.length y.lc dA db.length dc su hA0 hs.length hc), .int .i64 size] w fun e w' => e = .returned (.bool (peerB rpcF ro wi le ke id te vo base bt l x role vn nn pn ns ps com y su db.length hs size)) /\ Below w.heap.size w w' := by
 obtain ⟨b1, h1⟩ : ∃ b, inB size 1 5 = b := ⟨_, rfl⟩
 obtain ⟨b2, h2⟩ : ∃ b, inB id 0 (size - 1) = b := ⟨_, rfl⟩
 obtain ⟨b3, h3⟩ : ∃ b, Qd2 ro wi le ke te vo base bt l x = b := ⟨_, rfl⟩
 obtain ⟨b5, h5⟩ : ∃ b, inB role 0 2 = b := ⟨_, rfl⟩
 obtain ⟨ln, hln⟩ : ∃ z, Qbc base l = z := ⟨_, rfl⟩
 obtain ⟨lt, hlt0⟩ : ∃ z, Qds bt l = z := ⟨_, rfl⟩
 obtain ⟨b9, h9⟩ : ∃ b, Qg2 ln ns ps = b := ⟨_, rfl⟩
 obtain ⟨ba, hba⟩ : ∃ b, Qdc rpcF id hs = b := ⟨_, rfl⟩
 obtain ⟨bb, hbb⟩ : ∃ b, inB com base ln = b := ⟨_, rfl⟩
 obtain ⟨bc, hbc⟩ : ∃ b, Qbo ro wi le ke y = b := ⟨_, rfl⟩
 obtain ⟨bd, hbd⟩ : ∃ b, Qge su db.length = b := ⟨_, rfl⟩
 have hF : Hid (peerB rpcF ro wi le ke id te vo base bt l x role vn nn pn ns ps com y su db.length hs size = (b1 && b2 && b3 && decide (vo < size) && b5 && decide ((vn : Int) = size) && decide ((nn : Int) = size) && decide ((pn : Int) = size) && b9 && ba && bb && bc && bd && decide (hs.length <= 40))) := by show _ = _; unfold peerB; rw [hln, h1, h2, h3, h5, h9, hba, hbb, hbc, hbd]
 have E1 : Hid (∀ W : World, Calls Tryz.prog 32 (Qa4 size 1 5) W fun e w' => e = .returned (.bool b1) /\ w' = W) := fun W => h1 ▸ in_any _ _ _ W
 have E2 : Hid (∀ W : World, Calls Tryz.prog 32 (Qa4 id 0 (size - 1)) W fun e w' => e = .returned (.bool b2) /\ w' = W) := fun W => h2 ▸ in_any _ _ _ W
 have E3 : Hid (∀ W : World, Below w.heap.size w W -> Calls Tryz.prog 78 #[.agg (Qag ro wi le ke), .agg (Qad te vo base bt A l.length cap x.rA x.rs.length x.rc x.mA x.ms.length x.mc x.gA x.gs.length x.gc x.time x.dA x.ds.length x.dc x.lA x.ls.length x.lc)] W fun e w' => e = .returned (.bool b3) /\ Below W.heap.size W w') := fun W g => h3 ▸ Qep ro wi le ke te vo base bt A cap l hl hr x hax W (hA.below g) (hx.below g)
 have E5 : Hid (∀ W : World, Calls Tryz.prog 32 (Qa4 role 0 2) W fun e w' => e = .returned (.bool b5) /\ w' = W) := fun W => h5 ▸ in_any _ _ _ W
 have E6 : Hid (∀ W : World, Below w.heap.size w W -> Calls Tryz.prog 66 #[.agg (Qap base bt A l.length cap)] W fun e w' => e = .returned (.tuple #[.int .i64 ln, .int .i64 lt]) /\ Below W.heap.size W w') := fun W g => by have h := Qct base bt A cap l (by omega) W (hA.below g); rw [hln, hlt0] at h; exact h
 have EB : Hid (∀ W : World, Calls Tryz.prog 32 (Qa4 com base ln) W fun e w' => e = .returned (.bool bb) /\ w' = W) := fun W => hbb ▸ in_any _ _ _ W
 have EC : Hid (∀ W : World, Below w.heap.size w W -> Calls Tryz.prog 79 #[.agg (Qag ro wi le ke), .agg (Qae y.rA y.rs.length y.rc y.mA y.ms.length y.mc y.gA y.gs.length y.gc y.time y.dA y.ds.length y.dc y.lA y.ls.length y.lc)] W fun e w' => e = .returned (.bool bc) /\ Below W.heap.size W w') := fun W g => hbc ▸ Qc7 ro wi le ke y hay W (hy.below g)
 have ED : Hid (∀ W : World, Calls Tryz.prog 80 #[.agg #[.slice dA db.length dc, .int .i64 su]] W fun e w' => e = .returned (.bool bd) /\ Below W.heap.size W w') := fun W => hbd ▸ Qer su dA db.length dc hdl W
 have B0 : Below w.heap.size w ((w.alloc (.cells (Qag ro wi le ke) 33)).alloc (.cells (Qaa id te vo base bt A l.length cap x.rA x.rs.length x.rc x.mA x.ms.length x.mc x.gA x.gs.length x.gc x.time x.dA x.ds.length x.dc x.lA x.ls.length x.lc role vA vn vc nA nn nc pA pn pc com y.rA y.rs.length y.rc y.mA y.ms.length y.mc y.gA y.gs.length y.gc y.time y.dA y.ds.length y.dc y.lA y.ls.length y.lc dA db.length dc su hA0 hs.length hc) 67)) := Qab (Qab (Below.refl _ w) _) _
 have HW : Hid (∀ V : World, Below ((w.alloc (.cells (Qag ro wi le ke) 33)).alloc (.cells (Qaa id te vo base bt A l.length cap x.rA x.rs.length x.rc x.mA x.ms.length x.mc x.gA x.gs.length x.gc x.time x.dA x.ds.length x.dc x.lA x.ls.length x.lc role vA vn vc nA nn nc pA pn pc com y.rA y.rs.length y.rc y.mA y.ms.length y.mc y.gA y.gs.length y.gc y.time y.dA y.ds.length y.dc y.lA y.ls.length y.lc dA db.length dc su hA0 hs.length hc) 67)).heap.size ((w.alloc (.cells (Qag ro wi le ke) 33)).alloc (.cells (Qaa id te vo base bt A l.length cap x.rA x.rs.length x.rc x.mA x.ms.length x.mc x.gA x.gs.length x.gc x.time x.dA x.ds.length x.dc x.lA x.ls.length x.lc role vA vn vc nA nn nc pA pn pc com y.rA y.rs.length y.rc y.mA y.ms.length y.mc y.gA y.gs.length y.gc y.time y.dA y.ds.length y.dc y.lA y.ls.length y.lc dA db.length dc su hA0 hs.length hc) 67)) V -> Blk V (w.heap.size + 1) 67 (Qaa id te vo base bt A l.length cap x.rA x.rs.length x.rc x.mA x.ms.length x.mc x.gA x.gs.length x.gc x.time x.dA x.ds.length x.dc x.lA x.ls.length x.lc role vA vn vc nA nn nc pA pn pc com y.rA y.rs.length y.rc y.mA y.ms.length y.mc y.gA y.gs.length y.gc y.time y.dA y.ds.length y.dc y.lA y.ls.length y.lc dA db.length dc su hA0 hs.length hc) /\ Blk V w.heap.size 33 (Qag ro wi le ke) /\ w.heap.size < V.heap.size /\ w.heap.size + 1 < V.heap.size) := fun V g => by
  have P1 : Blk ((w.alloc (.cells (Qag ro wi le ke) 33)).alloc (.cells (Qaa id te vo base bt A l.length cap x.rA x.rs.length x.rc x.mA x.ms.length x.mc x.gA x.gs.length x.gc x.time x.dA x.ds.length x.dc x.lA x.ls.length x.lc role vA vn vc nA nn nc pA pn pc com y.rA y.rs.length y.rc y.mA y.ms.length y.mc y.gA y.gs.length y.gc y.time y.dA y.ds.length y.dc y.lA y.ls.length y.lc dA db.length dc su hA0 hs.length hc) 67)) (w.heap.size + 1) 67 (Qaa id te vo base bt A l.length cap x.rA x.rs.length x.rc x.mA x.ms.length x.mc x.gA x.gs.length x.gc x.time x.dA x.ds.length x.dc x.lA x.ls.length x.lc role vA vn vc nA nn nc pA pn pc com y.rA y.rs.length y.rc y.mA y.ms.length y.mc y.gA y.gs.length y.gc y.time y.dA y.ds.length y.dc y.lA y.ls.length y.lc dA db.length dc su hA0 hs.length hc) := by have := Blk.new (w.alloc (.cells (Qag ro wi le ke) 33)) 67 (Qaa id te vo base bt A l.length cap x.rA x.rs.length x.rc x.mA x.ms.length x.mc x.gA x.gs.length x.gc x.time x.dA x.ds.length x.dc x.lA x.ls.length x.lc role vA vn vc nA nn nc pA pn pc com y.rA y.rs.length y.rc y.mA y.ms.length y.mc y.gA y.gs.length y.gc y.time y.dA y.ds.length y.dc y.lA y.ls.length y.lc dA db.length dc su hA0 hs.length hc); rwa [World.size_alloc] at this
  have P0 : Blk ((w.alloc (.cells (Qag ro wi le ke) 33)).alloc (.cells (Qaa id te vo base bt A l.length cap x.rA x.rs.length x.rc x.mA x.ms.length x.mc x.gA x.gs.length x.gc x.time x.dA x.ds.length x.dc x.lA x.ls.length x.lc role vA vn vc nA nn nc pA pn pc com y.rA y.rs.length y.rc y.mA y.ms.length y.mc y.gA y.gs.length y.gc y.time y.dA y.ds.length y.dc y.lA y.ls.length y.lc dA db.length dc su hA0 hs.length hc) 67)) w.heap.size 33 (Qag ro wi le ke) := (Blk.new w _ _).alloc _
  exact ⟨P1.below g P1.lt, P0.below g P0.lt, (P0.below g P0.lt).lt, (P1.below g P1.lt).lt⟩
 have HB0 := hidP B0
 have HG := hidP h3
 have H1 := hidP h1
 have H9 := hidP h9
 have HBA := hidP hba
 have HLN := hidP hln
 have HNN := hidP hnn
 have HPN := hidP hpn
 clear h1 h2 h3 h5 h9 hba hbb hbc hbd hlt0 hln hax hay hr hl hA hx hy B0 hnn hpn
 go_enter Tryz.func41, Tryz.ntmps41
 go_wp2_with fail
 refine (E1.out _).mono ?_
 rintro e w1 ⟨rfl, rfl⟩
 generalize (w.alloc (.cells (Qag ro wi le ke) 33)).alloc (.cells (Qaa id te vo base bt A l.length cap x.rA x.rs.length x.rc x.mA x.ms.length x.mc x.gA x.gs.length x.gc x.time x.dA x.ds.length x.dc x.lA x.ls.length x.lc role vA vn vc nA nn nc pA pn pc com y.rA y.rs.length y.rc y.mA y.ms.length y.mc y.gA y.gs.length y.gc y.time y.dA y.ds.length y.dc y.lA y.ls.length y.lc dA db.length dc su hA0 hs.length hc) 67) = W0 at HW HB0 ⊢
 have G0 : Hid (Below W0.heap.size W0 W0) := Below.refl _ _
 cases b1
 . go_wp2
   go_ret
   exact ⟨by rw [hF.out]; simp, HB0.out⟩
 obtain ⟨hs1, hs5⟩ := in_le H1.out
 obtain ⟨HB, HS, q0, q1⟩ := HW.out _ G0.out
 obtain ⟨c0, -, -, -, -, -, -, -, -, -, -, -, -, -, -, -, -, -, -, -, -, -, -, -, -, -⟩ := HB.row26
 clear HB HS
 go_wp2_with fail
 refine (E2.out _).mono ?_
 rintro e w1 ⟨rfl, hw1⟩
 subst w1
 clear q0 q1 c0
 cases b2
 . go_wp2
   go_ret
   exact ⟨by rw [hF.out]; simp, HB0.out⟩
 obtain ⟨HB, HS, q0, q1⟩ := HW.out _ G0.out
 obtain ⟨-, c1, c2, c3, c4, c5, c6, c7, c8, c9, c10, c11, -, -, -, -, -, -, -, -, -, -, -, -, -, -⟩ := HB.row26
 obtain ⟨s0, s1, s2, s3⟩ := HS.row4
 clear HB HS
 go_wp2_with fail
 refine (E3.out _ HB0.out).mono ?_
 rintro e w3 ⟨rfl, g3⟩
 clear q0 q1 c1 c2 c3 c4 c5 c6 c7 c8 c9 c10 c11 s0 s1 s2 s3
 have B3 := hidP (via0 g3 HB0.out)
 have G3 : Hid (Below W0.heap.size W0 w3) := g3
 clear g3
 cases b3
 . go_wp2
   go_ret
   exact ⟨by rw [hF.out]; simp, B3.out⟩
 obtain ⟨HB, HS, q0, q1⟩ := HW.out _ G3.out
 obtain ⟨-, -, c2, -, -, -, -, -, -, -, -, -, c12, c13, c14, c15, -, -, -, -, -, -, -, -, -, -⟩ := HB.row26
 clear HB HS
 by_cases hvo : vo < size
 case neg =>
  have hvo' : size <= vo := by omega
  have hF' : Hid (decide (vo < size) = false) := decide_eq_false hvo
  go_wp2
  go_ret
  exact ⟨by rw [hF.out, hF'.out]; simp, B3.out⟩
 go_wp2_with fail
 refine (E5.out _).mono ?_
 rintro e w1 ⟨rfl, hw1⟩
 subst w1
 cases b5
 . go_wp2
   go_ret
   exact ⟨by rw [hF.out]; simp, B3.out⟩
 by_cases hv : (vn : Int) = size
 case neg =>
  go_wp2
  go_ret
  exact ⟨by rw [hF.out]; simp [hv], B3.out⟩
 subst hv
 by_cases hn1 : nn = vn
 case neg =>
  have hf1 : Hid (decide ((nn : Int) = (vn : Int)) = false) := decide_eq_false (fun h => hn1 (Int.ofNat.inj h))
  go_wp2
  go_ret
  exact ⟨by rw [hF.out, hf1.out]; simp, B3.out⟩
 subst hn1
 by_cases hp1 : pn = nn
 case neg =>
  have hf1 : Hid (decide ((pn : Int) = (nn : Int)) = false) := decide_eq_false (fun h => hp1 (Int.ofNat.inj h))
  have hb1 : ((pn : Int) != (nn : Int)) = true := bne_iff_ne.2 (fun h => hp1 (Int.ofNat.inj h))
  go_wp2
  go_ret
  exact ⟨by rw [hF.out, hf1.out]; simp, B3.out⟩
 subst hp1
 obtain ⟨hl0, hl3⟩ : 0 <= ln /\ ln <= 300 := by have h := last_in (hard_log HG.out); rw [HLN.out] at h; exact h
 clear q0 q1 c2 c12
 obtain ⟨HB, HS, q0, q1⟩ := HW.out _ G3.out
 have c3 : w3.cell? ⟨w.heap.size + 1, 1 + 2, none⟩ = some (.int .i64 base) := HB.cell rfl
 have c4 : w3.cell? ⟨w.heap.size + 1, 1 + 2 + 1, none⟩ = some (.int .i64 bt) := HB.cell rfl
 have c5 : w3.cell? ⟨w.heap.size + 1, 1 + 2 + 2, none⟩ = some (.slice A l.length cap) := HB.cell rfl
 clear HB HS
 go_wp2_with fail
 refine (E6.out _ B3.out).mono ?_
 rintro e w4 ⟨rfl, g4⟩
 have B4 := hidP (via0 g4 B3.out)
 have G4 : Hid (Below W0.heap.size W0 w4) := via0 g4 G3.out
 clear g4 q0 q1 c3 c4 c5 c13 c14 c15 B3 G3
 go_wp2
 go_loopw [9] (fun i W => ∃ (n : Nat), i = .int .i64 (n : Int) /\ n <= pn /\ Hid (Below w.heap.size w W) /\ Hid (Below W0.heap.size W0 W) /\ Hid (Qg2 ln (ns.drop n) (ps.drop n) = b9)) (fun i _ => pn - (intOf i).toNat)
 case atStart => exact ⟨0, rfl, by omega, B4, G4, H9⟩
 case round =>
  obtain ⟨n, rfl, hn, hB, hG, hD⟩ := hrel
  by_cases hlt : n < pn
  . have hn1 : n < ns.length := HNN.out ▸ hlt
    have hp1 : n < ps.length := HPN.out ▸ hlt
    obtain ⟨b, o, rfl, hbs, hin⟩ : ∃ b o, nA = some ⟨b, o, none⟩ /\ b < w.heap.size /\ In w b o ns := by
     rcases hN with h | h
     . subst h; simp at hn1
     . exact h
    obtain ⟨b', o', rfl, hbs', hin'⟩ : ∃ b o, pA = some ⟨b, o, none⟩ /\ b < w.heap.size /\ In w b o ps := by
     rcases hP with h | h
     . subst h; simp at hp1
     . exact h
    have e0 := (hin.below hbs hB.out).getInt n hn1
    have e1 := (hin'.below hbs' hB.out).getInt n hp1
    obtain ⟨c, hc⟩ : ∃ c, inB ns[n] 1 (ln + 1) = c := ⟨_, rfl⟩
    obtain ⟨d, hd⟩ : ∃ d, inB ps[n] 0 ln = d := ⟨_, rfl⟩
    have hfd := feed_drop (ln := ln) hn1 hp1
    rw [hc, hd, hD.out] at hfd
    have HD := hidP hfd
    have E7 : Hid (∀ W : World, Calls Tryz.prog 32 (Qa4 ns[n] 1 (ln + 1)) W fun e w' => e = .returned (.bool c) /\ w' = W) := fun W => hc ▸ in_any _ _ _ W
    have E8 : Hid (∀ W : World, Calls Tryz.prog 32 (Qa4 ps[n] 0 ln) W fun e w' => e = .returned (.bool d) /\ w' = W) := fun W => hd ▸ in_any _ _ _ W
    generalize ns[n] = z1 at e0 E7
    generalize ps[n] = z2 at e1 E8
    have hi0 : (0 : Int) <= (n : Int) := by omega
    have hi1 : (n : Int) < (pn : Int) := by omega
    have hb1 : b < wr.heap.size := Nat.lt_of_lt_of_le hbs hB.out.size
    have hb2 : b' < wr.heap.size := Nat.lt_of_lt_of_le hbs' hB.out.size
    clear hc hd hfd hin hin' hD
    obtain ⟨HB, HS, q0, q1⟩ := HW.out _ hG.out
    obtain ⟨-, -, -, -, -, -, -, -, -, -, -, -, -, -, c14, c15, -, -, -, -, -, -, -, -, -, -⟩ := HB.row26
    clear HB HS
    go_wp2_with fail
    refine (E7.out _).mono ?_
    rintro e w5 ⟨rfl, hw5⟩
    subst w5
    cases c
    . have hb9 : Hid (b9 = false) := by show _ = _; have h := HD.out; simpa using h
      go_wp2
      go_ret
      exact ⟨by rw [hF.out, hb9.out]; simp, hB.out⟩
    go_wp2_with fail
    refine (E8.out _).mono ?_
    rintro e w5 ⟨rfl, hw5⟩
    subst w5
    cases d
    . have hb9 : Hid (b9 = false) := by show _ = _; have h := HD.out; simpa using h
      go_wp2
      go_ret
      exact ⟨by rw [hF.out, hb9.out]; simp, hB.out⟩
    have HD2 : Hid (Qg2 ln (ns.drop (n + 1)) (ps.drop (n + 1)) = b9) := by have h := HD.out; simp only [Bool.true_and] at h; exact h.symm
    go_wp2
    exact ⟨⟨n + 1, by go_num, by omega, hB, hG, HD2⟩, by simp [intOf]; omega⟩
  . obtain rfl : n = pn := by omega
    have hb9 : b9 = true := by
     rw [← hD.out, List.drop_of_length_le (by have := HNN.out; omega), List.drop_of_length_le (by have := HPN.out; omega)]; rfl
    subst hb9
    clear hD hN hP
    go_wp2
    go_loopw [10] (fun i W => ∃ (m : Nat), i = .int .i64 (m : Int) /\ m <= hs.length /\ Hid (Below w.heap.size w W) /\ Hid (Below W0.heap.size W0 W) /\ Hid (Qdc rpcF id (hs.drop m) = ba)) (fun i _ => hs.length - (intOf i).toNat)
    case atStart => exact ⟨0, rfl, by omega, hB, hG, HBA⟩
    case round =>
     clear hB hG
     obtain ⟨m, rfl, hm, hB, hG, hD⟩ := hrel
     by_cases hlt2 : m < hs.length
     . obtain ⟨b, o, rfl, hbs, hin⟩ : ∃ b o, hA0 = some ⟨b, o, none⟩ /\ b < w.heap.size /\ In w b o hs := by
        rcases hH with h | h
        . subst h; simp at hlt2
        . exact h
       obtain ⟨e0, e1, e2, e3, e4, e5, e6, e7, e8, e9⟩ := (hin.below hbs hB.out).getRpC m hlt2
       have hfd := hold_drop (rpcF := rpcF) (id := id) hlt2
       rw [hD.out] at hfd
       have HD := hidP hfd
       have ER := hidP (hR hs[m] (List.getElem_mem hlt2))
       have hi0 : (0 : Int) <= (m : Int) := by omega
       have hi1 : (m : Int) < (hs.length : Int) := by omega
       have hb1 : b < wr.heap.size := Nat.lt_of_lt_of_le hbs hB.out.size
       clear hfd hD
       have HEN : Hid (∀ V : World, Below w.heap.size w V -> _) := fun V g => (hin.below hbs g).getRpC m hlt2
       generalize hs[m] = z at e0 e1 e2 e3 e4 e5 e6 e7 e8 e9 HD ER HEN
       obtain ⟨zk, zf, zt, ze, zi, zj, zm, zA, zc, zl, zo, zs⟩ := z
       simp only [RpC.p, Cel.cs] at e0 e1 e2 e3 e4 e5 e6 e7 e8 e9 HD ER HEN
       clear hin
       generalize hrf : rpcF ⟨zk, zf, zt, ze, zi, zj, zm, zl, zo, zs⟩ = rb at HD ER
       obtain ⟨HB, HS, q0, q1⟩ := HW.out _ hG.out
       obtain ⟨c0, -, -, -, -, -, -, -, -, -, -, -, -, -, -, -, -, -, -, -, -, -, -, -, -, c25⟩ := HB.row26
       clear HB HS
       have mkS : ∀ V : World, Below W0.heap.size W0 V -> Below w.heap.size w V -> (fun (V : World) => V.cell? ⟨w.heap.size + 1, 0, none⟩ = some (.int .i64 id) /\ V.cell? ⟨w.heap.size + 1, 25, none⟩ = some (.slice (some ⟨b, o, none⟩) hs.length hc) /\ V.cell? ⟨b, o + m * 10, none⟩ = some (.int .i64 zk) /\ V.cell? ⟨b, o + m * 10 + 1, none⟩ = some (.int .i64 zf) /\ V.cell? ⟨b, o + m * 10 + 2, none⟩ = some (.int .i64 zt) /\ V.cell? ⟨b, o + m * 10 + 3, none⟩ = some (.int .i64 ze) /\ V.cell? ⟨b, o + m * 10 + 4, none⟩ = some (.int .i64 zi) /\ V.cell? ⟨b, o + m * 10 + 5, none⟩ = some (.int .i64 zj) /\ V.cell? ⟨b, o + m * 10 + 6, none⟩ = some (.int .i64 zm) /\ V.cell? ⟨b, o + m * 10 + 7, none⟩ = some (.slice zA zl.length zc) /\ V.cell? ⟨b, o + m * 10 + 8, none⟩ = some (.bool zo) /\ V.cell? ⟨b, o + m * 10 + 9, none⟩ = some (.string zs)) V := fun V g g' => by
        obtain ⟨HB, -, -, -⟩ := HW.out _ g
        obtain ⟨y0, y1, y2, y3, y4, y5, y6, y7, y8, y9⟩ := HEN.out V g'
        exact ⟨HB.cell rfl, HB.cell rfl, y0, y1, y2, y3, y4, y5, y6, y7, y8, y9⟩
       cases rb
       . have hba : Hid (ba = false) := by show _ = _; have h := HD.out; simpa using h
         go_wp2_with fail
         refine wp_region_noPanic ?_
         refine wp_region_held_drew (S := (fun (V : World) => V.cell? ⟨w.heap.size + 1, 0, none⟩ = some (.int .i64 id) /\ V.cell? ⟨w.heap.size + 1, 25, none⟩ = some (.slice (some ⟨b, o, none⟩) hs.length hc) /\ V.cell? ⟨b, o + m * 10, none⟩ = some (.int .i64 zk) /\ V.cell? ⟨b, o + m * 10 + 1, none⟩ = some (.int .i64 zf) /\ V.cell? ⟨b, o + m * 10 + 2, none⟩ = some (.int .i64 zt) /\ V.cell? ⟨b, o + m * 10 + 3, none⟩ = some (.int .i64 ze) /\ V.cell? ⟨b, o + m * 10 + 4, none⟩ = some (.int .i64 zi) /\ V.cell? ⟨b, o + m * 10 + 5, none⟩ = some (.int .i64 zj) /\ V.cell? ⟨b, o + m * 10 + 6, none⟩ = some (.int .i64 zm) /\ V.cell? ⟨b, o + m * 10 + 7, none⟩ = some (.slice zA zl.length zc) /\ V.cell? ⟨b, o + m * 10 + 8, none⟩ = some (.bool zo) /\ V.cell? ⟨b, o + m * 10 + 9, none⟩ = some (.string zs))) (by kernel_rfl) ?_ (fun hH => ?_)
         . exact ⟨c0, c25, e0, e1, e2, e3, e4, e5, e6, e7, e8, e9⟩
         refine ztk [0,1,2,3,4,5] ?_; repeat (refine ztn (h := ?_); try simp only [zX,zY])
         refine zte ?_
         refine zR1 6 (fun K hK => ?_)
         simp only [zG]
         go_simp
         refine (ER.out _ hB.out.drew).mono ?_; rintro e w6 ⟨rfl, g6⟩; have BB := hidP (via0 g6 hB.out.drew); have GG : Hid (Below W0.heap.size W0 w6) := via0 g6 hG.out.drew; have SS := mkS _ GG.out BB.out; clear g6
         refine hK.out _ _ SS fun hH => ?_; clear hK K; try simp only [zX,zY]
         refine ztk [7,8,9,10,11,12,13,14,15,16,17,18] ?_; repeat ((first | refine ztn (h := ?_) | refine ztu (h := ?_)); try simp only [zX,zY])
         refine zte ?_
         refine zdn ?_
         go_wp2
         go_ret
         exact ⟨by rw [hF.out, hba.out]; simp, BB.out⟩
       by_cases hfr : zf = id
       case neg =>
        have hq : (zf == id) = false := beq_eq_false_iff_ne.2 hfr
        have hba : Hid (ba = false) := by show _ = _; have h := HD.out; rw [hq] at h; simpa using h
        clear hq
        have hbq : (zf != id) = true := bne_iff_ne.2 hfr
        go_wp2_with fail
        refine wp_region_noPanic ?_
        refine wp_region_held_drew (S := (fun (V : World) => V.cell? ⟨w.heap.size + 1, 0, none⟩ = some (.int .i64 id) /\ V.cell? ⟨w.heap.size + 1, 25, none⟩ = some (.slice (some ⟨b, o, none⟩) hs.length hc) /\ V.cell? ⟨b, o + m * 10, none⟩ = some (.int .i64 zk) /\ V.cell? ⟨b, o + m * 10 + 1, none⟩ = some (.int .i64 zf) /\ V.cell? ⟨b, o + m * 10 + 2, none⟩ = some (.int .i64 zt) /\ V.cell? ⟨b, o + m * 10 + 3, none⟩ = some (.int .i64 ze) /\ V.cell? ⟨b, o + m * 10 + 4, none⟩ = some (.int .i64 zi) /\ V.cell? ⟨b, o + m * 10 + 5, none⟩ = some (.int .i64 zj) /\ V.cell? ⟨b, o + m * 10 + 6, none⟩ = some (.int .i64 zm) /\ V.cell? ⟨b, o + m * 10 + 7, none⟩ = some (.slice zA zl.length zc) /\ V.cell? ⟨b, o + m * 10 + 8, none⟩ = some (.bool zo) /\ V.cell? ⟨b, o + m * 10 + 9, none⟩ = some (.string zs))) (by kernel_rfl) ?_ (fun hH => ?_)
        . exact ⟨c0, c25, e0, e1, e2, e3, e4, e5, e6, e7, e8, e9⟩
        refine ztk [0,1,2,3,4,5] ?_; repeat (refine ztn (h := ?_); try simp only [zX,zY])
        refine zte ?_
        refine zR1 6 (fun K hK => ?_)
        simp only [zG]
        go_simp
        refine (ER.out _ hB.out.drew).mono ?_; rintro e w6 ⟨rfl, g6⟩; have BB := hidP (via0 g6 hB.out.drew); have GG : Hid (Below W0.heap.size W0 w6) := via0 g6 hG.out.drew; have SS := mkS _ GG.out BB.out; clear g6
        refine hK.out _ _ SS fun hH => ?_; clear hK K; try simp only [zX,zY]
        refine ztk [7,8,9,10,11,12,13,14,15,16,17,18] ?_; repeat (refine ztn (h := ?_); try simp only [zX,zY])
        refine zte ?_
        refine zdn ?_
        go_wp2
        go_ret
        exact ⟨by rw [hF.out, hba.out]; simp, BB.out⟩
       have HD2 : Hid (Qdc rpcF id (hs.drop (m + 1)) = ba) := by show _ = _; have h := HD.out; simpa [hfr] using h.symm
       have hbq : (zf != id) = false := by simp [hfr]
       clear hfr
       go_wp2_with fail
       refine wp_region_noPanic ?_
       refine wp_region_held_drew (S := (fun (V : World) => V.cell? ⟨w.heap.size + 1, 0, none⟩ = some (.int .i64 id) /\ V.cell? ⟨w.heap.size + 1, 25, none⟩ = some (.slice (some ⟨b, o, none⟩) hs.length hc) /\ V.cell? ⟨b, o + m * 10, none⟩ = some (.int .i64 zk) /\ V.cell? ⟨b, o + m * 10 + 1, none⟩ = some (.int .i64 zf) /\ V.cell? ⟨b, o + m * 10 + 2, none⟩ = some (.int .i64 zt) /\ V.cell? ⟨b, o + m * 10 + 3, none⟩ = some (.int .i64 ze) /\ V.cell? ⟨b, o + m * 10 + 4, none⟩ = some (.int .i64 zi) /\ V.cell? ⟨b, o + m * 10 + 5, none⟩ = some (.int .i64 zj) /\ V.cell? ⟨b, o + m * 10 + 6, none⟩ = some (.int .i64 zm) /\ V.cell? ⟨b, o + m * 10 + 7, none⟩ = some (.slice zA zl.length zc) /\ V.cell? ⟨b, o + m * 10 + 8, none⟩ = some (.bool zo) /\ V.cell? ⟨b, o + m * 10 + 9, none⟩ = some (.string zs))) (by kernel_rfl) ?_ (fun hH => ?_)
       . exact ⟨c0, c25, e0, e1, e2, e3, e4, e5, e6, e7, e8, e9⟩
       refine ztk [0,1,2,3,4,5] ?_; repeat (refine ztn (h := ?_); try simp only [zX,zY])
       refine zte ?_
       refine zR1 6 (fun K hK => ?_)
       simp only [zG]
       go_simp
       refine (ER.out _ hB.out.drew).mono ?_; rintro e w6 ⟨rfl, g6⟩; have BB := hidP (via0 g6 hB.out.drew); have GG : Hid (Below W0.heap.size W0 w6) := via0 g6 hG.out.drew; have SS := mkS _ GG.out BB.out; clear g6
       refine hK.out _ _ SS fun hH => ?_; clear hK K; try simp only [zX,zY]
       refine ztk [7,8,9,10,11,12,13,14,15,16,17,18] ?_; repeat (refine ztn (h := ?_); try simp only [zX,zY])
       refine zte ?_
       refine zdn ?_
       go_wp2
       exact ⟨⟨m + 1, by go_num, by omega, BB, GG, HD2⟩, by simp [intOf]; omega⟩
     . obtain rfl : m = hs.length := by omega
       have hba : ba = true := by rw [← hD.out, List.drop_length]; rfl
       subst hba
       clear hD hH hR
       obtain ⟨HB, HS, q0, q1⟩ := HW.out _ hG.out
       have c25 : wr.cell? ⟨w.heap.size + 1, 25, none⟩ = some (.slice hA0 hs.length hc) := HB.cell rfl
       have c16 : wr.cell? ⟨w.heap.size + 1, 16, none⟩ = some (.int .i64 com) := HB.cell rfl
       have c3 : wr.cell? ⟨w.heap.size + 1, 1 + 2, none⟩ = some (.int .i64 base) := HB.cell rfl
       clear HB HS
       go_wp2_with fail
       refine (EB.out _).mono ?_
       rintro e w7 ⟨rfl, hw7⟩
       subst w7
       clear c16 c3 c25 q0 q1
       cases bb
       . go_wp2
         go_ret
         exact ⟨by rw [hF.out]; simp, hB.out⟩
       obtain ⟨HB, HS, q0, q1⟩ := HW.out _ hG.out
       obtain ⟨-, -, -, -, -, -, -, -, -, -, -, -, -, -, -, -, -, c17, c18, c19, c20, c21, c22, -, -, -⟩ := HB.row26
       obtain ⟨s0, s1, s2, s3⟩ := HS.row4
       clear HB HS
       go_wp2_with fail
       refine (EC.out _ hB.out).mono ?_
       rintro e w7 ⟨rfl, g7⟩
       have B7 := hidP (via0 g7 hB.out)
       have G7 : Hid (Below W0.heap.size W0 w7) := via0 g7 hG.out
       clear q0 q1 c17 c18 c19 c20 c21 c22 s0 s1 s2 s3
       clear g7 hB hG
       cases bc
       . go_wp2
         go_ret
         exact ⟨by rw [hF.out]; simp, B7.out⟩
       obtain ⟨HB, HS, q0, q1⟩ := HW.out _ G7.out
       obtain ⟨-, -, -, -, -, -, -, -, -, -, -, -, -, -, -, -, -, -, -, -, -, -, -, c23, c24, -⟩ := HB.row26
       clear HB HS
       go_wp2_with fail
       refine (ED.out _).mono ?_
       rintro e w8 ⟨rfl, g8⟩
       have B8 := hidP (via0 g8 B7.out)
       have G8 : Hid (Below W0.heap.size W0 w8) := via0 g8 G7.out
       clear q0 q1 c23 c24
       clear g8 B7 G7
       cases bd
       . go_wp2
         go_ret
         exact ⟨by rw [hF.out]; simp, B8.out⟩
       obtain ⟨HB, HS, q0, q1⟩ := HW.out _ G8.out
       obtain ⟨-, -, -, -, -, -, -, -, -, -, -, -, -, -, -, -, -, -, -, -, -, -, -, -, -, c25⟩ := HB.row26
       clear HB HS
       by_cases h40 : (hs.length : Int) <= 40
       . have h41 : Hid (decide (hs.length <= 40) = true) := decide_eq_true (by omega)
         go_wp2
         go_ret
         exact ⟨by rw [hF.out, h41.out]; simp; omega, B8.out⟩
       . have h41 : Hid (decide (hs.length <= 40) = false) := decide_eq_false (by omega)
         go_wp2
         go_ret
         exact ⟨by rw [hF.out, h41.out]; simp; omega, B8.out⟩
end Go.Proofs.YtkmkldjipihceaaGreat.Gen
