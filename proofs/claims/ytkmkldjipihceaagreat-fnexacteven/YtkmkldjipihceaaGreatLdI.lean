/-
  The program's Leader. No condition but the sizes that every text and number has.
-/
import Derived.Test.YtkmkldjipihceaaGreatWoI
set_option linter.unusedVariables false
set_option linter.unusedSimpArgs false
set_option maxRecDepth 100000
set_option maxHeartbeats 8000000
set_option maxRecDepth 100000
set_option maxHeartbeats 8000000
namespace Go.Proofs.YtkmkldjipihceaaGreat.Gen
open ChangeShapes WideShapes ChangeAt RowKit Joins Deep Base
theorem leads_no (p : WC) (i : Int) (hi : inB i 0 (p.size - 1) = false) (w : World) :
 Calls Tryz.prog 61 #[.agg (Qal p), .int .i64 i] w fun e w' => e = .returned (.bool false) /\ Below w.heap.size w w' := by
 have E1 : Hid (∀ W : World, Calls Tryz.prog 91 #[.int .i64 i, .int .i64 p.size] W fun e w' => e = .returned (.bool false) /\ Below W.heap.size W w') := fun W => hi ▸ Qcl _ _ W
 have P0 := Blk.new w 39 (Qal p)
 have B0 := hidP (show Below w.heap.size w (w.alloc (.cells (Qal p) 39)) from Qab (Below.refl _ _) _)
 have x4 := P0.cell (i := 4) (v := .int .i64 p.size) rfl
 have q0 := P0.lt
 clear P0 hi
 go_enter Tryz.func61, Tryz.ntmps61
 go_wp2_with fail
 refine (E1.out _).mono ?_
 rintro e w1 ⟨rfl, g⟩
 replace B0 := hidP (via0 g B0.out)
 go_wp2
 go_ret
 exact ⟨rfl, B0.out⟩
theorem leads_any (p : WC) (n : Nat) (hn : n < p.ns.length) (hi : inB (n : Int) 0 (p.size - 1) = true) (w : World) (hA : At w p.nA p.ns) :
 Calls Tryz.prog 61 #[.agg (Qal p), .int .i64 (n : Int)] w fun e w' => e = .returned (.bool (p.ns[n].role == 2)) /\ Below w.heap.size w w' := by
 have E1 : Hid (∀ W : World, Calls Tryz.prog 91 #[.int .i64 (n : Int), .int .i64 p.size] W fun e w' => e = .returned (.bool true) /\ Below W.heap.size W w') := fun W => hi ▸ Qcl _ _ W
 have P0 := hidP (Blk.new w 39 (Qal p))
 have B0 := hidP (show Below w.heap.size w (w.alloc (.cells (Qal p) 39)) from Qab (Below.refl _ _) _)
 have x4 := P0.out.cell (i := 4) (v := .int .i64 p.size) rfl
 have q0 := P0.out.lt
 obtain ⟨bn, on, hE, hbn, hIn⟩ : ∃ b o, p.nA = some ⟨b, o, none⟩ /\ b < w.heap.size /\ In w b o p.ns := by
  rcases hA with h | h
  . rw [h] at hn; simp at hn
  . exact h
 have HI := hidP hIn
 have HE := hidP hE
 have hi0 : (0 : Int) <= (n : Int) := by omega
 have hi1 : (n : Int) < (p.ns.length : Int) := by omega
 clear hi hA hIn hE
 go_enter Tryz.func61, Tryz.ntmps61
 go_wp2_with fail
 refine (E1.out _).mono ?_
 rintro e w1 ⟨rfl, g⟩
 replace B0 := hidP (via0 g B0.out)
 replace P0 := hidP (P0.out.below g P0.out.lt)
 clear x4 q0 g
 have x5 := P0.out.cell (i := 5) (v := .slice p.nA p.ns.length p.nc) rfl
 have q0 := P0.out.lt
 rw [HE.out] at x5
 have cr : w1.cell? ⟨bn, on + n * 26 + 12, none⟩ = some (.int .i64 p.ns[n].role) := (HI.out.below hbn B0.out).cell n hn (f := 12) rfl
 go_wp2
 go_ret
 exact ⟨rfl, B0.out⟩
theorem ev1_any (z ln : Int) (B : Nat) (w : World) (hB : Blk w B 3 #[.int .i64 ln]) :
 Calls Tryz.prog 68 #[.int .i64 z, .pointer (some ⟨B, 0, none⟩)] w fun e w' => e = .returned (.bool (z == ln)) /\ w' = w := by
 have c0 : w.cell? ⟨B, 0, none⟩ = some (.int .i64 ln) := hB.cell rfl
 have q0 := hB.lt
 clear hB
 go_enter Tryz.func68, Tryz.ntmps68
 go_wp2
 go_ret
 exact ⟨rfl, rfl⟩
theorem ev2_any (x y : PC) (B : Nat) (w : World) (hB : Blk w B 67 (Qaw y)) :
 Calls Tryz.prog 70 #[.agg (Qaw x), .pointer (some ⟨B, 0, none⟩)] w fun e w' => e = .returned (.bool (x.com == y.com)) /\ Below w.heap.size w w' := by
 have P1 := hB.alloc (.cells (Qaw x) 67)
 have P0 := Blk.new w 67 (Qaw x)
 have c0 := P0.cell (i := 16) (v := .int .i64 x.com) rfl
 have c1 := P1.cell (i := 16) (v := .int .i64 y.com) rfl
 have q0 := P0.lt
 have q1 := P1.lt
 clear P0 P1 hB
 go_enter Tryz.func70, Tryz.ntmps70
 go_wp2
 go_ret
 exact ⟨rfl, Qab (Below.refl _ _) _⟩
theorem Qij (ln : Int) (B : Nat) (A : Option Addr) (cap : Nat) (l : List Int) (hl : l.length <= 1048576) (w : World) (hB : Blk w B 3 #[.int .i64 ln]) (hA : At w A l) :
 Calls Tryz.prog 55 #[.slice A l.length cap, .func (.func 68) #[] #[.pointer (some ⟨B, 0, none⟩)]] w fun e w' => e = .returned (.bool (allI ln l)) /\ Below w.heap.size w w' := by
 have HA := hidP hA
 have HX : Hid (∀ (z : Int) (W : World), Below w.heap.size w W -> Calls Tryz.prog 68 #[.int .i64 z, .pointer (some ⟨B, 0, none⟩)] W fun e w' => e = .returned (.bool (z == ln)) /\ w' = W) := fun z W g => ev1_any z ln B W (hB.below g hB.lt)
 obtain ⟨ab, hab⟩ : ∃ z, z = allI ln l := ⟨_, rfl⟩
 rw [← hab]
 have hz0 : Hid (ab = allI ln (l.drop 0)) := hidP hab
 clear hA hB hab
 go_enter Tryz.func55, Tryz.ntmps55
 go_wp2
 go_loopw [9] (fun i w' => ∃ (n : Nat), i = .int .i64 (n : Int) /\ n <= l.length /\ Hid (ab = allI ln (l.drop n)) /\ Below w.heap.size w w') (fun i _ => l.length - (intOf i).toNat)
 case atStart => exact ⟨0, rfl, by omega, hz0, Below.refl _ _⟩
 case round =>
  clear hz0
  obtain ⟨n, rfl, hn, hz, hbl⟩ := hrel
  by_cases hlt : n < l.length
  . obtain ⟨b, o, rfl, hbs, hIn⟩ : ∃ b o, A = some ⟨b, o, none⟩ /\ b < w.heap.size /\ In w b o l := by
     rcases HA.out with h | h
     . subst h; simp at hlt
     . exact h
    have c0 := (hIn.below hbs hbl).getInt n hlt
    have hd := hidP (hz.out.trans (Qhf ln l n hlt))
    have hi0 : (0 : Int) <= (n : Int) := by omega
    have hi1 : (n : Int) < (l.length : Int) := by omega
    have HC := hidP (HX.out l[n])
    clear hz
    generalize l[n] = zz at *
    by_cases hzz : zz = ln
    . have hbq : (zz == ln) = true := by simp [hzz]
      have hd2 := hidP (show ab = allI ln (l.drop (n + 1)) by rw [hd.out, decide_eq_true hzz]; rfl)
      rw [hbq] at HC
      clear hzz hbq
      go_wp2_with fail
      refine (HC.out _ hbl).mono ?_
      rintro e w1 ⟨rfl, hw⟩
      subst w1
      go_wp2
      exact ⟨⟨n + 1, by go_num, by omega, hd2, hbl⟩, by simp [intOf]; omega⟩
    . have hbq : (zz == ln) = false := by simp [hzz]
      have hd2 := hidP (show ab = false by rw [hd.out, decide_eq_false hzz]; rfl)
      rw [hbq] at HC
      clear hzz hbq
      go_wp2_with fail
      refine (HC.out _ hbl).mono ?_
      rintro e w1 ⟨rfl, hw⟩
      subst w1
      go_wp2
      go_ret
      first
      | exact ⟨by rw [hd2.out]; try rfl, hbl⟩
      | exact ⟨by rw [hd2.out]; try rfl, Qab hbl _⟩
  . have e : l.drop n = [] := List.drop_of_length_le (by omega)
    have h := hz.out
    rw [e] at h
    have hf := hidP (show ab = true from h)
    go_wp2
    go_ret
    exact ⟨by rw [hf.out]; try rfl, hbl⟩
theorem Qii (y : PC) (B : Nat) (A : Option Addr) (cap : Nat) (l : List PC) (hl : l.length <= 1048576) (w : World) (hB : Blk w B 67 (Qaw y)) (hA : At w A l) :
 Calls Tryz.prog 69 #[.slice A l.length cap, .func (.func 70) #[] #[.pointer (some ⟨B, 0, none⟩)]] w fun e w' => e = .returned (.bool (allC y.com l)) /\ Below w.heap.size w w' := by
 have HA := hidP hA
 have HX : Hid (∀ (x : PC) (W : World), Below w.heap.size w W -> Calls Tryz.prog 70 #[.agg (Qaw x), .pointer (some ⟨B, 0, none⟩)] W fun e w' => e = .returned (.bool (x.com == y.com)) /\ Below W.heap.size W w') := fun x W g => ev2_any x y B W (hB.below g hB.lt)
 obtain ⟨ab, hab⟩ : ∃ z, z = allC y.com l := ⟨_, rfl⟩
 rw [← hab]
 have hz0 : Hid (ab = allC y.com (l.drop 0)) := hidP hab
 clear hA hB hab
 go_enter Tryz.func69, Tryz.ntmps69
 go_wp2
 go_loopw [9] (fun i w' => ∃ (n : Nat), i = .int .i64 (n : Int) /\ n <= l.length /\ Hid (ab = allC y.com (l.drop n)) /\ Hid (Below w.heap.size w w')) (fun i _ => l.length - (intOf i).toNat)
 case atStart => exact ⟨0, rfl, by omega, hz0, hidP (Below.refl _ _)⟩
 case round =>
  clear hz0
  obtain ⟨n, rfl, hn, hz, hB⟩ := hrel
  by_cases hlt : n < l.length
  . obtain ⟨b, o, rfl, hbs, hIn⟩ : ∃ b o, A = some ⟨b, o, none⟩ /\ b < w.heap.size /\ In w b o l := by
     rcases HA.out with h | h
     . subst h; simp at hlt
     . exact h
    have HR := hidP ((hIn.below hbs hB.out).el n hlt)
    have hd := hidP (hz.out.trans (Qhg y.com l n hlt))
    have hi0 : (0 : Int) <= (n : Int) := by omega
    have hi1 : (n : Int) < (l.length : Int) := by omega
    have HC := hidP (HX.out l[n])
    clear hz
    go_upto_region 3 with fail
    refine wp_region_lit ?_
    iterate 3 go_step
    refine wpList_load_mid (by rfl) 67 _ (by rfl) b (o + n * 26) (by rfl) (Cel.cs l[n]) _ HR.out Tryz.underlying67 rfl Qcu ?_
    iterate 3 go_step
    refine Qa2 rfl 67 _ _ rfl (g := wr.heap.size) (cells := Qaw l[n]) rfl rfl (Blk.new wr 67 Qak) (by kernel_rfl) rfl (Qb3 _) ?_
    refine wpList_nil ?_
    rw [World.setRow_alloc_new]
    have X1 := hidP (Blk.new wr 67 (Qaw l[n]))
    have B1 := hidP (show Below w.heap.size w (wr.alloc (.cells (Qaw l[n]) 67)) from Qab hB.out _)
    clear HR
    go_upto_region 4 with fail
    refine wp_region_lit ?_
    iterate 3 go_step
    refine Qau rfl 67 _ rfl (b := wr.heap.size) rfl X1.out Tryz.underlying67 Qcu ?_
    generalize hq : (l[n].com == y.com) = bb at HC
    go_wp2_with fail
    refine (HC.out _ B1.out).mono ?_
    rintro e w6 ⟨rfl, g6⟩
    have BB := hidP (via0 g6 B1.out)
    by_cases hzz : l[n].com = y.com
    . have hbq : bb = true := by rw [← hq]; simp [hzz]
      have hd2 := hidP (show ab = allC y.com (l.drop (n + 1)) by rw [hd.out, decide_eq_true hzz]; rfl)
      subst bb
      clear hzz
      go_wp2
      exact ⟨⟨n + 1, by go_num, by omega, hd2, BB⟩, by simp [intOf]; omega⟩
    . have hbq : bb = false := by rw [← hq]; simp [hzz]
      have hd2 := hidP (show ab = false by rw [hd.out, decide_eq_false hzz]; rfl)
      subst bb
      clear hzz
      go_wp2
      go_ret
      exact ⟨by rw [hd2.out]; try rfl, BB.out⟩
  . have e : l.drop n = [] := List.drop_of_length_le (by omega)
    have h := hz.out
    rw [e] at h
    have hf := hidP (show ab = true from h)
    go_wp2
    go_ret
    exact ⟨by rw [hf.out]; try rfl, hB.out⟩
theorem isEven_any (p : WC) (h : WAsk p) (n : Nat) (hn : n < p.ns.length) (hi : inB (n : Int) 0 (p.size - 1) = true) (w : World) (hp : WAt w p) :
 Calls Tryz.prog 34 #[.agg (Qal p), .int .i64 (n : Int)] w fun e w' => e = .returned (.bool (Qe3 p.ns p.ns[n])) /\ Below w.heap.size w w' := by
 have hnl := h.f.nl
 have hpn := hp.ne _ (List.getElem_mem hn)
 have hQ := h.n _ (List.getElem_mem hn)
 have EL : Hid (∀ W : World, Below w.heap.size w W -> Calls Tryz.prog 61 #[.agg (Qal p), .int .i64 (n : Int)] W fun e w' => e = .returned (.bool (p.ns[n].role == 2)) /\ Below W.heap.size W w') := fun W g => leads_any p n hn hi W (hp.na.below g)
 obtain ⟨x, hx⟩ : ∃ x, x = p.ns[n] := ⟨_, rfl⟩
 rw [← hx] at EL hpn hQ ⊢
 have EN : Hid (∀ W : World, Below w.heap.size w W -> Calls Tryz.prog 67 #[.agg (Qad x.te x.vo x.base x.bt x.A x.l.length x.cap x.x.rA x.x.rs.length x.x.rc x.x.mA x.x.ms.length x.x.mc x.x.gA x.x.gs.length x.x.gc x.x.time x.x.dA x.x.ds.length x.x.dc x.x.lA x.x.ls.length x.x.lc)] W fun e w' => e = .returned (.int .i64 (Qbc x.base x.l)) /\ Below W.heap.size W w') := fun W g => Qcg x.te x.vo x.base x.bt x.A x.cap x.l hQ.f.ll x.x W (hpn.la.below g)
 have E1 : Hid (∀ (W : World) (B : Nat), Below w.heap.size w W -> Blk W B 3 #[.int .i64 (Qbc x.base x.l)] -> Calls Tryz.prog 55 #[.slice x.pA x.ps.length x.pc, .func (.func 68) #[] #[.pointer (some ⟨B, 0, none⟩)]] W fun e w' => e = .returned (.bool (allI (Qbc x.base x.l) x.ps)) /\ Below W.heap.size W w') := fun W B g hB => Qij _ B x.pA x.pc x.ps hQ.f.pl W hB (hpn.pa.below g)
 have E2 : Hid (∀ (W : World) (B : Nat), Below w.heap.size w W -> Blk W B 67 (Qaw x) -> Calls Tryz.prog 69 #[.slice p.nA p.ns.length p.nc, .func (.func 70) #[] #[.pointer (some ⟨B, 0, none⟩)]] W fun e w' => e = .returned (.bool (allC x.com p.ns)) /\ Below W.heap.size W w') := fun W B g hB => Qii x B p.nA p.nc p.ns hnl W hB (hp.na.below g)
 have HF : Hid (Qe3 p.ns x = (decide (x.role = 2) && allI (Qbc x.base x.l) x.ps && allC x.com p.ns)) := rfl
 have P0 := hidP (Blk.new w 39 (Qal p))
 have B0 := hidP (show Below w.heap.size w (w.alloc (.cells (Qal p) 39)) from Qab (Below.refl _ _) _)
 obtain ⟨bn, on, hE, hbn, hIn⟩ : ∃ b o, p.nA = some ⟨b, o, none⟩ /\ b < w.heap.size /\ In w b o p.ns := by
  rcases hp.na with h | h
  . rw [h] at hn; simp at hn
  . exact h
 have HI : Hid (∀ W : World, Below w.heap.size w W -> W.rangeAt bn (on + n * 26) (Cel.cs x)) := fun W g => by rw [hx]; exact (hIn.below hbn g).el n hn
 have hi0 : (0 : Int) <= (n : Int) := by omega
 have hi1 : (n : Int) < (p.ns.length : Int) := by omega
 have hmf : ∀ (fn : Fn) (first cap : Array Value) (w : World), (Instr.makeFunc fn first cap).run Tryz.prog w = .ok (.func fn first cap) w := fun _ _ _ _ => rfl
 have HE := hidP hE
 have hrl : Hid ((x.role == 2) = decide (x.role = 2)) := hidP (by by_cases h : x.role = 2<;>simp [h])
 clear hE hIn hpn hQ hp h hx
 generalize Qe3 p.ns x = eb at HF ⊢
 generalize Qbc x.base x.l = ln at EN E1 HF
 generalize allI ln x.ps = b1 at E1 HF
 generalize allC x.com p.ns = b2 at E2 HF
 generalize decide (x.role = 2) = b0 at HF hrl
 rw [hrl.out] at EL
 go_enter Tryz.func34, Tryz.ntmps34
 go_upto_region 1 with fail
 refine wp_region_lit ?_
 refine Qau rfl 39 _ rfl (b := w.heap.size) rfl P0.out Tryz.underlying39 infoW ?_
 go_wp2_with fail
 refine (EL.out _ B0.out).mono ?_
 rintro e w1 ⟨rfl, g⟩
 replace B0 := hidP (via0 g B0.out)
 replace P0 := hidP (P0.out.below g P0.out.lt)
 clear g EL
 cases b0
 . have hf : Hid (eb = false) := hidP (by rw [HF.out]; rfl)
   go_wp2
   go_ret
   exact ⟨by rw [hf.out]; try rfl, B0.out⟩
 have x5 : w1.cell? ⟨w.heap.size, 5, none⟩ = some (.slice (some ⟨bn, on, none⟩) p.ns.length p.nc) := by rw [← HE.out]; exact P0.out.cell rfl
 have q0 := P0.out.lt
 go_upto_region 3 with fail
 refine wp_region_lit ?_
 iterate 12 go_step
 refine wpList_load_mid (by rfl) 67 _ (by rfl) bn (on + n * 26) (by rfl) (Cel.cs x) _ (HI.out _ B0.out) Tryz.underlying67 rfl Qcu ?_
 iterate 3 go_step
 refine Qa2 rfl 67 _ _ rfl (g := w1.heap.size) (cells := Qaw x) rfl rfl (Blk.new w1 67 Qak) (by kernel_rfl) rfl (Qb3 _) ?_
 refine wpList_nil ?_
 rw [World.setRow_alloc_new]
 have XN : Hid (Blk (w1.alloc (.cells (Qaw x) 67)) w1.heap.size 67 (Qaw x)) := Blk.new w1 _ _
 replace B0 := hidP (show Below w.heap.size w (w1.alloc (.cells (Qaw x) 67)) from Qab B0.out _)
 replace P0 := hidP (P0.out.alloc (.cells (Qaw x) 67))
 clear x5 q0
 generalize w1.alloc (.cells (Qaw x) 67) = Y at XN B0 P0 ⊢
 generalize w1.heap.size = bx at XN ⊢
 obtain ⟨y0, y1, y2, y3, y4, y5, y6, y7, y8, y9, y10, y11, y15⟩ : Y.cell? ⟨bx, 1, none⟩ = some (.int .i64 x.te) /\ Y.cell? ⟨bx, 2, none⟩ = some (.int .i64 x.vo) /\ Y.cell? ⟨bx, 3, none⟩ = some (.int .i64 x.base) /\ Y.cell? ⟨bx, 4, none⟩ = some (.int .i64 x.bt) /\ Y.cell? ⟨bx, 5, none⟩ = some (.slice x.A x.l.length x.cap) /\ Y.cell? ⟨bx, 6, none⟩ = some (.slice x.x.rA x.x.rs.length x.x.rc) /\ Y.cell? ⟨bx, 7, none⟩ = some (.slice x.x.mA x.x.ms.length x.x.mc) /\ Y.cell? ⟨bx, 8, none⟩ = some (.slice x.x.gA x.x.gs.length x.x.gc) /\ Y.cell? ⟨bx, 9, none⟩ = some (.int .i64 x.x.time) /\ Y.cell? ⟨bx, 10, none⟩ = some (.slice x.x.dA x.x.ds.length x.x.dc) /\ Y.cell? ⟨bx, 11, none⟩ = some (.slice x.x.lA x.x.ls.length x.x.lc) /\ Y.cell? ⟨bx, 12, none⟩ = some (.int .i64 x.role) /\ Y.cell? ⟨bx, 15, none⟩ = some (.slice x.pA x.ps.length x.pc) := ⟨XN.out.cell rfl, XN.out.cell rfl, XN.out.cell rfl, XN.out.cell rfl, XN.out.cell rfl, XN.out.cell rfl, XN.out.cell rfl, XN.out.cell rfl, XN.out.cell rfl, XN.out.cell rfl, XN.out.cell rfl, XN.out.cell rfl, XN.out.cell rfl⟩
 have q1 := XN.out.lt
 go_wp2_with fail
 refine (EN.out _ B0.out).mono ?_
 rintro e w2 ⟨rfl, g⟩
 replace B0 := hidP (Qab (via0 g B0.out) (.cells #[.int .i64 ln] 3))
 replace P0 := hidP ((P0.out.below g P0.out.lt).alloc (.cells #[.int .i64 ln] 3))
 replace XN := hidP ((XN.out.below g XN.out.lt).alloc (.cells #[.int .i64 ln] 3))
 have LN := hidP (Blk.new w2 3 #[.int .i64 ln])
 clear g y0 y1 y2 y3 y4 y5 y6 y7 y8 y9 y10 y11 y15 q1 EN
 have y15 : (w2.alloc (.cells #[.int .i64 ln] 3)).cell? ⟨bx, 15, none⟩ = some (.slice x.pA x.ps.length x.pc) := XN.out.cell rfl
 have q1 := XN.out.lt
 go_wp2_with fail
 refine (E1.out _ _ B0.out LN.out).mono ?_
 rintro e w3 ⟨rfl, g⟩
 replace B0 := hidP (via0 g B0.out)
 replace P0 := hidP (P0.out.below g P0.out.lt)
 replace XN := hidP (XN.out.below g XN.out.lt)
 clear g y15 q1 LN E1
 cases b1
 . have hf : Hid (eb = false) := hidP (by rw [HF.out]; rfl)
   go_wp2
   go_ret
   exact ⟨by rw [hf.out]; try rfl, B0.out⟩
 have x5 : w3.cell? ⟨w.heap.size, 5, none⟩ = some (.slice p.nA p.ns.length p.nc) := P0.out.cell rfl
 have q0 := P0.out.lt
 have hf : Hid (eb = b2) := hidP (by rw [HF.out]; rfl)
 go_wp2_with fail
 refine (E2.out _ _ B0.out XN.out).mono ?_
 rintro e w4 ⟨rfl, g⟩
 go_wp2
 go_ret
 exact ⟨by rw [hf.out]; try rfl, via0 g B0.out⟩
theorem isEven_no (p : WC) (i : Int) (hi : inB i 0 (p.size - 1) = false) (w : World) :
 Calls Tryz.prog 34 #[.agg (Qal p), .int .i64 i] w fun e w' => e = .returned (.bool false) /\ Below w.heap.size w w' := by
 have EL : Hid (∀ W : World, Calls Tryz.prog 61 #[.agg (Qal p), .int .i64 i] W fun e w' => e = .returned (.bool false) /\ Below W.heap.size W w') := fun W => leads_no p i hi W
 have P0 := hidP (Blk.new w 39 (Qal p))
 have B0 := hidP (show Below w.heap.size w (w.alloc (.cells (Qal p) 39)) from Qab (Below.refl _ _) _)
 clear hi
 go_enter Tryz.func34, Tryz.ntmps34
 go_upto_region 1 with fail
 refine wp_region_lit ?_
 refine Qau rfl 39 _ rfl (b := w.heap.size) rfl P0.out Tryz.underlying39 infoW ?_
 go_wp2_with fail
 refine (EL.out _).mono ?_
 rintro e w1 ⟨rfl, g⟩
 replace B0 := hidP (via0 g B0.out)
 go_wp2
 go_ret
 exact ⟨rfl, B0.out⟩
theorem Qg0 (p : WC) (i : Int) (hi : I64 i) (h : WAsk p) (w : World) (hp : WAt w p) :
 Calls Tryz.prog 11 #[.agg (Qal p), .int .i64 i] w fun e w' => e = .returned (.bool (Qcp p i)) /\ Below w.heap.size w w' := by
 have EW : Hid (∀ W : World, Below w.heap.size w W -> Calls Tryz.prog 24 #[.agg (Qal p)] W fun e w' => e = .returned (.bool (Qas p)) /\ Below W.heap.size W w') := fun W g => Qej p h W (hp.below g)
 have EE : Hid (Qas p = true -> ∀ W : World, Below w.heap.size w W -> Calls Tryz.prog 34 #[.agg (Qal p), .int .i64 i] W fun e w' => e = .returned (.bool (Qcp p i)) /\ Below W.heap.size W w') := fun hw W g => by
  cases hi2 : inB i 0 (p.size - 1) with
  | true =>
   obtain ⟨n, hn, rfl, e⟩ := even_at hw hi2
   rw [e]
   exact isEven_any p h n hn hi2 W (hp.below g)
  | false =>
   have e : Qcp p i = false := by unfold Qcp; rw [hi2]; simp
   rw [e]
   exact isEven_no p i hi2 W
 have HF : Hid (Qas p = false -> Qcp p i = false) := fun hw => by unfold Qcp; rw [hw]; rfl
 have P0 := hidP (Blk.new w 39 (Qal p))
 have B0 := hidP (show Below w.heap.size w (w.alloc (.cells (Qal p) 39)) from Qab (Below.refl _ _) _)
 clear hp h
 generalize Qas p = wb at EW HF EE
 generalize Qcp p i = eb at HF EE ⊢
 go_enter Tryz.func11, Tryz.ntmps11
 go_upto_region 1 with fail
 refine wp_region_lit ?_
 refine Qau rfl 39 _ rfl (b := w.heap.size) rfl P0.out Tryz.underlying39 infoW ?_
 go_wp2_with fail
 refine (EW.out _ B0.out).mono ?_
 rintro e w1 ⟨rfl, g⟩
 replace B0 := hidP (via0 g B0.out)
 replace P0 := hidP (P0.out.below g P0.out.lt)
 clear g EW
 cases wb
 . have hf := hidP (HF.out rfl)
   go_wp2
   go_ret
   exact ⟨by rw [hf.out]; try rfl, B0.out⟩
 replace EE := hidP (EE.out rfl)
 dsimp only
 apply_assumption
 iterate 3 go_step
 refine Qcs (by rfl) 39 _ rfl (b := w.heap.size) rfl P0.out Tryz.underlying39 infoW ?_
 go_wp2_with fail
 refine (EE.out _ B0.out).mono ?_
 rintro e w3 ⟨rfl, g⟩
 go_wp2
 go_ret
 exact ⟨rfl, via0 g B0.out⟩
end Go.Proofs.YtkmkldjipihceaaGreat.Gen
