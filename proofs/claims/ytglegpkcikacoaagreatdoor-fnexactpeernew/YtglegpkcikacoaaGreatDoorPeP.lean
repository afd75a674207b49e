/-
  Which nodes are right, as lists alone; rpcF tells which messages are. No condition.
-/
import Derived.Test.YtglegpkcikacoaaGreatDoorLGet
set_option linter.unusedVariables false
set_option linter.unusedSimpArgs false
set_option maxRecDepth 100000
set_option maxHeartbeats 8000000
namespace Go.Proofs.YtglegpkcikacoaaGreatDoor.Gen
open ChangeShapes WideShapes ChangeAt RowKit Joins Deep Base
def Qjf (ln : Int) (ns ps : List Int) : Bool := ns.all (fun z => inB z 1 (ln + 1)) && ps.all (fun z => inB z 0 ln)
def Qea (rpcF : RpP -> Bool) (id : Int) (hs : List RpC) : Bool := hs.all (fun z => rpcF z.p && z.frm == id)
def peerB (rpcF : RpP -> Bool) (ro wi le ke id te vo base bt : Int) (l : List En) (x : KC) (role : Int) (vn nn pn : Nat) (ns ps : List Int) (com : Int) (y : KC) (su : Int) (dn : Nat) (hs : List RpC) (size : Int) : Bool :=
  inB size 1 5 && inB id 0 (size - 1) && Qfi ro wi le ke te vo base bt l x && decide (vo < size) && inB role 0 2 && decide ((vn : Int) = size) && decide ((nn : Int) = size) && decide ((pn : Int) = size) && Qjf (Qb1 base l) ns ps && Qea rpcF id hs && inB com base (Qb1 base l) && Qbu ro wi le ke y && Qd5 su dn && decide (hs.length <= 40)
theorem last_in {base bt : Int} {l : List En} (h : logB base bt l = true) : 0 <= Qb1 base l /\ Qb1 base l <= 300 := by
 simp only [logB, Bool.and_eq_true, decide_eq_true_eq] at h
 obtain ⟨⟨⟨⟨h3, h4⟩, h5⟩, h6⟩, h7⟩ := h
 have h3 := in_le h3
 unfold Qb1
 split
 . exact h3
 . rw [IntKind.wrap_i64]; omega
theorem hard_log {ro wi le ke te vo base bt : Int} {l : List En} {x : KC} (h : Qfi ro wi le ke te vo base bt l x = true) : logB base bt l = true := by
 simp only [Qfi, Bool.and_eq_true] at h
 exact h.1.1.2
theorem feed_drop {ln : Int} {ns ps : List Int} {n : Nat} (h1 : n < ns.length) (h2 : n < ps.length) : Qjf ln (ns.drop n) (ps.drop n) = (inB ns[n] 1 (ln + 1) && inB ps[n] 0 ln && Qjf ln (ns.drop (n + 1)) (ps.drop (n + 1))) := by
 unfold Qjf
 rw [List.drop_eq_getElem_cons h1, List.drop_eq_getElem_cons h2]
 simp only [List.all_cons]
 generalize inB ns[n] 1 (ln + 1) = a
 generalize inB ps[n] 0 ln = b
 cases a<;>cases b<;>simp
theorem hold_drop {rpcF : RpP -> Bool} {id : Int} {hs : List RpC} {n : Nat} (h1 : n < hs.length) : Qea rpcF id (hs.drop n) = (rpcF hs[n].p && hs[n].frm == id && Qea rpcF id (hs.drop (n + 1))) := by
 unfold Qea
 rw [List.drop_eq_getElem_cons h1]
 rfl
theorem feed1_any (z ln : Int) (hl : 0 <= ln /\ ln <= 300) (Bl : Nat) (w : World) (hB : Blk w Bl 85 #[.int .i64 ln]) :
 Calls Tryz.prog 97 #[.int .i64 z, .pointer (some ⟨Bl, 0, none⟩)] w fun e w' => e = .returned (.bool (inB z 1 (ln + 1))) /\ w' = w := by
 have c0 : w.cell? ⟨Bl, 0, none⟩ = some (.int .i64 ln) := hB.cell rfl
 obtain ⟨h0, h1⟩ := hl
 have HC := hidP (within_any z 1 (ln + 1))
 have q0 := hB.lt
 clear hB
 go_enter Tryz.func97, Tryz.ntmps97
 go_wp2_with fail
 refine (HC.out _).mono ?_
 rintro e w1 ⟨rfl, rfl⟩
 go_wp2
 go_ret
 exact ⟨rfl, rfl⟩
theorem Qhl (ln : Int) (hl : 0 <= ln /\ ln <= 300) (Bl : Nat) (A : Option Addr) (cap : Nat) (l : List Int) (hll : l.length <= 1048576) (w : World) (hB : Blk w Bl 85 #[.int .i64 ln]) (hA : At w A l) :
 Calls Tryz.prog 96 #[.slice A l.length cap, .func (.func 97) #[] #[.pointer (some ⟨Bl, 0, none⟩)]] w fun e w' => e = .returned (.bool (l.all (fun z => inB z 1 (ln + 1)))) /\ Below w.heap.size w w' := by
 have HA := hidP hA
 have HB := hidP hB
 have HL := hidP hl
 clear hA hB hl
 go_enter Tryz.func96, Tryz.ntmps96
 go_wp2
 go_loopw [9] (fun i w' => ∃ (n : Nat), i = .int .i64 (n : Int) /\ n <= l.length /\ Hid ((l.take n).all (fun z => inB z 1 (ln + 1)) = true) /\ Below w.heap.size w w') (fun i _ => l.length - (intOf i).toNat)
 case atStart => exact ⟨0, rfl, by omega, rfl, Below.refl _ _⟩
 case round =>
  obtain ⟨n, rfl, hn, hall, hbl⟩ := hrel
  by_cases hlt : n < l.length
  . obtain ⟨b, o, rfl, hbs, hIn⟩ : ∃ b o, A = some ⟨b, o, none⟩ /\ b < w.heap.size /\ In w b o l := by
     rcases HA.out with h | h
     . subst h; simp at hlt
     . exact h
    have c0 := (hIn.below hbs hbl).getInt n hlt
    have hb1 : b < wr.heap.size := Nat.lt_of_lt_of_le hbs hbl.size
    have HC : Calls Tryz.prog 97 #[.int .i64 l[n], .pointer (some ⟨Bl, 0, none⟩)] wr fun e w' => e = .returned (.bool (inB l[n] 1 (ln + 1))) /\ w' = wr := feed1_any l[n] ln HL.out Bl wr (HB.out.below hbl HB.out.lt)
    have hsu := Qby (fun z => inB z 1 (ln + 1)) hlt
    have hno := Qde (fun z => inB z 1 (ln + 1)) hlt
    generalize hb : inB l[n] 1 (ln + 1) = bb at HC hsu hno
    have HC := hidP HC
    have Hsu := hidP hsu
    have Hno := hidP hno
    clear hb hsu hno
    generalize l[n] = zz at c0 HC
    have hi0 : (0 : Int) <= (n : Int) := by omega
    have hi1 : (n : Int) < (l.length : Int) := by omega
    cases bb
    . have HN := hidP (Hno.out rfl)
      clear Hno Hsu
      go_wp2_with fail
      refine HC.out.mono ?_
      rintro e w1 ⟨rfl, hw1⟩
      subst w1
      go_wp2
      go_ret
      exact ⟨by rw [HN.out]; rfl, hbl⟩
    . clear Hno
      go_wp2_with fail
      refine HC.out.mono ?_
      rintro e w1 ⟨rfl, hw1⟩
      subst w1
      go_wp2
      exact ⟨⟨n + 1, by go_num, by omega, by show _ = _; rw [Hsu.out, hall.out]; rfl, hbl⟩, by simp [intOf]; omega⟩
  . have e : l.take n = l := List.take_of_length_le (by omega)
    go_wp2
    go_ret
    have h := hall.out
    rw [e] at h
    exact ⟨by rw [h]; rfl, hbl⟩
theorem feed2_any (z ln : Int) (hl : 0 <= ln /\ ln <= 300) (Bl : Nat) (w : World) (hB : Blk w Bl 85 #[.int .i64 ln]) :
 Calls Tryz.prog 98 #[.int .i64 z, .pointer (some ⟨Bl, 0, none⟩)] w fun e w' => e = .returned (.bool (inB z 0 (ln))) /\ w' = w := by
 have c0 : w.cell? ⟨Bl, 0, none⟩ = some (.int .i64 ln) := hB.cell rfl
 obtain ⟨h0, h1⟩ := hl
 have HC := hidP (within_any z 0 (ln))
 have q0 := hB.lt
 clear hB
 go_enter Tryz.func98, Tryz.ntmps98
 go_wp2_with fail
 refine (HC.out _).mono ?_
 rintro e w1 ⟨rfl, rfl⟩
 go_wp2
 go_ret
 exact ⟨rfl, rfl⟩
theorem Qhk (ln : Int) (hl : 0 <= ln /\ ln <= 300) (Bl : Nat) (A : Option Addr) (cap : Nat) (l : List Int) (hll : l.length <= 1048576) (w : World) (hB : Blk w Bl 85 #[.int .i64 ln]) (hA : At w A l) :
 Calls Tryz.prog 96 #[.slice A l.length cap, .func (.func 98) #[] #[.pointer (some ⟨Bl, 0, none⟩)]] w fun e w' => e = .returned (.bool (l.all (fun z => inB z 0 (ln)))) /\ Below w.heap.size w w' := by
 have HA := hidP hA
 have HB := hidP hB
 have HL := hidP hl
 clear hA hB hl
 go_enter Tryz.func96, Tryz.ntmps96
 go_wp2
 go_loopw [9] (fun i w' => ∃ (n : Nat), i = .int .i64 (n : Int) /\ n <= l.length /\ Hid ((l.take n).all (fun z => inB z 0 (ln)) = true) /\ Below w.heap.size w w') (fun i _ => l.length - (intOf i).toNat)
 case atStart => exact ⟨0, rfl, by omega, rfl, Below.refl _ _⟩
 case round =>
  obtain ⟨n, rfl, hn, hall, hbl⟩ := hrel
  by_cases hlt : n < l.length
  . obtain ⟨b, o, rfl, hbs, hIn⟩ : ∃ b o, A = some ⟨b, o, none⟩ /\ b < w.heap.size /\ In w b o l := by
     rcases HA.out with h | h
     . subst h; simp at hlt
     . exact h
    have c0 := (hIn.below hbs hbl).getInt n hlt
    have hb1 : b < wr.heap.size := Nat.lt_of_lt_of_le hbs hbl.size
    have HC : Calls Tryz.prog 98 #[.int .i64 l[n], .pointer (some ⟨Bl, 0, none⟩)] wr fun e w' => e = .returned (.bool (inB l[n] 0 (ln))) /\ w' = wr := feed2_any l[n] ln HL.out Bl wr (HB.out.below hbl HB.out.lt)
    have hsu := Qby (fun z => inB z 0 (ln)) hlt
    have hno := Qde (fun z => inB z 0 (ln)) hlt
    generalize hb : inB l[n] 0 (ln) = bb at HC hsu hno
    have HC := hidP HC
    have Hsu := hidP hsu
    have Hno := hidP hno
    clear hb hsu hno
    generalize l[n] = zz at c0 HC
    have hi0 : (0 : Int) <= (n : Int) := by omega
    have hi1 : (n : Int) < (l.length : Int) := by omega
    cases bb
    . have HN := hidP (Hno.out rfl)
      clear Hno Hsu
      go_wp2_with fail
      refine HC.out.mono ?_
      rintro e w1 ⟨rfl, hw1⟩
      subst w1
      go_wp2
      go_ret
      exact ⟨by rw [HN.out]; rfl, hbl⟩
    . clear Hno
      go_wp2_with fail
      refine HC.out.mono ?_
      rintro e w1 ⟨rfl, hw1⟩
      subst w1
      go_wp2
      exact ⟨⟨n + 1, by go_num, by omega, by show _ = _; rw [Hsu.out, hall.out]; rfl, hbl⟩, by simp [intOf]; omega⟩
  . have e : l.take n = l := List.take_of_length_le (by omega)
    go_wp2
    go_ret
    have h := hall.out
    rw [e] at h
    exact ⟨by rw [h]; rfl, hbl⟩
theorem Blk.row31 {W : World} {B : Nat} {t : TypeId} {v0 v1 v2 v3 v4 v5 v6 v7 v8 v9 v10 v11 v12 v13 v14 v15 v16 v17 v18 v19 v20 v21 v22 v23 v24 v25 v26 v27 v28 v29 v30 : Value} (p : Blk W B t #[v0, v1, v2, v3, v4, v5, v6, v7, v8, v9, v10, v11, v12, v13, v14, v15, v16, v17, v18, v19, v20, v21, v22, v23, v24, v25, v26, v27, v28, v29, v30]) :
 W.cell? ⟨B, 0, none⟩ = some v0 /\ W.cell? ⟨B, 1, none⟩ = some v1 /\ W.cell? ⟨B, 2, none⟩ = some v2 /\ W.cell? ⟨B, 3, none⟩ = some v3 /\ W.cell? ⟨B, 4, none⟩ = some v4 /\ W.cell? ⟨B, 5, none⟩ = some v5 /\ W.cell? ⟨B, 6, none⟩ = some v6 /\ W.cell? ⟨B, 7, none⟩ = some v7 /\ W.cell? ⟨B, 8, none⟩ = some v8 /\ W.cell? ⟨B, 9, none⟩ = some v9 /\ W.cell? ⟨B, 10, none⟩ = some v10 /\ W.cell? ⟨B, 11, none⟩ = some v11 /\ W.cell? ⟨B, 11 + 1, none⟩ = some v12 /\ W.cell? ⟨B, 11 + 2, none⟩ = some v13 /\ W.cell? ⟨B, 11 + 3, none⟩ = some v14 /\ W.cell? ⟨B, 15, none⟩ = some v15 /\ W.cell? ⟨B, 16, none⟩ = some v16 /\ W.cell? ⟨B, 17, none⟩ = some v17 /\ W.cell? ⟨B, 18, none⟩ = some v18 /\ W.cell? ⟨B, 19, none⟩ = some v19 /\ W.cell? ⟨B, 20, none⟩ = some v20 /\ W.cell? ⟨B, 21, none⟩ = some v21 /\ W.cell? ⟨B, 22, none⟩ = some v22 /\ W.cell? ⟨B, 22 + 1, none⟩ = some v23 /\ W.cell? ⟨B, 22 + 2, none⟩ = some v24 /\ W.cell? ⟨B, 22 + 3, none⟩ = some v25 /\ W.cell? ⟨B, 22 + 4, none⟩ = some v26 /\ W.cell? ⟨B, 22 + 5, none⟩ = some v27 /\ W.cell? ⟨B, 28, none⟩ = some v28 /\ W.cell? ⟨B, 28 + 1, none⟩ = some v29 /\ W.cell? ⟨B, 30, none⟩ = some v30 :=
 ⟨p.cell (by rfl), p.cell (by rfl), p.cell (by rfl), p.cell (by rfl), p.cell (by rfl), p.cell (by rfl), p.cell (by rfl), p.cell (by rfl), p.cell (by rfl), p.cell (by rfl), p.cell (by rfl), p.cell (by rfl), p.cell (by rfl), p.cell (by rfl), p.cell (by rfl), p.cell (by rfl), p.cell (by rfl), p.cell (by rfl), p.cell (by rfl), p.cell (by rfl), p.cell (by rfl), p.cell (by rfl), p.cell (by rfl), p.cell (by rfl), p.cell (by rfl), p.cell (by rfl), p.cell (by rfl), p.cell (by rfl), p.cell (by rfl), p.cell (by rfl), p.cell (by rfl)⟩
theorem Qdl (te vo base bt : Int) (A : Option Addr) (cap : Nat) (l : List En) (hl : l.length <= 1048576) (x : KC) (w : World) (hA : At w A l) :
 Calls Tryz.prog 52 #[.agg #[.int .i64 te, .int .i64 vo, .int .i64 base, .int .i64 bt, .slice A l.length cap, .slice x.rA x.rs.length x.rc, .slice x.mA x.ms.length x.mc, .slice x.gA x.gs.length x.gc, .int .i64 x.time, .slice x.dA x.ds.length x.dc, .slice x.lA x.ls.length x.lc]] w fun e w' => e = .returned (.int .i64 (Qb1 base l)) /\ Below w.heap.size w w' := by
 obtain ⟨ln, hln⟩ : ∃ z, Qb1 base l = z := ⟨_, rfl⟩
 obtain ⟨lt, hlt0⟩ : ∃ z, Qfc bt l = z := ⟨_, rfl⟩
 have P0 := Blk.new w 35 #[.int .i64 te, .int .i64 vo, .int .i64 base, .int .i64 bt, .slice A l.length cap, .slice x.rA x.rs.length x.rc, .slice x.mA x.ms.length x.mc, .slice x.gA x.gs.length x.gc, .int .i64 x.time, .slice x.dA x.ds.length x.dc, .slice x.lA x.ls.length x.lc]
 have B0 : Below w.heap.size w (w.alloc (.cells #[.int .i64 te, .int .i64 vo, .int .i64 base, .int .i64 bt, .slice A l.length cap, .slice x.rA x.rs.length x.rc, .slice x.mA x.ms.length x.mc, .slice x.gA x.gs.length x.gc, .int .i64 x.time, .slice x.dA x.ds.length x.dc, .slice x.lA x.ls.length x.lc] 35)) := Qaa (Below.refl _ w) _
 have E6 : Hid (Calls Tryz.prog 93 #[.agg #[.int .i64 base, .int .i64 bt, .slice A l.length cap]] (w.alloc (.cells #[.int .i64 te, .int .i64 vo, .int .i64 base, .int .i64 bt, .slice A l.length cap, .slice x.rA x.rs.length x.rc, .slice x.mA x.ms.length x.mc, .slice x.gA x.gs.length x.gc, .int .i64 x.time, .slice x.dA x.ds.length x.dc, .slice x.lA x.ls.length x.lc] 35)) fun e w' => e = .returned (.tuple #[.int .i64 ln, .int .i64 lt]) /\ Below (w.alloc (.cells #[.int .i64 te, .int .i64 vo, .int .i64 base, .int .i64 bt, .slice A l.length cap, .slice x.rA x.rs.length x.rc, .slice x.mA x.ms.length x.mc, .slice x.gA x.gs.length x.gc, .int .i64 x.time, .slice x.dA x.ds.length x.dc, .slice x.lA x.ls.length x.lc] 35)).heap.size (w.alloc (.cells #[.int .i64 te, .int .i64 vo, .int .i64 base, .int .i64 bt, .slice A l.length cap, .slice x.rA x.rs.length x.rc, .slice x.mA x.ms.length x.mc, .slice x.gA x.gs.length x.gc, .int .i64 x.time, .slice x.dA x.ds.length x.dc, .slice x.lA x.ls.length x.lc] 35)) w') := by have h := Qej base bt A cap l (by omega) (w.alloc (.cells #[.int .i64 te, .int .i64 vo, .int .i64 base, .int .i64 bt, .slice A l.length cap, .slice x.rA x.rs.length x.rc, .slice x.mA x.ms.length x.mc, .slice x.gA x.gs.length x.gc, .int .i64 x.time, .slice x.dA x.ds.length x.dc, .slice x.lA x.ls.length x.lc] 35)) (hA.below B0); rw [hln, hlt0] at h; exact h
 rw [hln]
 obtain ⟨u0, u1, u2, u3, u4, u5, u6, u7, u8, u9, u10⟩ := P0.row11
 clear P0 hA hln hlt0
 go_enter Tryz.func52, Tryz.ntmps52
 go_wp2_with fail
 refine E6.out.mono ?_
 rintro e w1 ⟨rfl, g1⟩
 go_wp2
 go_ret
 exact ⟨rfl, via0 g1 B0⟩
theorem Qge (ro wi le ke id te vo base bt role com su size : Int) (A vA nA pA dA hA0 : Option Addr) (cap vn vc nn nc pn pc dc hc : Nat) (l : List En) (ns ps : List Int) (db : List UInt8) (hs : List RpC) (x y : KC) (hl : l.length <= 1048576) (hnn : nn = ns.length) (hpn : pn = ps.length) (hnl : nn <= 1048576) (hpl : pn <= 1048576) (hln : 0 <= Qb1 base l /\ Qb1 base l <= 300) (w : World) (hA : At w A l) (hN : At w nA ns) (hP : At w pA ps) :
 Calls Tryz.prog 51 #[.agg #[.int .i64 te, .int .i64 vo, .int .i64 base, .int .i64 bt, .slice A l.length cap, .slice x.rA x.rs.length x.rc, .slice x.mA x.ms.length x.mc, .slice x.gA x.gs.length x.gc, .int .i64 x.time, .slice x.dA x.ds.length x.dc, .slice x.lA x.ls.length x.lc, .int .i64 ro, .int .i64 wi, .int .i64 le, .int .i64 ke, .int .i64 size, .int .i64 id, .int .i64 role, .slice vA vn vc, .slice nA nn nc, .slice pA pn pc, .int .i64 com, .slice y.rA y.rs.length y.rc, .slice y.mA y.ms.length y.mc, .slice y.gA y.gs.length y.gc, .int .i64 y.time, .slice y.dA y.ds.length y.dc, .slice y.lA y.ls.length y.lc, .slice dA db.length dc, .int .i64 su, .slice hA0 hs.length hc]] w fun e w' => e = .returned (.bool (decide ((nn : Int) = size) && ns.all (fun z => inB z 1 (Qb1 base l + 1)) && decide ((pn : Int) = size) && ps.all (fun z => inB z 0 (Qb1 base l)))) /\ Below w.heap.size w w' := by
 have P0 := hidP (Blk.new w 58 #[.int .i64 te, .int .i64 vo, .int .i64 base, .int .i64 bt, .slice A l.length cap, .slice x.rA x.rs.length x.rc, .slice x.mA x.ms.length x.mc, .slice x.gA x.gs.length x.gc, .int .i64 x.time, .slice x.dA x.ds.length x.dc, .slice x.lA x.ls.length x.lc, .int .i64 ro, .int .i64 wi, .int .i64 le, .int .i64 ke, .int .i64 size, .int .i64 id, .int .i64 role, .slice vA vn vc, .slice nA nn nc, .slice pA pn pc, .int .i64 com, .slice y.rA y.rs.length y.rc, .slice y.mA y.ms.length y.mc, .slice y.gA y.gs.length y.gc, .int .i64 y.time, .slice y.dA y.ds.length y.dc, .slice y.lA y.ls.length y.lc, .slice dA db.length dc, .int .i64 su, .slice hA0 hs.length hc])
 have B0 : Below w.heap.size w (w.alloc (.cells #[.int .i64 te, .int .i64 vo, .int .i64 base, .int .i64 bt, .slice A l.length cap, .slice x.rA x.rs.length x.rc, .slice x.mA x.ms.length x.mc, .slice x.gA x.gs.length x.gc, .int .i64 x.time, .slice x.dA x.ds.length x.dc, .slice x.lA x.ls.length x.lc, .int .i64 ro, .int .i64 wi, .int .i64 le, .int .i64 ke, .int .i64 size, .int .i64 id, .int .i64 role, .slice vA vn vc, .slice nA nn nc, .slice pA pn pc, .int .i64 com, .slice y.rA y.rs.length y.rc, .slice y.mA y.ms.length y.mc, .slice y.gA y.gs.length y.gc, .int .i64 y.time, .slice y.dA y.ds.length y.dc, .slice y.lA y.ls.length y.lc, .slice dA db.length dc, .int .i64 su, .slice hA0 hs.length hc] 58)) := Qaa (Below.refl _ w) _
 have E1 := hidP (Qdl te vo base bt A cap l hl x (w.alloc (.cells #[.int .i64 te, .int .i64 vo, .int .i64 base, .int .i64 bt, .slice A l.length cap, .slice x.rA x.rs.length x.rc, .slice x.mA x.ms.length x.mc, .slice x.gA x.gs.length x.gc, .int .i64 x.time, .slice x.dA x.ds.length x.dc, .slice x.lA x.ls.length x.lc, .int .i64 ro, .int .i64 wi, .int .i64 le, .int .i64 ke, .int .i64 size, .int .i64 id, .int .i64 role, .slice vA vn vc, .slice nA nn nc, .slice pA pn pc, .int .i64 com, .slice y.rA y.rs.length y.rc, .slice y.mA y.ms.length y.mc, .slice y.gA y.gs.length y.gc, .int .i64 y.time, .slice y.dA y.ds.length y.dc, .slice y.lA y.ls.length y.lc, .slice dA db.length dc, .int .i64 su, .slice hA0 hs.length hc] 58)) (hA.below B0))
 generalize hlz : Qb1 base l = ln at *
 have E2 : Hid (∀ (W : World) (Bl : Nat), Below w.heap.size w W -> Blk W Bl 85 #[.int .i64 ln] -> Calls Tryz.prog 96 #[.slice nA nn nc, .func (.func 97) #[] #[.pointer (some ⟨Bl, 0, none⟩)]] W fun e w' => e = .returned (.bool (ns.all (fun z => inB z 1 (ln + 1)))) /\ Below W.heap.size W w') := fun W Bl g hb => by have h := Qhl ln hln Bl nA nc ns (by omega) W hb (hN.below g); rw [← hnn] at h; exact h
 have E3 : Hid (∀ (W : World) (Bl : Nat), Below w.heap.size w W -> Blk W Bl 85 #[.int .i64 ln] -> Calls Tryz.prog 96 #[.slice pA pn pc, .func (.func 98) #[] #[.pointer (some ⟨Bl, 0, none⟩)]] W fun e w' => e = .returned (.bool (ps.all (fun z => inB z 0 ln))) /\ Below W.heap.size W w') := fun W Bl g hb => by have h := Qhk ln hln Bl pA pc ps (by omega) W hb (hP.below g); rw [← hpn] at h; exact h
 generalize ns.all (fun z => inB z 1 (ln + 1)) = b1 at *
 generalize ps.all (fun z => inB z 0 ln) = b2 at *
 have hmf : ∀ (fn : Fn) (first cap : Array Value) (w : World), (Instr.makeFunc fn first cap).run Tryz.prog w = .ok (.func fn first cap) w := fun _ _ _ _ => rfl
 have HB0 := hidP B0
 clear hA hN hP hnn hpn hlz hl B0
 obtain ⟨c0, c1, c2, c3, c4, c5, c6, c7, c8, c9, c10, -, -, -, -, -, -, -, -, -, -, -, -, -, -, -, -, -, -, -, -⟩ := P0.out.row31
 go_enter Tryz.func51, Tryz.ntmps51
 go_wp2_with fail
 refine E1.out.mono ?_
 rintro e w1 ⟨rfl, g1⟩
 have B1 := via0 g1 HB0.out
 have PL := Blk.new w1 85 #[.int .i64 ln]
 have P1 := (P0.out.below g1 P0.out.lt).alloc (.cells #[.int .i64 ln] 85)
 have B2 : Below w.heap.size w (w1.alloc (.cells #[.int .i64 ln] 85)) := Qaa B1 _
 have HX2 := hidP (And.intro B2 (And.intro PL P1))
 clear c0 c1 c2 c3 c4 c5 c6 c7 c8 c9 c10 g1 B1 PL P1 B2 P0 E1 HB0
 obtain ⟨-, -, -, -, -, -, -, -, -, -, -, -, -, -, -, c15, -, -, -, c19, c20, -, -, -, -, -, -, -, -, -, -⟩ := HX2.out.2.2.row31
 have q0 := HX2.out.2.2.lt
 have q1 := HX2.out.2.1.lt
 by_cases h1 : (nn : Int) = size
 case neg =>
  go_wp2
  go_ret
  exact ⟨by simp [h1], HX2.out.1⟩
 subst h1
 go_wp2_with fail
 refine (E2.out _ _ HX2.out.1 HX2.out.2.1).mono ?_
 rintro e w3 ⟨rfl, g3⟩
 have HX3 := hidP (And.intro (via0 g3 HX2.out.1) (And.intro (HX2.out.2.1.below g3 HX2.out.2.1.lt) (HX2.out.2.2.below g3 HX2.out.2.2.lt)))
 clear c15 c19 c20 q0 q1 g3 HX2 E2
 obtain ⟨-, -, -, -, -, -, -, -, -, -, -, -, -, -, -, c15, -, -, -, -, c20, -, -, -, -, -, -, -, -, -, -⟩ := HX3.out.2.2.row31
 have q0 := HX3.out.2.2.lt
 have q1 := HX3.out.2.1.lt
 cases b1
 . go_wp2
   go_ret
   exact ⟨by simp, HX3.out.1⟩
 by_cases h2 : pn = nn
 case neg =>
  have hf1 : Hid (decide ((pn : Int) = (nn : Int)) = false) := decide_eq_false (fun h => h2 (Int.ofNat.inj h))
  have hb1 : ((pn : Int) == (nn : Int)) = false := beq_eq_false_iff_ne.2 (fun h => h2 (Int.ofNat.inj h))
  go_wp2
  go_ret
  exact ⟨by rw [hf1.out]; simp, HX3.out.1⟩
 subst h2
 go_wp2_with fail
 refine (E3.out _ _ HX3.out.1 HX3.out.2.1).mono ?_
 rintro e w4 ⟨rfl, g4⟩
 have B4 := hidP (via0 g4 HX3.out.1)
 cases b2
 . go_wp2
   go_ret
   exact ⟨by simp, B4.out⟩
 . go_wp2
   go_ret
   exact ⟨by simp, B4.out⟩
theorem hold1_any (ro wi le ke id te vo base bt role com su size : Int) (A vA nA pA dA hA0 : Option Addr) (cap vn vc nn nc pn pc dc hc : Nat) (l : List En) (ns ps : List Int) (db : List UInt8) (hs : List RpC) (x y : KC) (zk zf zt ze zi zj zm : Int) (zA : Option Addr) (zc : Nat) (zl : List En) (zo : Bool) (zs : ByteArray) (rb : Bool) (Bn : Nat) (w : World) (hB : Blk w Bn 58 #[.int .i64 te, .int .i64 vo, .int .i64 base, .int .i64 bt, .slice A l.length cap, .slice x.rA x.rs.length x.rc, .slice x.mA x.ms.length x.mc, .slice x.gA x.gs.length x.gc, .int .i64 x.time, .slice x.dA x.ds.length x.dc, .slice x.lA x.ls.length x.lc, .int .i64 ro, .int .i64 wi, .int .i64 le, .int .i64 ke, .int .i64 size, .int .i64 id, .int .i64 role, .slice vA vn vc, .slice nA nn nc, .slice pA pn pc, .int .i64 com, .slice y.rA y.rs.length y.rc, .slice y.mA y.ms.length y.mc, .slice y.gA y.gs.length y.gc, .int .i64 y.time, .slice y.dA y.ds.length y.dc, .slice y.lA y.ls.length y.lc, .slice dA db.length dc, .int .i64 su, .slice hA0 hs.length hc])
 (hR : ∀ W : World, Below w.heap.size w W -> Calls Tryz.prog 114 #[.agg #[.int .i64 zk, .int .i64 zf, .int .i64 zt, .int .i64 ze, .int .i64 zi, .int .i64 zj, .int .i64 zm, .slice zA zl.length zc, .bool zo, .string zs], .int .i64 size] W fun e w' => e = .returned (.bool rb) /\ Below W.heap.size W w') :
 Calls Tryz.prog 113 #[.agg #[.int .i64 zk, .int .i64 zf, .int .i64 zt, .int .i64 ze, .int .i64 zi, .int .i64 zj, .int .i64 zm, .slice zA zl.length zc, .bool zo, .string zs], .pointer (some ⟨Bn, 0, none⟩)] w fun e w' => e = .returned (.bool (rb && zf == id)) /\ Below w.heap.size w w' := by
 have B0 : Below w.heap.size w (w.alloc (.cells #[.int .i64 zk, .int .i64 zf, .int .i64 zt, .int .i64 ze, .int .i64 zi, .int .i64 zj, .int .i64 zm, .slice zA zl.length zc, .bool zo, .string zs] 82)) := Qaa (Below.refl _ w) _
 have HN : Hid (∀ W : World, Below (w.alloc (.cells #[.int .i64 zk, .int .i64 zf, .int .i64 zt, .int .i64 ze, .int .i64 zi, .int .i64 zj, .int .i64 zm, .slice zA zl.length zc, .bool zo, .string zs] 82)).heap.size (w.alloc (.cells #[.int .i64 zk, .int .i64 zf, .int .i64 zt, .int .i64 ze, .int .i64 zi, .int .i64 zj, .int .i64 zm, .slice zA zl.length zc, .bool zo, .string zs] 82)) W -> Blk W Bn 58 #[.int .i64 te, .int .i64 vo, .int .i64 base, .int .i64 bt, .slice A l.length cap, .slice x.rA x.rs.length x.rc, .slice x.mA x.ms.length x.mc, .slice x.gA x.gs.length x.gc, .int .i64 x.time, .slice x.dA x.ds.length x.dc, .slice x.lA x.ls.length x.lc, .int .i64 ro, .int .i64 wi, .int .i64 le, .int .i64 ke, .int .i64 size, .int .i64 id, .int .i64 role, .slice vA vn vc, .slice nA nn nc, .slice pA pn pc, .int .i64 com, .slice y.rA y.rs.length y.rc, .slice y.mA y.ms.length y.mc, .slice y.gA y.gs.length y.gc, .int .i64 y.time, .slice y.dA y.ds.length y.dc, .slice y.lA y.ls.length y.lc, .slice dA db.length dc, .int .i64 su, .slice hA0 hs.length hc] /\ Blk W w.heap.size 82 #[.int .i64 zk, .int .i64 zf, .int .i64 zt, .int .i64 ze, .int .i64 zi, .int .i64 zj, .int .i64 zm, .slice zA zl.length zc, .bool zo, .string zs]) := fun W g => ⟨(hB.alloc _).below g (hB.alloc _).lt, (Blk.new w 82 #[.int .i64 zk, .int .i64 zf, .int .i64 zt, .int .i64 ze, .int .i64 zi, .int .i64 zj, .int .i64 zm, .slice zA zl.length zc, .bool zo, .string zs]).below g (Blk.new w 82 #[.int .i64 zk, .int .i64 zf, .int .i64 zt, .int .i64 ze, .int .i64 zi, .int .i64 zj, .int .i64 zm, .slice zA zl.length zc, .bool zo, .string zs]).lt⟩
 have HR := hidP hR
 have HB0 := hidP B0
 obtain ⟨N0, Z0⟩ := HN.out _ (Below.refl _ _)
 have c15 : (w.alloc (.cells #[.int .i64 zk, .int .i64 zf, .int .i64 zt, .int .i64 ze, .int .i64 zi, .int .i64 zj, .int .i64 zm, .slice zA zl.length zc, .bool zo, .string zs] 82)).cell? ⟨Bn, 15, none⟩ = some (.int .i64 size) := N0.cell rfl
 have q0 := N0.lt
 clear hB hR B0 N0 Z0
 go_enter Tryz.func113, Tryz.ntmps113
 go_wp2_with fail
 refine (HR.out _ HB0.out).mono ?_
 rintro e w1 ⟨rfl, g1⟩
 have B1 := via0 g1 HB0.out
 obtain ⟨N1, Z1⟩ := HN.out _ g1
 have c16 : w1.cell? ⟨Bn, 16, none⟩ = some (.int .i64 id) := N1.cell rfl
 have e1 : w1.cell? ⟨w.heap.size, 1, none⟩ = some (.int .i64 zf) := Z1.cell rfl
 have q1 := N1.lt
 have q2 := Z1.lt
 clear N1 Z1 g1 c15 q0
 cases rb
 . go_wp2
   go_ret
   exact ⟨by simp, B1⟩
 . by_cases h : zf = id
   . subst h
     go_wp2
     go_ret
     exact ⟨by simp, B1⟩
   . have hb : (zf == id) = false := beq_eq_false_iff_ne.2 h
     go_wp2
     go_ret
     exact ⟨by simp [hb], B1⟩
theorem Qjl (rpcF : RpP -> Bool) (ro wi le ke id te vo base bt role com su size : Int) (A vA nA pA dA hA0 : Option Addr) (cap vn vc nn nc pn pc dc hc : Nat) (l : List En) (ns ps : List Int) (db : List UInt8) (hs : List RpC) (x y : KC) (hhl : hs.length <= 1048576) (Bn : Nat) (w : World) (hB : Blk w Bn 58 #[.int .i64 te, .int .i64 vo, .int .i64 base, .int .i64 bt, .slice A l.length cap, .slice x.rA x.rs.length x.rc, .slice x.mA x.ms.length x.mc, .slice x.gA x.gs.length x.gc, .int .i64 x.time, .slice x.dA x.ds.length x.dc, .slice x.lA x.ls.length x.lc, .int .i64 ro, .int .i64 wi, .int .i64 le, .int .i64 ke, .int .i64 size, .int .i64 id, .int .i64 role, .slice vA vn vc, .slice nA nn nc, .slice pA pn pc, .int .i64 com, .slice y.rA y.rs.length y.rc, .slice y.mA y.ms.length y.mc, .slice y.gA y.gs.length y.gc, .int .i64 y.time, .slice y.dA y.ds.length y.dc, .slice y.lA y.ls.length y.lc, .slice dA db.length dc, .int .i64 su, .slice hA0 hs.length hc]) (hH : At w hA0 hs)
 (hR : ∀ z ∈ hs, ∀ W : World, Below w.heap.size w W -> Calls Tryz.prog 114 #[.agg (Cel.cs z).toArray, .int .i64 size] W fun e w' => e = .returned (.bool (rpcF z.p)) /\ Below W.heap.size W w') :
 Calls Tryz.prog 112 #[.slice hA0 hs.length hc, .func (.func 113) #[] #[.pointer (some ⟨Bn, 0, none⟩)]] w fun e w' => e = .returned (.bool (Qea rpcF id hs)) /\ Below w.heap.size w w' := by
 have HA := hidP hH
 have HB := hidP hB
 have HR := hidP hR
 clear hH hB hR
 go_enter Tryz.func112, Tryz.ntmps112
 go_wp2
 go_loopw [9] (fun i w' => ∃ (n : Nat), i = .int .i64 (n : Int) /\ n <= hs.length /\ Hid ((hs.take n).all (fun z => rpcF z.p && z.frm == id) = true) /\ Below w.heap.size w w') (fun i _ => hs.length - (intOf i).toNat)
 case atStart => exact ⟨0, rfl, by omega, rfl, Below.refl _ _⟩
 case round =>
  obtain ⟨n, rfl, hn, hall, hbl⟩ := hrel
  by_cases hlt : n < hs.length
  . obtain ⟨b, o, rfl, hbs, hIn⟩ : ∃ b o, hA0 = some ⟨b, o, none⟩ /\ b < w.heap.size /\ In w b o hs := by
     rcases HA.out with h | h
     . subst h; simp at hlt
     . exact h
    obtain ⟨e0, e1, e2, e3, e4, e5, e6, e7, e8, e9⟩ := (hIn.below hbs hbl).getRpC n hlt
    have hb1 : b < wr.heap.size := Nat.lt_of_lt_of_le hbs hbl.size
    have hsu := Qby (fun z : RpC => rpcF z.p && z.frm == id) hlt
    have hno := Qde (fun z : RpC => rpcF z.p && z.frm == id) hlt
    generalize hbb : (rpcF hs[n].p && hs[n].frm == id) = bb at hsu hno
    have Hsu := hidP hsu
    have Hno := hidP hno
    clear hsu hno
    have HRz := HR.out hs[n] (List.getElem_mem hlt)
    have HBr := hidP (HB.out.below hbl HB.out.lt)
    generalize hs[n] = z at e0 e1 e2 e3 e4 e5 e6 e7 e8 e9 hbb HRz
    obtain ⟨zk, zf, zt, ze, zi, zj, zm, zA, zc, zl, zo, zs⟩ := z
    simp only [RpC.p, Cel.cs] at e0 e1 e2 e3 e4 e5 e6 e7 e8 e9 hbb HRz
    generalize rpcF ⟨zk, zf, zt, ze, zi, zj, zm, zl, zo, zs⟩ = rb at hbb HRz
    have HC : Hid (∀ W : World, Below wr.heap.size wr W -> Calls Tryz.prog 113 #[.agg #[.int .i64 zk, .int .i64 zf, .int .i64 zt, .int .i64 ze, .int .i64 zi, .int .i64 zj, .int .i64 zm, .slice zA zl.length zc, .bool zo, .string zs], .pointer (some ⟨Bn, 0, none⟩)] W fun e w' => e = .returned (.bool bb) /\ Below W.heap.size W w') := fun W g => hbb ▸ hold1_any ro wi le ke id te vo base bt role com su size A vA nA pA dA (some ⟨b, o, none⟩) cap vn vc nn nc pn pc dc hc l ns ps db hs x y zk zf zt ze zi zj zm zA zc zl zo zs rb Bn W (HBr.out.below g HBr.out.lt) (fun V g' => HRz V (via0 g' (via0 g hbl)))
    have hi0 : (0 : Int) <= (n : Int) := by omega
    have hi1 : (n : Int) < (hs.length : Int) := by omega
    clear hbb HRz
    cases bb
    . have HN := hidP (Hno.out rfl)
      clear Hno Hsu
      go_wp2_with fail
      refine (HC.out _ (Qaa (Below.refl _ _) _)).mono ?_
      rintro e w1 ⟨rfl, g1⟩
      go_wp2
      go_ret
      exact ⟨by unfold Qea; rw [HN.out]; rfl, via0 g1 (Qaa hbl _)⟩
    . clear Hno
      go_wp2_with fail
      refine (HC.out _ (Qaa (Below.refl _ _) _)).mono ?_
      rintro e w1 ⟨rfl, g1⟩
      go_wp2
      exact ⟨⟨n + 1, by go_num, by omega, by show _ = _; rw [Hsu.out, hall.out]; rfl, via0 g1 (Qaa hbl _)⟩, by simp [intOf]; omega⟩
  . have e : hs.take n = hs := List.take_of_length_le (by omega)
    go_wp2
    go_ret
    have h := hall.out
    rw [e] at h
    exact ⟨by unfold Qea; rw [h]; rfl, hbl⟩
theorem Qf9 (rpcF : RpP -> Bool) (ro wi le ke id te vo base bt role com su size : Int) (A vA nA pA dA hA0 : Option Addr) (cap vn vc nn nc pn pc dc hc : Nat) (l : List En) (ns ps : List Int) (db : List UInt8) (hs : List RpC) (x y : KC) (hhl : hs.length <= 1048576) (w : World) (hH : At w hA0 hs)
 (hR : ∀ z ∈ hs, ∀ W : World, Below w.heap.size w W -> Calls Tryz.prog 114 #[.agg (Cel.cs z).toArray, .int .i64 size] W fun e w' => e = .returned (.bool (rpcF z.p)) /\ Below W.heap.size W w') :
 Calls Tryz.prog 55 #[.agg #[.int .i64 te, .int .i64 vo, .int .i64 base, .int .i64 bt, .slice A l.length cap, .slice x.rA x.rs.length x.rc, .slice x.mA x.ms.length x.mc, .slice x.gA x.gs.length x.gc, .int .i64 x.time, .slice x.dA x.ds.length x.dc, .slice x.lA x.ls.length x.lc, .int .i64 ro, .int .i64 wi, .int .i64 le, .int .i64 ke, .int .i64 size, .int .i64 id, .int .i64 role, .slice vA vn vc, .slice nA nn nc, .slice pA pn pc, .int .i64 com, .slice y.rA y.rs.length y.rc, .slice y.mA y.ms.length y.mc, .slice y.gA y.gs.length y.gc, .int .i64 y.time, .slice y.dA y.ds.length y.dc, .slice y.lA y.ls.length y.lc, .slice dA db.length dc, .int .i64 su, .slice hA0 hs.length hc]] w fun e w' => e = .returned (.bool (decide (hs.length <= 40) && Qea rpcF id hs)) /\ Below w.heap.size w w' := by
 have B0 : Below w.heap.size w (w.alloc (.cells #[.int .i64 te, .int .i64 vo, .int .i64 base, .int .i64 bt, .slice A l.length cap, .slice x.rA x.rs.length x.rc, .slice x.mA x.ms.length x.mc, .slice x.gA x.gs.length x.gc, .int .i64 x.time, .slice x.dA x.ds.length x.dc, .slice x.lA x.ls.length x.lc, .int .i64 ro, .int .i64 wi, .int .i64 le, .int .i64 ke, .int .i64 size, .int .i64 id, .int .i64 role, .slice vA vn vc, .slice nA nn nc, .slice pA pn pc, .int .i64 com, .slice y.rA y.rs.length y.rc, .slice y.mA y.ms.length y.mc, .slice y.gA y.gs.length y.gc, .int .i64 y.time, .slice y.dA y.ds.length y.dc, .slice y.lA y.ls.length y.lc, .slice dA db.length dc, .int .i64 su, .slice hA0 hs.length hc] 58)) := Qaa (Below.refl _ w) _
 have P0 := Blk.new w 58 #[.int .i64 te, .int .i64 vo, .int .i64 base, .int .i64 bt, .slice A l.length cap, .slice x.rA x.rs.length x.rc, .slice x.mA x.ms.length x.mc, .slice x.gA x.gs.length x.gc, .int .i64 x.time, .slice x.dA x.ds.length x.dc, .slice x.lA x.ls.length x.lc, .int .i64 ro, .int .i64 wi, .int .i64 le, .int .i64 ke, .int .i64 size, .int .i64 id, .int .i64 role, .slice vA vn vc, .slice nA nn nc, .slice pA pn pc, .int .i64 com, .slice y.rA y.rs.length y.rc, .slice y.mA y.ms.length y.mc, .slice y.gA y.gs.length y.gc, .int .i64 y.time, .slice y.dA y.ds.length y.dc, .slice y.lA y.ls.length y.lc, .slice dA db.length dc, .int .i64 su, .slice hA0 hs.length hc]
 have E1 := hidP (Qjl rpcF ro wi le ke id te vo base bt role com su size A vA nA pA dA hA0 cap vn vc nn nc pn pc dc hc l ns ps db hs x y hhl w.heap.size (w.alloc (.cells #[.int .i64 te, .int .i64 vo, .int .i64 base, .int .i64 bt, .slice A l.length cap, .slice x.rA x.rs.length x.rc, .slice x.mA x.ms.length x.mc, .slice x.gA x.gs.length x.gc, .int .i64 x.time, .slice x.dA x.ds.length x.dc, .slice x.lA x.ls.length x.lc, .int .i64 ro, .int .i64 wi, .int .i64 le, .int .i64 ke, .int .i64 size, .int .i64 id, .int .i64 role, .slice vA vn vc, .slice nA nn nc, .slice pA pn pc, .int .i64 com, .slice y.rA y.rs.length y.rc, .slice y.mA y.ms.length y.mc, .slice y.gA y.gs.length y.gc, .int .i64 y.time, .slice y.dA y.ds.length y.dc, .slice y.lA y.ls.length y.lc, .slice dA db.length dc, .int .i64 su, .slice hA0 hs.length hc] 58)) P0 (hH.below B0) (fun z hz W g => hR z hz W (via0 g B0)))
 have hmf : ∀ (fn : Fn) (first cap : Array Value) (w : World), (Instr.makeFunc fn first cap).run Tryz.prog w = .ok (.func fn first cap) w := fun _ _ _ _ => rfl
 have c30 : (w.alloc (.cells #[.int .i64 te, .int .i64 vo, .int .i64 base, .int .i64 bt, .slice A l.length cap, .slice x.rA x.rs.length x.rc, .slice x.mA x.ms.length x.mc, .slice x.gA x.gs.length x.gc, .int .i64 x.time, .slice x.dA x.ds.length x.dc, .slice x.lA x.ls.length x.lc, .int .i64 ro, .int .i64 wi, .int .i64 le, .int .i64 ke, .int .i64 size, .int .i64 id, .int .i64 role, .slice vA vn vc, .slice nA nn nc, .slice pA pn pc, .int .i64 com, .slice y.rA y.rs.length y.rc, .slice y.mA y.ms.length y.mc, .slice y.gA y.gs.length y.gc, .int .i64 y.time, .slice y.dA y.ds.length y.dc, .slice y.lA y.ls.length y.lc, .slice dA db.length dc, .int .i64 su, .slice hA0 hs.length hc] 58)).cell? ⟨w.heap.size, 30, none⟩ = some (.slice hA0 hs.length hc) := P0.cell rfl
 generalize Qea rpcF id hs = bb at E1 ⊢
 clear P0 hH hR
 by_cases h40 : (hs.length : Int) <= 40
 . have h41 : Hid (decide (hs.length <= 40) = true) := decide_eq_true (by omega)
   go_enter Tryz.func55, Tryz.ntmps55
   go_wp2_with fail
   refine E1.out.mono ?_
   rintro e w1 ⟨rfl, g1⟩
   go_wp2
   go_ret
   exact ⟨by rw [h41.out]; simp, via0 g1 B0⟩
 . have h41 : Hid (decide (hs.length <= 40) = false) := decide_eq_false (by omega)
   go_enter Tryz.func55, Tryz.ntmps55
   go_wp2
   go_ret
   exact ⟨by rw [h41.out]; simp, B0⟩
def entR (t : Int) (x : En) : Bool := decide (x.term <= t) && (inB x.term 0 300 && enF x)
def rpcB (size kind frm too term index iterm commit : Int) (l : List En) (snap : ByteArray) : Bool :=
  inB kind 1 5 && inB size 1 5 && inB frm 0 (size - 1) && inB too 0 (size - 1) && (frm != too) && (inB term 0 300 && inB index 0 300 && inB iterm 0 300 && inB commit 0 300) && decide ((l.length : Int) <= 40) && l.all (entR term) && decide ((snap.size : Int) <= 30000)
theorem isSize_any (size : Int) (w : World) : Calls Tryz.prog 16 #[.int .i64 size] w fun e w' => e = .returned (.bool (inB size 1 5)) /\ w' = w := by
 go_enter Tryz.func16, Tryz.ntmps16
 go_wp2_with (go_at_call 44; refine (within_any _ _ _ _).mono ?_; rintro e w' ⟨rfl, rfl⟩)
 go_ret
 exact ⟨rfl, rfl⟩
theorem isNode_any (id size : Int) (w : World) : Calls Tryz.prog 49 #[.int .i64 id, .int .i64 size] w fun e w' => e = .returned (.bool (inB id 0 (size - 1))) /\ Below w.heap.size w w' := by
 by_cases h1 : 0 <= id
 . by_cases h2 : id < size
   . have hF : Hid (inB id 0 (size - 1) = true) := decide_eq_true (by omega)
     go_enter Tryz.func49, Tryz.ntmps49
     go_wp2
     go_ret
     exact ⟨by rw [hF.out]; rfl, by repeat (first | exact Below.refl _ _ | refine Below.drew ?_)⟩
   . have hF : Hid (inB id 0 (size - 1) = false) := decide_eq_false (by omega)
     go_enter Tryz.func49, Tryz.ntmps49
     go_wp2
     go_ret
     exact ⟨by rw [hF.out]; rfl, by repeat (first | exact Below.refl _ _ | refine Below.drew ?_)⟩
 . have hF : Hid (inB id 0 (size - 1) = false) := decide_eq_false (by omega)
   go_enter Tryz.func49, Tryz.ntmps49
   go_wp2
   go_ret
   exact ⟨by rw [hF.out]; rfl, by repeat (first | exact Below.refl _ _ | refine Below.drew ?_)⟩
end Go.Proofs.YtglegpkcikacoaaGreatDoor.Gen
namespace Go.Proofs.YtglegpkcikacoaaGreatDoor
open Gen Base Go.ChangeShapes Go.WideShapes Go.ChangeAt Go.RowKit Go.Joins Go.Deep
def zTo (n k : Nat) : Array Bool := (List.replicate k true ++ List.replicate (n - k) false).toArray
theorem zTo_getD (n k j : Nat) (hk : k <= n) (hj : j < n) (d : Bool) : (zTo n k).getD j d = decide (j < k) := by
 have hs : j < (zTo n k).size := by simp [zTo]; omega
 rw [Array.getD, dif_pos hs]
 show (zTo n k)[j]'hs = _
 simp only [zTo, List.getElem_toArray]
 by_cases h : j < k
 . rw [List.getElem_append_left (by simpa using h)]; simp [h]
 . rw [List.getElem_append_right (by simpa using h)]; simp [h]
theorem zTo_set (n k : Nat) (hk : k < n) : (zTo n k).setIfInBounds k true = zTo n (k + 1) := by
 apply Array.ext_getElem?
 intro i
 rw [Array.getElem?_setIfInBounds]
 simp only [zTo, List.getElem?_toArray, List.size_toArray, List.length_append, List.length_replicate]
 by_cases h : k = i
 . subst h
   rw [if_pos rfl, if_pos (by omega), List.getElem?_append_left (by simp)]
   simp
 . rw [if_neg h]
   by_cases h1 : i < k
   . rw [List.getElem?_append_left (by simpa using h1), List.getElem?_append_left (by simp; omega)]
     simp [h1, show i < k + 1 by omega]
   . rw [List.getElem?_append_right (by simp; omega), List.getElem?_append_right (by simp; omega)]
     simp only [List.length_replicate, List.getElem?_replicate]
     by_cases h2 : i < n
     . rw [if_pos (by omega), if_pos (by omega)]
     . rw [if_neg (by omega), if_neg (by omega)]
def zSeq (md : Region.Mode) (ops : Array Oper) (n : Nat) : Bool := Region.noSelect ops && (List.range n).all fun k => Region.free md ops (zTo n k) k && (Region.ready md ops (zTo n k)).contains k
def zVal (f : Operand -> Value) : Op -> Option Value
  | .move x => some (f x)
  | .assign x => some (f x)
  | .pick c x y => match f c with | .bool b => some (if b then f x else f y) | _ => none
  | _ => none
theorem zVal_run {P : Program} {f : Operand -> Value} {o : Oper} {v : Value} {w : World} (h : zVal f o.op = some v) : (execOp f o).run P w = .ok (.value v) w := by
 unfold execOp
 cases ho : o.op<;>simp only [ho, zVal] at h ⊢<;>try (simp at h; done)
 . simp at h; subst h; rfl
 . simp at h; subst h; rfl
 . split at h
   . rename_i b hb
     simp at h; subst h
     simp [hb, asBool]
   . simp at h
def zRun (ops : Array Oper) : List Nat -> Act -> Option Act
  | [], a => some a
  | i :: is, a => match ops[i]? with
    | none => none
    | some o => match Region.wanted o (yielded ops a.tmps) with
      | false => zRun ops is (a.put o.dst undef)
      | true => match zVal a.eval o.op with
        | some v => zRun ops is (a.put o.dst v)
        | none => none
def zF : Value -> Bool
  | .bool false => true
  | _ => false
theorem zF_is {v : Value} (h : zF v = true) : v = .bool false := by
 unfold zF at h
 split at h
 . rfl
 . simp at h
def zRes (ops : Array Oper) (k n t : Nat) (a : Act) : Bool := match zRun ops (List.range' k (n - k)) a with
  | some a' => zF (a'.tmps.getD t undef) && a'.defers.isEmpty
  | none => false
section
variable {P : Program} {md : Region.Mode} {ops : Array Oper} {Q : Go.Exit -> Act -> World -> Prop} {S : World -> Prop} {w : World}
theorem zRest {n : Nat} (hn : ops.size = n) (hs : zSeq md ops n = true) (hS : S w) {a' : Act} (hq : Q .normal a' w) : ∀ (m k : Nat) (a : Act), k + m = n -> zRun ops (List.range' k m) a = some a' -> wpAnyH P md ops (NoPanic Q) S m (zTo n k) a w
 | 0, k, a, hk, h => by
  simp [zRun] at h
  subst h
  refine wpAnyH_done ?_ (NoPanic.normal hq) _
  unfold Region.ready
  rw [List.filter_eq_nil_iff]
  intro i hi
  have hi' : i < n := by rw [← hn]; simpa using hi
  rw [zTo_getD n k i (by omega) hi' true]
  simp [show i < k by omega]
 | m + 1, k, a, hk, h => by
  have hkn : k < n := by omega
  rw [List.range'_succ] at h
  have hall := hs
  simp only [zSeq, Bool.and_eq_true, List.all_eq_true, List.mem_range] at hall
  obtain ⟨hse, hall⟩ := hall
  obtain ⟨hf, hr⟩ := hall k hkn
  have ho : ∃ o, ops[k]? = some o := ⟨ops[k]'(by omega), Array.getElem?_eq_getElem (by omega)⟩
  obtain ⟨o, ho⟩ := ho
  simp only [zRun, ho] at h
  have hset := zTo_set n k hkn
  cases hw : Region.wanted o (yielded ops a.tmps) with
  | false =>
   simp only [hw] at h
   refine wpAnyH_take ho hse hf hr (fun _ _ _ h => h) (.inr ⟨hw, rfl⟩) hS ?_
   rw [hset]
   exact zRest hn hs hS hq m (k + 1) _ (by omega) h
  | true =>
   simp only [hw] at h
   cases hv : zVal a.eval o.op with
   | none => simp [hv] at h
   | some v =>
    simp only [hv] at h
    refine wpAnyH_take ho hse hf hr (fun _ _ _ h => h) (.inl ⟨hw, fun w _ => zVal_run hv⟩) hS ?_
    rw [hset]
    exact zRest hn hs hS hq m (k + 1) _ (by omega) h
theorem zNo (k n t : Nat) {fuel : Nat} {listed : Array Bool} {a : Act} (hs : zSeq md ops n = true) (h : ∀ a' : Act, a'.tmps.getD t undef = .bool false -> a'.defers = [] -> Q .normal a' w) (hS : S w := by assumption) (hn : ops.size = n := by rfl) (hk : k <= n := by decide) (hf : fuel = n - k := by rfl) (hl : listed = zTo n k := by kernel_rfl) (hc : zRes ops k n t a = true := by kernel_rfl) : wpAnyH P md ops (NoPanic Q) S fuel listed a w := by
 subst hf hl
 unfold zRes at hc
 split at hc
 . rename_i a' ha
   rw [Bool.and_eq_true] at hc
   exact zRest hn hs hS (h a' (zF_is hc.1) (by simpa using hc.2)) (n - k) k a (by omega) ha
 . simp at hc
theorem zBeg (n : Nat) {id : Nat} {a : Act} (hm : P.follows .mixedOrders = true) (hS : S w.drew) (hs : zSeq .any ops n = true)
 (h : Hid (zSeq .any ops n = true) -> S w.drew -> wpAnyH P .any ops Q S ops.size (Array.replicate ops.size false) a w.drew) : (Code.region id ops true).wp P Q a w :=
 wp_region_held_drew hm hS (h hs)
end
end Go.Proofs.YtglegpkcikacoaaGreatDoor
