/-
  FnExactHardOk: at every setup and Hard the program's HardOk answers as the specification's, and the Hard that it was handed stays as it was. No condition.
-/
import Derived.Test.YtclgdghfcjkhfaaGreatHTo
import Derived.Test.YtclgdghfcjkhfaaGreatHOk
import Derived.Test.YtclgdghfcjkhfaaGreatKeepP
namespace Go.Proofs.YtclgdghfcjkhfaaGreat.HardOk
open Go.ChangeShapes Go.WideShapes Go.ChangeAt Go.RowKit Go.Joins Base Gen
set_option linter.unusedVariables false
set_option linter.unusedSimpArgs false

theorem own : ownKnob Tryz.prog.godebug = none := by kernel_rfl
theorem laidOut : laidOutB Tryz.prog = true := by kernel_rfl

/-- What the law holds from call to call: the boxes of what it was handed; nothing that was there has turned. -/
structure Lq (w W : World) (ro wi le ke : Int) (te vo base bt : Int) (A : Option Addr) (cap : Nat) (l : List En) (x : KC) : Prop where
  box1 : Blk W w.heap.size 23 #[.int .i64 ro, .int .i64 wi, .int .i64 le, .int .i64 ke]
  box2 : Blk W (w.heap.size + 1) 35 #[.int .i64 te, .int .i64 vo, .int .i64 base, .int .i64 bt, .slice A l.length cap, .slice x.rA x.rs.length x.rc, .slice x.mA x.ms.length x.mc, .slice x.gA x.gs.length x.gc, .int .i64 x.time, .slice x.dA x.ds.length x.dc, .slice x.lA x.ls.length x.lc]
  bel : Below w.heap.size w W
theorem Lq.below {w W W' : World} {ro wi le ke te vo base bt : Int} {A : Option Addr} {cap : Nat} {l : List En} {x : KC} (h : Lq w W ro wi le ke te vo base bt A cap l x) (g : Below W.heap.size W W') : Lq w W' ro wi le ke te vo base bt A cap l x :=
  ⟨h.box1.below g h.box1.lt, h.box2.below g h.box2.lt, via0 g h.bel⟩

set_option maxRecDepth 100000 in
set_option maxHeartbeats 2000000 in
theorem law_any (ro wi le ke : Int) (te vo base bt : Int) (A : Option Addr) (cap : Nat) (l : List En) (hll : l.length ≤ 9223372036854775807) (hlr : ∀ z ∈ l, z.right) (x : KC) (hr : KRight x) (w : World) (hA : At w A l) (hx : KAt w x) :
    Calls Tryz.prog 3 #[.agg #[.int .i64 ro, .int .i64 wi, .int .i64 le, .int .i64 ke], .agg #[.int .i64 te, .int .i64 vo, .int .i64 base, .int .i64 bt, .slice A l.length cap, .slice x.rA x.rs.length x.rc, .slice x.mA x.ms.length x.mc, .slice x.gA x.gs.length x.gc, .int .i64 x.time, .slice x.dA x.ds.length x.dc, .slice x.lA x.ls.length x.lc]] w fun e w' => e = .returned (.bool true) ∧ Below w.heap.size w w' := by
  have HX := hidP (And.intro hA hx)
  have Hlr : Hid (∀ z ∈ l, z.fit) := fun z hz => (hlr z hz).fit
  have Hr := hidP hr
  clear hx hr hA hlr
  have L0 : Lq w ((w.alloc (.cells #[.int .i64 ro, .int .i64 wi, .int .i64 le, .int .i64 ke] 23)).alloc (.cells #[.int .i64 te, .int .i64 vo, .int .i64 base, .int .i64 bt, .slice A l.length cap, .slice x.rA x.rs.length x.rc, .slice x.mA x.ms.length x.mc, .slice x.gA x.gs.length x.gc, .int .i64 x.time, .slice x.dA x.ds.length x.dc, .slice x.lA x.ls.length x.lc] 35)) ro wi le ke te vo base bt A cap l x := ⟨(Blk.new w _ _).alloc _, by have := Blk.new (w.alloc (.cells #[.int .i64 ro, .int .i64 wi, .int .i64 le, .int .i64 ke] 23)) 35 #[.int .i64 te, .int .i64 vo, .int .i64 base, .int .i64 bt, .slice A l.length cap, .slice x.rA x.rs.length x.rc, .slice x.mA x.ms.length x.mc, .slice x.gA x.gs.length x.gc, .int .i64 x.time, .slice x.dA x.ds.length x.dc, .slice x.lA x.ls.length x.lc]; rwa [World.size_alloc] at this, alloc0 (alloc0 (Below.refl _ _) _) _⟩
  go_enter Tryz.func3, Tryz.ntmps3
  go_wp2_with fail
  refine (szHard_at te vo base bt A cap l hll Hlr.out x Hr.out 1048576 (by omega) (by omega) _ (HX.out.1.below L0.bel) (HX.out.2.below L0.bel)).mono ?_
  rintro e w1 ⟨⟨r, rfl, hz⟩, g1⟩
  have L1 := L0.below g1
  have HL1 := hidP L1
  obtain ⟨u0, u1, u2, u3⟩ := L1.box1.row4
  obtain ⟨v0, v1, v2, v3, v4, v5, v6, v7, v8, v9, v10⟩ := L1.box2.row11
  have q1 := L1.box1.lt
  have q2 := L1.box2.lt
  clear L0 L1 g1
  rcases hz with hz | ⟨hz, _, hl, hf⟩
  · go_wp2
    go_ret
    exact ⟨rfl, HL1.out.bel⟩
  have nz : ¬ r < 0 := by omega
  have Hf := hidP hf
  have Hl := hidP hl
  clear hf hl
  obtain ⟨B, hB⟩ : ∃ b, hardB ro wi le ke te vo base bt l x = b := ⟨_, rfl⟩
  have HSPEC : Hid (∀ (y : KC) (b4 : Nat) (W : World), y.p = x.p → At W (some ⟨b4, 0, none⟩) l → KAt W y → Calls Tryz.prog 6 #[.agg #[.int .i64 ro, .int .i64 wi, .int .i64 le, .int .i64 ke], .agg #[.int .i64 te, .int .i64 vo, .int .i64 base, .int .i64 bt, .slice (some ⟨b4, 0, none⟩) l.length l.length, .slice y.rA y.rs.length y.rc, .slice y.mA y.ms.length y.mc, .slice y.gA y.gs.length y.gc, .int .i64 y.time, .slice y.dA y.ds.length y.dc, .slice y.lA y.ls.length y.lc]] W fun e w' => e = .returned (.bool B) ∧ Below W.heap.size W w') := fun y b4 W hp hl ha => by
    have h := specHardOk_any ro wi le ke te vo base bt (some ⟨b4, 0, none⟩) l.length l Hl.out Hlr.out y (ask_p hp ⟨Hf.out, Hr.out.rr, Hr.out.lr⟩) W hl ha
    rw [show hardB ro wi le ke te vo base bt l y = hardB ro wi le ke te vo base bt l x by simp only [hardB, keepB_p hp], hB] at h
    exact h
  have HIMP : Hid (∀ (y : KC) (b4 : Nat) (W : World), y.p = x.p → At W (some ⟨b4, 0, none⟩) l → KAt W y → Calls Tryz.prog 9 #[.agg #[.int .i64 ro, .int .i64 wi, .int .i64 le, .int .i64 ke], .agg #[.int .i64 te, .int .i64 vo, .int .i64 base, .int .i64 bt, .slice (some ⟨b4, 0, none⟩) l.length l.length, .slice y.rA y.rs.length y.rc, .slice y.mA y.ms.length y.mc, .slice y.gA y.gs.length y.gc, .int .i64 y.time, .slice y.dA y.ds.length y.dc, .slice y.lA y.ls.length y.lc]] W fun e w' => e = .returned (.bool B) ∧ Below W.heap.size W w') := fun y b4 W hp hl ha => by
    have h := implHardOk_any ro wi le ke te vo base bt (some ⟨b4, 0, none⟩) l.length l Hl.out Hlr.out y (ask_p hp ⟨Hf.out, Hr.out.rr, Hr.out.lr⟩) W hl ha
    rw [show hardB ro wi le ke te vo base bt l y = hardB ro wi le ke te vo base bt l x by simp only [hardB, keepB_p hp], hB] at h
    exact h
  clear hB
  go_wp2_with fail
  refine wp_region_noPanic ?_
  refine wp_region_held_drew (S := (fun w' => w'.cell? ⟨w.heap.size, 0, none⟩ = some (.int .i64 ro) ∧ w'.cell? ⟨w.heap.size, 1, none⟩ = some (.int .i64 wi) ∧ w'.cell? ⟨w.heap.size, 2, none⟩ = some (.int .i64 le) ∧ w'.cell? ⟨w.heap.size, 3, none⟩ = some (.int .i64 ke) ∧ w'.cell? ⟨w.heap.size + 1, 0, none⟩ = some (.int .i64 te) ∧ w'.cell? ⟨w.heap.size + 1, 1, none⟩ = some (.int .i64 vo) ∧ w'.cell? ⟨w.heap.size + 1, 2, none⟩ = some (.int .i64 base) ∧ w'.cell? ⟨w.heap.size + 1, 3, none⟩ = some (.int .i64 bt) ∧ w'.cell? ⟨w.heap.size + 1, 4, none⟩ = some (.slice A l.length cap) ∧ w'.cell? ⟨w.heap.size + 1, 5, none⟩ = some (.slice x.rA x.rs.length x.rc) ∧ w'.cell? ⟨w.heap.size + 1, 6, none⟩ = some (.slice x.mA x.ms.length x.mc) ∧ w'.cell? ⟨w.heap.size + 1, 7, none⟩ = some (.slice x.gA x.gs.length x.gc) ∧ w'.cell? ⟨w.heap.size + 1, 8, none⟩ = some (.int .i64 x.time) ∧ w'.cell? ⟨w.heap.size + 1, 9, none⟩ = some (.slice x.dA x.ds.length x.dc) ∧ w'.cell? ⟨w.heap.size + 1, 10, none⟩ = some (.slice x.lA x.ls.length x.lc))) (by kernel_rfl) ?_ (fun hH => ?_)
  · exact ⟨u0, u1, u2, u3, v0, v1, v2, v3, v4, v5, v6, v7, v8, v9, v10⟩
  refine' wpAnyH_take (i := 0) (v := _) rfl (by kernel_rfl) (by kernel_rfl) (by kernel_rfl) (fun _ _ _ h => h) (Or.inl ⟨by rfl, ?hy1⟩) (by assumption) ?rest1
  case hy1 => (intro w hSw; (try dsimp only at hSw); go_simp <;> with_reducible rfl)
  try simp only [Act.put, List.setIfInBounds_toArray, List.set_cons_zero, List.set_cons_succ, List.getElem_toArray, List.getElem_cons_succ, List.getElem_cons_zero]
  refine' wpAnyH_take (i := 2) (v := _) rfl (by kernel_rfl) (by kernel_rfl) (by kernel_rfl) (fun _ _ _ h => h) (Or.inl ⟨by rfl, ?hy2⟩) (by assumption) ?rest2
  case hy2 => (intro w hSw; (try dsimp only at hSw); go_simp <;> with_reducible rfl)
  try simp only [Act.put, List.setIfInBounds_toArray, List.set_cons_zero, List.set_cons_succ, List.getElem_toArray, List.getElem_cons_succ, List.getElem_cons_zero]
  refine wpAnyH_ready (rs := [1]) (by kernel_rfl) (by simp) (AllReadyH.cons rfl (fun K hK => ?_) AllReadyH.nil)
  simp only [List.getElem_toArray, List.getElem_cons_succ, List.getElem_cons_zero]
  go_simp
  (go_at_call 7; refine (toSetup_any ro wi le ke _).mono ?_; rintro e w2 ⟨rfl, g2⟩; have L2 := hidP (HL1.out.below (via0 g2 (Below.drew (Below.refl _ _)))); clear g2)
  refine hK.out _ _ ?_ (fun hH => ?_)
  · (exact ⟨L2.out.box1.row4.1, L2.out.box1.row4.2.1, L2.out.box1.row4.2.2.1, L2.out.box1.row4.2.2.2, L2.out.box2.row11⟩)
  clear hK K
  try simp only [Act.put, List.setIfInBounds_toArray, List.set_cons_zero, List.set_cons_succ, List.getElem_toArray, List.getElem_cons_succ, List.getElem_cons_zero]
  refine wpAnyH_ready (rs := [3]) (by kernel_rfl) (by simp) (AllReadyH.cons rfl (fun K hK => ?_) AllReadyH.nil)
  simp only [List.getElem_toArray, List.getElem_cons_succ, List.getElem_cons_zero]
  go_simp
  (go_at_call 8; refine (toHard_any te vo base bt A cap l Hl.out x Hf.out _ (HX.out.1.below L2.out.bel) (HX.out.2.below L2.out.bel)).mono ?_; rintro e w3 ⟨b0, y0, rfl, hp0, hb0, hb0', hi0, ht0, ho0, g3⟩; have HA0 : Hid (At w3 (some ⟨b0, 0, none⟩) l) := (.inr ⟨b0, 0, rfl, hb0', hi0⟩ : At w3 (some ⟨b0, 0, none⟩) l); have L3 := hidP (L2.out.below g3); have HO0 := hidP ho0; have Hp0 := hidP hp0; clear g3 ho0 hp0 hi0 ht0)
  refine hK.out _ _ ?_ (fun hH => ?_)
  · (exact ⟨L3.out.box1.row4.1, L3.out.box1.row4.2.1, L3.out.box1.row4.2.2.1, L3.out.box1.row4.2.2.2, L3.out.box2.row11⟩)
  clear hK K
  try simp only [Act.put, List.setIfInBounds_toArray, List.set_cons_zero, List.set_cons_succ, List.getElem_toArray, List.getElem_cons_succ, List.getElem_cons_zero]
  refine wpAnyH_ready (rs := [4]) (by kernel_rfl) (by simp) (AllReadyH.cons rfl (fun K hK => ?_) AllReadyH.nil)
  simp only [List.getElem_toArray, List.getElem_cons_succ, List.getElem_cons_zero]
  go_simp
  (go_at_call 6; refine (HSPEC.out y0 b0 _ Hp0.out HA0.out HO0.out.at).mono ?_; rintro e w3' ⟨rfl, g4⟩; have L4 := hidP (L3.out.below g4); clear g4 HO0 HA0 L2 L3)
  refine hK.out _ _ ?_ (fun hH => ?_)
  · (exact ⟨L4.out.box1.row4.1, L4.out.box1.row4.2.1, L4.out.box1.row4.2.2.1, L4.out.box1.row4.2.2.2, L4.out.box2.row11⟩)
  clear hK K
  try simp only [Act.put, List.setIfInBounds_toArray, List.set_cons_zero, List.set_cons_succ, List.getElem_toArray, List.getElem_cons_succ, List.getElem_cons_zero]
  refine' wpAnyH_take (i := 5) (v := _) rfl (by kernel_rfl) (by kernel_rfl) (by kernel_rfl) (fun _ _ _ h => h) (Or.inl ⟨by rfl, ?hy3⟩) (by assumption) ?rest3
  case hy3 => (intro w hSw; (try dsimp only at hSw); go_simp <;> with_reducible rfl)
  try simp only [Act.put, List.setIfInBounds_toArray, List.set_cons_zero, List.set_cons_succ, List.getElem_toArray, List.getElem_cons_succ, List.getElem_cons_zero]
  refine wpAnyH_done (by kernel_rfl) ?_ _
  refine NoPanic.normal ?_
  have L4d : Lq w w3' ro wi le ke te vo base bt A cap l x := L4.out
  clear u0 u1 u2 u3 v0 v1 v2 v3 v4 v5 v6 v7 v8 v9 v10 q1 q2 HL1 hH L4
  have HL4 := hidP L4d
  obtain ⟨u0, u1, u2, u3⟩ := HL4.out.box1.row4
  obtain ⟨v0, v1, v2, v3, v4, v5, v6, v7, v8, v9, v10⟩ := HL4.out.box2.row11
  have q1 := HL4.out.box1.lt
  have q2 := HL4.out.box2.lt
  clear L4d
  go_wp2_with fail
  refine (toHard_any te vo base bt A cap l Hl.out x Hf.out _ (HX.out.1.below HL4.out.bel) (HX.out.2.below HL4.out.bel)).mono ?_
  rintro e w4 ⟨b4, y, rfl, hpy, hb4, hb4', hi4, ht4, hoy, g5⟩
  have n5 : Below w4.heap.size w4 (w4.alloc (.cells #[.int .i64 te, .int .i64 vo, .int .i64 base, .int .i64 bt, .slice (some ⟨b4, 0, none⟩) l.length l.length, .slice y.rA y.rs.length y.rc, .slice y.mA y.ms.length y.mc, .slice y.gA y.gs.length y.gc, .int .i64 y.time, .slice y.dA y.ds.length y.dc, .slice y.lA y.ls.length y.lc] 50)) := alloc0 (Below.refl _ _) _
  have L5 := hidP ((HL4.out.below g5).below n5)
  have Y5 : Hid (Blk (w4.alloc (.cells #[.int .i64 te, .int .i64 vo, .int .i64 base, .int .i64 bt, .slice (some ⟨b4, 0, none⟩) l.length l.length, .slice y.rA y.rs.length y.rc, .slice y.mA y.ms.length y.mc, .slice y.gA y.gs.length y.gc, .int .i64 y.time, .slice y.dA y.ds.length y.dc, .slice y.lA y.ls.length y.lc] 50)) w4.heap.size 50 #[.int .i64 te, .int .i64 vo, .int .i64 base, .int .i64 bt, .slice (some ⟨b4, 0, none⟩) l.length l.length, .slice y.rA y.rs.length y.rc, .slice y.mA y.ms.length y.mc, .slice y.gA y.gs.length y.gc, .int .i64 y.time, .slice y.dA y.ds.length y.dc, .slice y.lA y.ls.length y.lc]) := Blk.new w4 _ _
  have O5 := hidP (hoy.below n5)
  have A5 : Hid (At (w4.alloc (.cells #[.int .i64 te, .int .i64 vo, .int .i64 base, .int .i64 bt, .slice (some ⟨b4, 0, none⟩) l.length l.length, .slice y.rA y.rs.length y.rc, .slice y.mA y.ms.length y.mc, .slice y.gA y.gs.length y.gc, .int .i64 y.time, .slice y.dA y.ds.length y.dc, .slice y.lA y.ls.length y.lc] 50)) (some ⟨b4, 0, none⟩) l) := At.below (.inr ⟨b4, 0, rfl, hb4', hi4⟩ : At w4 (some ⟨b4, 0, none⟩) l) n5
  have Hpy := hidP hpy
  clear u0 u1 u2 u3 v0 v1 v2 v3 v4 v5 v6 v7 v8 v9 v10 q1 q2 HL4 n5 hoy hpy g5 hi4 ht4
  obtain ⟨u0, u1, u2, u3⟩ := L5.out.box1.row4
  obtain ⟨v0, v1, v2, v3, v4, v5, v6, v7, v8, v9, v10⟩ := Y5.out.row11
  have q1 := L5.out.box1.lt
  have q2 := Y5.out.lt
  go_wp2_with fail
  refine wp_region_noPanic ?_
  refine wp_region_held_drew (S := (fun w' => w'.cell? ⟨w.heap.size, 0, none⟩ = some (.int .i64 ro) ∧ w'.cell? ⟨w.heap.size, 1, none⟩ = some (.int .i64 wi) ∧ w'.cell? ⟨w.heap.size, 2, none⟩ = some (.int .i64 le) ∧ w'.cell? ⟨w.heap.size, 3, none⟩ = some (.int .i64 ke) ∧ w'.cell? ⟨w4.heap.size, 0, none⟩ = some (.int .i64 te) ∧ w'.cell? ⟨w4.heap.size, 1, none⟩ = some (.int .i64 vo) ∧ w'.cell? ⟨w4.heap.size, 2, none⟩ = some (.int .i64 base) ∧ w'.cell? ⟨w4.heap.size, 3, none⟩ = some (.int .i64 bt) ∧ w'.cell? ⟨w4.heap.size, 4, none⟩ = some (.slice (some ⟨b4, 0, none⟩) l.length l.length) ∧ w'.cell? ⟨w4.heap.size, 5, none⟩ = some (.slice y.rA y.rs.length y.rc) ∧ w'.cell? ⟨w4.heap.size, 6, none⟩ = some (.slice y.mA y.ms.length y.mc) ∧ w'.cell? ⟨w4.heap.size, 7, none⟩ = some (.slice y.gA y.gs.length y.gc) ∧ w'.cell? ⟨w4.heap.size, 8, none⟩ = some (.int .i64 y.time) ∧ w'.cell? ⟨w4.heap.size, 9, none⟩ = some (.slice y.dA y.ds.length y.dc) ∧ w'.cell? ⟨w4.heap.size, 10, none⟩ = some (.slice y.lA y.ls.length y.lc))) (by kernel_rfl) ?_ (fun hH => ?_)
  · exact ⟨u0, u1, u2, u3, v0, v1, v2, v3, v4, v5, v6, v7, v8, v9, v10⟩
  refine' wpAnyH_take (i := 0) (v := _) rfl (by kernel_rfl) (by kernel_rfl) (by kernel_rfl) (fun _ _ _ h => h) (Or.inl ⟨by rfl, ?hy4⟩) (by assumption) ?rest4
  case hy4 => (intro w hSw; (try dsimp only at hSw); go_simp <;> with_reducible rfl)
  try simp only [Act.put, List.setIfInBounds_toArray, List.set_cons_zero, List.set_cons_succ, List.getElem_toArray, List.getElem_cons_succ, List.getElem_cons_zero]
  refine' wpAnyH_take (i := 2) (v := _) rfl (by kernel_rfl) (by kernel_rfl) (by kernel_rfl) (fun _ _ _ h => h) (Or.inl ⟨by rfl, ?hy5⟩) (by assumption) ?rest5
  case hy5 => (intro w hSw; (try dsimp only at hSw); go_simp <;> with_reducible rfl)
  try simp only [Act.put, List.setIfInBounds_toArray, List.set_cons_zero, List.set_cons_succ, List.getElem_toArray, List.getElem_cons_succ, List.getElem_cons_zero]
  refine wpAnyH_ready (rs := [1]) (by kernel_rfl) (by simp) (AllReadyH.cons rfl (fun K hK => ?_) AllReadyH.nil)
  simp only [List.getElem_toArray, List.getElem_cons_succ, List.getElem_cons_zero]
  go_simp
  (go_at_call 7; refine (toSetup_any ro wi le ke _).mono ?_; rintro e w6 ⟨rfl, g6⟩; have gd := via0 g6 (Below.drew (Below.refl _ _)); have L6 := hidP (L5.out.below gd); have Y6 := hidP (Y5.out.below gd Y5.out.lt); have O6 := hidP (O5.out.below gd); have A6 : Hid (At w6 (some ⟨b4, 0, none⟩) l) := A5.out.below gd; clear g6 gd)
  refine hK.out _ _ ?_ (fun hH => ?_)
  · (exact ⟨L6.out.box1.row4.1, L6.out.box1.row4.2.1, L6.out.box1.row4.2.2.1, L6.out.box1.row4.2.2.2, Y6.out.row11⟩)
  clear hK K
  try simp only [Act.put, List.setIfInBounds_toArray, List.set_cons_zero, List.set_cons_succ, List.getElem_toArray, List.getElem_cons_succ, List.getElem_cons_zero]
  refine wpAnyH_ready (rs := [3]) (by kernel_rfl) (by simp) (AllReadyH.cons rfl (fun K hK => ?_) AllReadyH.nil)
  simp only [List.getElem_toArray, List.getElem_cons_succ, List.getElem_cons_zero]
  go_simp
  (go_at_call 9; refine (HIMP.out y b4 _ Hpy.out A6.out O6.out.at).mono ?_; rintro e w7 ⟨rfl, g7⟩; have L7 := hidP (L6.out.below g7); have Y7 := hidP (Y6.out.below g7 Y6.out.lt); have O7 := hidP (O6.out.below g7); have A7 : Hid (At w7 (some ⟨b4, 0, none⟩) l) := A6.out.below g7; clear g7 L6 Y6 O6 L5 Y5 O5 A5 A6)
  refine hK.out _ _ ?_ (fun hH => ?_)
  · (exact ⟨L7.out.box1.row4.1, L7.out.box1.row4.2.1, L7.out.box1.row4.2.2.1, L7.out.box1.row4.2.2.2, Y7.out.row11⟩)
  clear hK K
  try simp only [Act.put, List.setIfInBounds_toArray, List.set_cons_zero, List.set_cons_succ, List.getElem_toArray, List.getElem_cons_succ, List.getElem_cons_zero]
  refine' wpAnyH_take (i := 4) (v := _) rfl (by kernel_rfl) (by kernel_rfl) (by kernel_rfl) (fun _ _ _ h => h) (Or.inl ⟨by rfl, ?hy6⟩) (by assumption) ?rest6
  case hy6 => (intro w hSw; (try dsimp only at hSw); go_simp <;> with_reducible rfl)
  try simp only [Act.put, List.setIfInBounds_toArray, List.set_cons_zero, List.set_cons_succ, List.getElem_toArray, List.getElem_cons_succ, List.getElem_cons_zero]
  refine wpAnyH_done (by kernel_rfl) ?_ _
  refine NoPanic.normal ?_
  clear u0 u1 u2 u3 v0 v1 v2 v3 v4 v5 v6 v7 v8 v9 v10 q1 q2 hH
  obtain ⟨u0, u1, u2, u3, u4, u5, u6, u7, u8, u9, u10⟩ := L7.out.box2.row11
  obtain ⟨v0, v1, v2, v3, v4, v5, v6, v7, v8, v9, v10⟩ := Y7.out.row11
  have q1 := L7.out.box2.lt
  have q2 := Y7.out.lt
  cases B
  · go_wp2_with fail
    refine wp_region_noPanic ?_
    refine wp_region_held_drew (S := (fun w' => w'.cell? ⟨w4.heap.size, 0, none⟩ = some (.int .i64 te) ∧ w'.cell? ⟨w4.heap.size, 1, none⟩ = some (.int .i64 vo) ∧ w'.cell? ⟨w4.heap.size, 2, none⟩ = some (.int .i64 base) ∧ w'.cell? ⟨w4.heap.size, 3, none⟩ = some (.int .i64 bt) ∧ w'.cell? ⟨w4.heap.size, 4, none⟩ = some (.slice (some ⟨b4, 0, none⟩) l.length l.length) ∧ w'.cell? ⟨w4.heap.size, 5, none⟩ = some (.slice y.rA y.rs.length y.rc) ∧ w'.cell? ⟨w4.heap.size, 6, none⟩ = some (.slice y.mA y.ms.length y.mc) ∧ w'.cell? ⟨w4.heap.size, 7, none⟩ = some (.slice y.gA y.gs.length y.gc) ∧ w'.cell? ⟨w4.heap.size, 8, none⟩ = some (.int .i64 y.time) ∧ w'.cell? ⟨w4.heap.size, 9, none⟩ = some (.slice y.dA y.ds.length y.dc) ∧ w'.cell? ⟨w4.heap.size, 10, none⟩ = some (.slice y.lA y.ls.length y.lc) ∧ w'.cell? ⟨w.heap.size + 1, 0, none⟩ = some (.int .i64 te) ∧ w'.cell? ⟨w.heap.size + 1, 1, none⟩ = some (.int .i64 vo) ∧ w'.cell? ⟨w.heap.size + 1, 2, none⟩ = some (.int .i64 base) ∧ w'.cell? ⟨w.heap.size + 1, 3, none⟩ = some (.int .i64 bt) ∧ w'.cell? ⟨w.heap.size + 1, 4, none⟩ = some (.slice A l.length cap) ∧ w'.cell? ⟨w.heap.size + 1, 5, none⟩ = some (.slice x.rA x.rs.length x.rc) ∧ w'.cell? ⟨w.heap.size + 1, 6, none⟩ = some (.slice x.mA x.ms.length x.mc) ∧ w'.cell? ⟨w.heap.size + 1, 7, none⟩ = some (.slice x.gA x.gs.length x.gc) ∧ w'.cell? ⟨w.heap.size + 1, 8, none⟩ = some (.int .i64 x.time) ∧ w'.cell? ⟨w.heap.size + 1, 9, none⟩ = some (.slice x.dA x.ds.length x.dc) ∧ w'.cell? ⟨w.heap.size + 1, 10, none⟩ = some (.slice x.lA x.ls.length x.lc))) (by kernel_rfl) ?_ (fun hH => ?_)
    · exact ⟨v0, v1, v2, v3, v4, v5, v6, v7, v8, v9, v10, u0, u1, u2, u3, u4, u5, u6, u7, u8, u9, u10⟩
    refine' wpAnyH_take (i := 0) (v := _) rfl (by kernel_rfl) (by kernel_rfl) (by kernel_rfl) (fun _ _ _ h => h) (Or.inl ⟨by rfl, ?ha7⟩) (by assumption) ?ra7
    case ha7 => (intro w hSw; (try dsimp only at hSw); go_simp <;> with_reducible rfl)
    try simp only [Act.put, List.setIfInBounds_toArray, List.set_cons_zero, List.set_cons_succ, List.getElem_toArray, List.getElem_cons_succ, List.getElem_cons_zero]
    refine' wpAnyH_take (i := 1) (v := _) rfl (by kernel_rfl) (by kernel_rfl) (by kernel_rfl) (fun _ _ _ h => h) (Or.inl ⟨by rfl, ?ha8⟩) (by assumption) ?ra8
    case ha8 => (intro w hSw; (try dsimp only at hSw); go_simp <;> with_reducible rfl)
    try simp only [Act.put, List.setIfInBounds_toArray, List.set_cons_zero, List.set_cons_succ, List.getElem_toArray, List.getElem_cons_succ, List.getElem_cons_zero]
    refine wpAnyH_ready (rs := [2]) (by kernel_rfl) (by simp) (AllReadyH.cons rfl (fun K hK => ?_) AllReadyH.nil)
    simp only [List.getElem_toArray, List.getElem_cons_succ, List.getElem_cons_zero]
    go_simp
    (go_at_call 8; refine (toHard_any te vo base bt A cap l Hl.out x Hf.out _ (HX.out.1.below (L7.out.bel.drew)) (HX.out.2.below (L7.out.bel.drew))).mono ?_; rintro e w8 ⟨b8, y2, rfl, hp2, hb8, hb8', hi8, ht8, ho2, g8⟩; have HA8 : Hid (At w8 (some ⟨b8, 0, none⟩) l) := (.inr ⟨b8, 0, rfl, hb8', hi8⟩ : At w8 (some ⟨b8, 0, none⟩) l); have gd := via0 g8 (Below.drew (Below.refl _ _)); have L8 := hidP (L7.out.below gd); have Y8 := hidP (Y7.out.below gd Y7.out.lt); have O8 := hidP (O7.out.below gd); have A8 : Hid (At w8 (some ⟨b4, 0, none⟩) l) := A7.out.below gd; have HO2 := hidP ho2; have Hp2 := hidP hp2; clear g8 gd ho2 hp2 hi8 ht8)
    refine hK.out _ _ ?_ (fun hH => ?_)
    · (exact ⟨Y8.out.row11.1, Y8.out.row11.2.1, Y8.out.row11.2.2.1, Y8.out.row11.2.2.2.1, Y8.out.row11.2.2.2.2.1, Y8.out.row11.2.2.2.2.2.1, Y8.out.row11.2.2.2.2.2.2.1, Y8.out.row11.2.2.2.2.2.2.2.1, Y8.out.row11.2.2.2.2.2.2.2.2.1, Y8.out.row11.2.2.2.2.2.2.2.2.2.1, Y8.out.row11.2.2.2.2.2.2.2.2.2.2, L8.out.box2.row11⟩)
    clear hK K
    try simp only [Act.put, List.setIfInBounds_toArray, List.set_cons_zero, List.set_cons_succ, List.getElem_toArray, List.getElem_cons_succ, List.getElem_cons_zero]
    refine wpAnyH_ready (rs := [3]) (by kernel_rfl) (by simp) (AllReadyH.cons rfl (fun K hK => ?_) AllReadyH.nil)
    simp only [List.getElem_toArray, List.getElem_cons_succ, List.getElem_cons_zero]
    go_simp
    (go_at_call 10; refine (eqHard_same te vo base bt _ _ _ _ l (by have := Hl.out; omega) y y2 (fit_p Hpy.out Hf.out) (Hp2.out.trans Hpy.out.symm) _ A8.out HA8.out O8.out.at HO2.out.at).mono ?_; rintro e w9 ⟨rfl, g9⟩; have L9 := hidP (L8.out.below g9); have Y9 := hidP (Y8.out.below g9 Y8.out.lt); clear g9)
    refine hK.out _ _ ?_ (fun hH => ?_)
    · (exact ⟨Y9.out.row11.1, Y9.out.row11.2.1, Y9.out.row11.2.2.1, Y9.out.row11.2.2.2.1, Y9.out.row11.2.2.2.2.1, Y9.out.row11.2.2.2.2.2.1, Y9.out.row11.2.2.2.2.2.2.1, Y9.out.row11.2.2.2.2.2.2.2.1, Y9.out.row11.2.2.2.2.2.2.2.2.1, Y9.out.row11.2.2.2.2.2.2.2.2.2.1, Y9.out.row11.2.2.2.2.2.2.2.2.2.2, L9.out.box2.row11⟩)
    clear hK K
    try simp only [Act.put, List.setIfInBounds_toArray, List.set_cons_zero, List.set_cons_succ, List.getElem_toArray, List.getElem_cons_succ, List.getElem_cons_zero]
    refine' wpAnyH_take (i := 4) (v := _) rfl (by kernel_rfl) (by kernel_rfl) (by kernel_rfl) (fun _ _ _ h => h) (Or.inl ⟨by rfl, ?ha9⟩) (by assumption) ?ra9
    case ha9 => (intro w hSw; (try dsimp only at hSw); go_simp <;> with_reducible rfl)
    try simp only [Act.put, List.setIfInBounds_toArray, List.set_cons_zero, List.set_cons_succ, List.getElem_toArray, List.getElem_cons_succ, List.getElem_cons_zero]
    refine wpAnyH_done (by kernel_rfl) ?_ _
    refine NoPanic.normal ?_
    go_wp2
    go_ret
    exact ⟨rfl, L9.out.bel⟩
  · go_wp2_with fail
    refine wp_region_noPanic ?_
    refine wp_region_held_drew (S := (fun w' => w'.cell? ⟨w4.heap.size, 0, none⟩ = some (.int .i64 te) ∧ w'.cell? ⟨w4.heap.size, 1, none⟩ = some (.int .i64 vo) ∧ w'.cell? ⟨w4.heap.size, 2, none⟩ = some (.int .i64 base) ∧ w'.cell? ⟨w4.heap.size, 3, none⟩ = some (.int .i64 bt) ∧ w'.cell? ⟨w4.heap.size, 4, none⟩ = some (.slice (some ⟨b4, 0, none⟩) l.length l.length) ∧ w'.cell? ⟨w4.heap.size, 5, none⟩ = some (.slice y.rA y.rs.length y.rc) ∧ w'.cell? ⟨w4.heap.size, 6, none⟩ = some (.slice y.mA y.ms.length y.mc) ∧ w'.cell? ⟨w4.heap.size, 7, none⟩ = some (.slice y.gA y.gs.length y.gc) ∧ w'.cell? ⟨w4.heap.size, 8, none⟩ = some (.int .i64 y.time) ∧ w'.cell? ⟨w4.heap.size, 9, none⟩ = some (.slice y.dA y.ds.length y.dc) ∧ w'.cell? ⟨w4.heap.size, 10, none⟩ = some (.slice y.lA y.ls.length y.lc) ∧ w'.cell? ⟨w.heap.size + 1, 0, none⟩ = some (.int .i64 te) ∧ w'.cell? ⟨w.heap.size + 1, 1, none⟩ = some (.int .i64 vo) ∧ w'.cell? ⟨w.heap.size + 1, 2, none⟩ = some (.int .i64 base) ∧ w'.cell? ⟨w.heap.size + 1, 3, none⟩ = some (.int .i64 bt) ∧ w'.cell? ⟨w.heap.size + 1, 4, none⟩ = some (.slice A l.length cap) ∧ w'.cell? ⟨w.heap.size + 1, 5, none⟩ = some (.slice x.rA x.rs.length x.rc) ∧ w'.cell? ⟨w.heap.size + 1, 6, none⟩ = some (.slice x.mA x.ms.length x.mc) ∧ w'.cell? ⟨w.heap.size + 1, 7, none⟩ = some (.slice x.gA x.gs.length x.gc) ∧ w'.cell? ⟨w.heap.size + 1, 8, none⟩ = some (.int .i64 x.time) ∧ w'.cell? ⟨w.heap.size + 1, 9, none⟩ = some (.slice x.dA x.ds.length x.dc) ∧ w'.cell? ⟨w.heap.size + 1, 10, none⟩ = some (.slice x.lA x.ls.length x.lc))) (by kernel_rfl) ?_ (fun hH => ?_)
    · exact ⟨v0, v1, v2, v3, v4, v5, v6, v7, v8, v9, v10, u0, u1, u2, u3, u4, u5, u6, u7, u8, u9, u10⟩
    refine' wpAnyH_take (i := 0) (v := _) rfl (by kernel_rfl) (by kernel_rfl) (by kernel_rfl) (fun _ _ _ h => h) (Or.inl ⟨by rfl, ?hb7⟩) (by assumption) ?rb7
    case hb7 => (intro w hSw; (try dsimp only at hSw); go_simp <;> with_reducible rfl)
    try simp only [Act.put, List.setIfInBounds_toArray, List.set_cons_zero, List.set_cons_succ, List.getElem_toArray, List.getElem_cons_succ, List.getElem_cons_zero]
    refine' wpAnyH_take (i := 1) (v := _) rfl (by kernel_rfl) (by kernel_rfl) (by kernel_rfl) (fun _ _ _ h => h) (Or.inl ⟨by rfl, ?hb8⟩) (by assumption) ?rb8
    case hb8 => (intro w hSw; (try dsimp only at hSw); go_simp <;> with_reducible rfl)
    try simp only [Act.put, List.setIfInBounds_toArray, List.set_cons_zero, List.set_cons_succ, List.getElem_toArray, List.getElem_cons_succ, List.getElem_cons_zero]
    refine wpAnyH_ready (rs := [2]) (by kernel_rfl) (by simp) (AllReadyH.cons rfl (fun K hK => ?_) AllReadyH.nil)
    simp only [List.getElem_toArray, List.getElem_cons_succ, List.getElem_cons_zero]
    go_simp
    (go_at_call 8; refine (toHard_any te vo base bt A cap l Hl.out x Hf.out _ (HX.out.1.below (L7.out.bel.drew)) (HX.out.2.below (L7.out.bel.drew))).mono ?_; rintro e w8 ⟨b8, y2, rfl, hp2, hb8, hb8', hi8, ht8, ho2, g8⟩; have HA8 : Hid (At w8 (some ⟨b8, 0, none⟩) l) := (.inr ⟨b8, 0, rfl, hb8', hi8⟩ : At w8 (some ⟨b8, 0, none⟩) l); have gd := via0 g8 (Below.drew (Below.refl _ _)); have L8 := hidP (L7.out.below gd); have Y8 := hidP (Y7.out.below gd Y7.out.lt); have O8 := hidP (O7.out.below gd); have A8 : Hid (At w8 (some ⟨b4, 0, none⟩) l) := A7.out.below gd; have HO2 := hidP ho2; have Hp2 := hidP hp2; clear g8 gd ho2 hp2 hi8 ht8)
    refine hK.out _ _ ?_ (fun hH => ?_)
    · (exact ⟨Y8.out.row11.1, Y8.out.row11.2.1, Y8.out.row11.2.2.1, Y8.out.row11.2.2.2.1, Y8.out.row11.2.2.2.2.1, Y8.out.row11.2.2.2.2.2.1, Y8.out.row11.2.2.2.2.2.2.1, Y8.out.row11.2.2.2.2.2.2.2.1, Y8.out.row11.2.2.2.2.2.2.2.2.1, Y8.out.row11.2.2.2.2.2.2.2.2.2.1, Y8.out.row11.2.2.2.2.2.2.2.2.2.2, L8.out.box2.row11⟩)
    clear hK K
    try simp only [Act.put, List.setIfInBounds_toArray, List.set_cons_zero, List.set_cons_succ, List.getElem_toArray, List.getElem_cons_succ, List.getElem_cons_zero]
    refine wpAnyH_ready (rs := [3]) (by kernel_rfl) (by simp) (AllReadyH.cons rfl (fun K hK => ?_) AllReadyH.nil)
    simp only [List.getElem_toArray, List.getElem_cons_succ, List.getElem_cons_zero]
    go_simp
    (go_at_call 10; refine (eqHard_same te vo base bt _ _ _ _ l (by have := Hl.out; omega) y y2 (fit_p Hpy.out Hf.out) (Hp2.out.trans Hpy.out.symm) _ A8.out HA8.out O8.out.at HO2.out.at).mono ?_; rintro e w9 ⟨rfl, g9⟩; have L9 := hidP (L8.out.below g9); have Y9 := hidP (Y8.out.below g9 Y8.out.lt); clear g9)
    refine hK.out _ _ ?_ (fun hH => ?_)
    · (exact ⟨Y9.out.row11.1, Y9.out.row11.2.1, Y9.out.row11.2.2.1, Y9.out.row11.2.2.2.1, Y9.out.row11.2.2.2.2.1, Y9.out.row11.2.2.2.2.2.1, Y9.out.row11.2.2.2.2.2.2.1, Y9.out.row11.2.2.2.2.2.2.2.1, Y9.out.row11.2.2.2.2.2.2.2.2.1, Y9.out.row11.2.2.2.2.2.2.2.2.2.1, Y9.out.row11.2.2.2.2.2.2.2.2.2.2, L9.out.box2.row11⟩)
    clear hK K
    try simp only [Act.put, List.setIfInBounds_toArray, List.set_cons_zero, List.set_cons_succ, List.getElem_toArray, List.getElem_cons_succ, List.getElem_cons_zero]
    refine' wpAnyH_take (i := 4) (v := _) rfl (by kernel_rfl) (by kernel_rfl) (by kernel_rfl) (fun _ _ _ h => h) (Or.inl ⟨by rfl, ?hb9⟩) (by assumption) ?rb9
    case hb9 => (intro w hSw; (try dsimp only at hSw); go_simp <;> with_reducible rfl)
    try simp only [Act.put, List.setIfInBounds_toArray, List.set_cons_zero, List.set_cons_succ, List.getElem_toArray, List.getElem_cons_succ, List.getElem_cons_zero]
    refine wpAnyH_done (by kernel_rfl) ?_ _
    refine NoPanic.normal ?_
    go_wp2
    go_ret
    exact ⟨rfl, L9.out.bel⟩

set_option maxRecDepth 100000 in
theorem contract (H : Type) (enc : TypeId × Value → H) (W : World) (base : Nat) (args : Array Value) (ds gs : List (DataW H)) (before : List MemPlace)
    (hval : ∀ (j : Nat) t v, Tryz.f3.params[j]? = some t → args[j]? = some v → Value.okWide Tryz.prog W .any base t v)
    (hW : DataW.Whole enc Tryz.prog Tryz.f3.params.toList Rows.fnExactHardOkSpec.vars false W args.toList ds gs before) :
    Calls Tryz.prog 3 args W fun e W' => ∃ v, e = .returned v ∧ Rows.fnExactHardOkSpec.post enc Tryz.prog Tryz.f3 false true false false W args v W' := by
  have hW' := hW
  obtain ⟨p, q, hA0, hV, rfl, hfz, hnd⟩ := hW
  have hA : DataW.TrodAll enc Tryz.prog W 0 (fun _ => true) true Tryz.f3.params.toList args.toList ds p := hA0
  rw [Tryz.params3] at hA hval
  obtain ⟨v0, vs0, d0, ds0, p0, q0, e0, rfl, rfl, h0, r0⟩ := trodAll_cons hA
  obtain ⟨v1, vs1, d1, ds1, p1, q1, rfl, rfl, rfl, h1, r1⟩ := trodAll_cons r0
  obtain ⟨rfl, rfl, rfl⟩ := trodAll_nil r1
  have e0' : args = #[v0, v1] := by cases args; simp_all
  subst e0'
  obtain ⟨rfl, rfl⟩ := trodVars_none hV
  obtain ⟨ro, wi, le, ke, rfl, _, _, _, _⟩ := openSetup (hval 0 23 v0 rfl rfl) h0
  obtain ⟨te, vo, base1, bt, A, cap, l, x, rfl, _, _, _, _, hl, hlr, hA, hr, hat⟩ := openHard (hval 1 35 v1 rfl rfl) h1
  refine (law_any ro wi le ke te vo base1 bt A cap l hl hlr x hr W hA hat).mono fun e W' ⟨he, hb⟩ => ?_
  subst he
  exact ⟨_, rfl, post_true laidOut (by kernel_rfl) (by kernel_rfl) Tryz.underlying4 rfl rfl hW' hb⟩

set_option maxRecDepth 100000 in
theorem lifted (os : Os) (started : os.Started) (H : Type) (enc : TypeId × Value → H) :
    ReturnsInHanded {} Tryz.checked os 3 .any (Rows.fnExactHardOkSpec.pre6 enc Tryz.prog Tryz.f3 Rows.fnExactHardOkRow.domain false) (Rows.fnExactHardOkSpec.post enc Tryz.prog Tryz.f3 false true false false) := by
  refine returnsInHanded_of_change (C := Tryz.checked) own started (by kernel_rfl) Tryz.func3
    (ChangeSpec.witness6 (enc := enc) (C := Tryz.checked) false ⟨#[], #[.agg #[.int .i64 0, .int .i64 0, .int .i64 0, .int .i64 0], .agg #[.int .i64 0, .int .i64 0, .int .i64 0, .int .i64 0, .slice none 0 0, .slice none 0 0, .slice none 0 0, .slice none 0 0, .int .i64 0, .slice none 0 0, .slice none 0 0]], []⟩ 8 (by kernel_rfl) (by kernel_rfl) (by kernel_rfl) (by kernel_rfl)) ?_
  intro W base args ds gs before hval0 hW _ _
  exact contract H enc W base args ds gs before hval0 hW

set_option maxRecDepth 100000 in
theorem proved : Rows.FnExactHardOkSaid :=
  OpenClaim.holds_of_wide 3 Tryz.f3 rfl rfl rfl rfl rfl rfl rfl ⟨rfl, rfl, rfl, rfl, rfl⟩ rfl rfl rfl rfl rfl (by kernel_rfl) Tryz.func3 (by kernel_rfl)
    (of_decide_eq_true (by kernel_rfl)) (by unfold Func.isWrapper; first | (rw [if_pos (by decide +kernel)]; kernel_rfl) | (rw [if_neg (by decide +kernel)]; exact ⟨rfl, rfl⟩))
    (fun os started H enc _ => lifted os started H enc)
end Go.Proofs.YtclgdghfcjkhfaaGreat.HardOk
namespace Go.Proofs.YtclgdghfcjkhfaaGreat
theorem hardOk_holds : Rows.FnExactHardOkSaid := HardOk.proved
end Go.Proofs.YtclgdghfcjkhfaaGreat
