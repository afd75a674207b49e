/-
  FnExactHardBytes: at every setup and Hard the program's bytes are the specification's, the Hard that it was handed stays as it was, and its answer owns its memory. No condition.
-/
import Derived.Test.YtaefjifcnoiplaaGreatHOk
import Derived.Test.YtaefjifcnoiplaaGreatHb4
import Derived.Test.YtaefjifcnoiplaaGreatAnsList
import Derived.Test.YtaefjifcnoiplaaGreatGpList
import Derived.Test.YtaefjifcnoiplaaGreatKeepP
import Derived.Test.YtaefjifcnoiplaaGreatKS3
namespace Go.Proofs.YtaefjifcnoiplaaGreat.HardBytes
open Go.ChangeShapes Go.WideShapes Go.ChangeAt Go.RowKit Go.Joins Go.Deep Base Gen
set_option linter.unusedVariables false
set_option linter.unusedSimpArgs false
theorem own : ownKnob Tryz.prog.godebug = none := by kernel_rfl
theorem laidOut : laidOutB Tryz.prog = true := by kernel_rfl
theorem hardO_p {ro wi le ke te vo base bt : Int} {l : List En} {x y : KC} (hp : y.p = x.p) : hardO ro wi le ke te vo base bt l y = hardO ro wi le ke te vo base bt l x := by
  have e : hardB ro wi le ke te vo base bt l y = hardB ro wi le ke te vo base bt l x := by simp only [hardB, keepB_p hp]
  unfold hardO
  rw [e, kB_p hp]
theorem sl_offp {α : Type} [Cel α] {F : List Nat} {T : Nat -> Prop} {w w1 : World} {a : Option Addr} {l : List α} (h : Sl w a l F) (k : Offp T w w1) (hd : ∀ x ∈ F, ¬ T x) : Sl w1 a l F := by
  rcases h with h | ⟨b, o, rfl, rfl, hb, hi, ht⟩
  . exact .inl h
  . have := hd b (by simp)
    exact .inr ⟨b, o, rfl, rfl, Nat.lt_of_lt_of_le hb k.size, hi.offp k hb this, there_offp ht k hb this⟩
structure Lq (w W : World) (ro wi le ke : Int) (te vo base bt : Int) (A : Option Addr) (cap : Nat) (l : List En) (x : KC) : Prop where
  box1 : Blk W w.heap.size 23 #[.int .i64 ro, .int .i64 wi, .int .i64 le, .int .i64 ke]
  box2 : Blk W (w.heap.size + 1) 35 #[.int .i64 te, .int .i64 vo, .int .i64 base, .int .i64 bt, .slice A l.length cap, .slice x.rA x.rs.length x.rc, .slice x.mA x.ms.length x.mc, .slice x.gA x.gs.length x.gc, .int .i64 x.time, .slice x.dA x.ds.length x.dc, .slice x.lA x.ls.length x.lc]
  bel : Below w.heap.size w W
theorem Lq.below {w W W' : World} {ro wi le ke te vo base bt : Int} {A : Option Addr} {cap : Nat} {l : List En} {x : KC} (h : Lq w W ro wi le ke te vo base bt A cap l x) (g : Below W.heap.size W W') : Lq w W' ro wi le ke te vo base bt A cap l x :=
  ⟨h.box1.below g h.box1.lt, h.box2.below g h.box2.lt, via0 g h.bel⟩
set_option maxRecDepth 100000 in
set_option maxHeartbeats 4000000 in
theorem law_any (ro wi le ke : Int) (te vo base bt : Int) (A : Option Addr) (cap : Nat) (l : List En) (hll : l.length <= 9223372036854775807) (hlr : ∀ z ∈ l, z.right) (x : KC) (hr : KRight x) (w : World) (hA : At w A l) (hx : KAt w x) :
    Calls Tryz.prog 3 #[.agg #[.int .i64 ro, .int .i64 wi, .int .i64 le, .int .i64 ke], .agg #[.int .i64 te, .int .i64 vo, .int .i64 base, .int .i64 bt, .slice A l.length cap, .slice x.rA x.rs.length x.rc, .slice x.mA x.ms.length x.mc, .slice x.gA x.gs.length x.gc, .int .i64 x.time, .slice x.dA x.ds.length x.dc, .slice x.lA x.ls.length x.lc]] w fun e w' => e = .returned (.bool true) /\ Below w.heap.size w w' := by
  have HX := hidP (And.intro hA hx)
  have Hlr : Hid (∀ z ∈ l, z.fit) := fun z hz => (hlr z hz).fit
  have Hr := hidP hr
  clear hx hr hA hlr
  have L0 : Lq w ((w.alloc (.cells #[.int .i64 ro, .int .i64 wi, .int .i64 le, .int .i64 ke] 23)).alloc (.cells #[.int .i64 te, .int .i64 vo, .int .i64 base, .int .i64 bt, .slice A l.length cap, .slice x.rA x.rs.length x.rc, .slice x.mA x.ms.length x.mc, .slice x.gA x.gs.length x.gc, .int .i64 x.time, .slice x.dA x.ds.length x.dc, .slice x.lA x.ls.length x.lc] 35)) ro wi le ke te vo base bt A cap l x := ⟨(Blk.new w _ _).alloc _, by have := Blk.new (w.alloc (.cells #[.int .i64 ro, .int .i64 wi, .int .i64 le, .int .i64 ke] 23)) 35 #[.int .i64 te, .int .i64 vo, .int .i64 base, .int .i64 bt, .slice A l.length cap, .slice x.rA x.rs.length x.rc, .slice x.mA x.ms.length x.mc, .slice x.gA x.gs.length x.gc, .int .i64 x.time, .slice x.dA x.ds.length x.dc, .slice x.lA x.ls.length x.lc]; rwa [World.size_alloc] at this, alloc0 (alloc0 (Below.refl _ _) _) _⟩
  go_enter Tryz.func3, Tryz.ntmps3
  go_wp2_with fail
  refine (szHard_at te vo base bt A cap l hll Hlr.out x Hr.out 1048576 (by omega) (by omega) _ (HX.out.1.below L0.bel) (HX.out.2.below L0.bel)).mono ?_
  rintro e w1 ⟨⟨r, rfl, hz⟩, g1⟩
  have L1 := L0.below g1
  have HL1 := hidP L1
  obtain ⟨u0, u1, u2, u3⟩ := L1.box1.row4
  obtain ⟨v0, v1, v2, v3, v4, v5, v6, v7, v8, v9, v10⟩ := L1.box2.row11
  have q1 := L1.box1.lt
  have q2 := L1.box2.lt
  clear L0 L1 g1
  rcases hz with hz | ⟨hz, _, hl, hf⟩
  . go_wp2
    go_ret
    exact ⟨rfl, HL1.out.bel⟩
  have nz : ¬ r < 0 := by omega
  have Hf := hidP hf
  have Hl := hidP hl
  clear hf hl
  obtain ⟨L, hL⟩ : ∃ L, hardO ro wi le ke te vo base bt l x = L := ⟨_, rfl⟩
  have hLl : L.length <= 20000000 := by rw [← hL]; exact hardO_le ro wi le ke te vo base bt l x
  have HSPEC : Hid (∀ (y : KC) (b4 : Nat) (W : World), y.p = x.p -> At W (some ⟨b4, 0, none⟩) l -> KAt W y -> Calls Tryz.prog 5 #[.agg #[.int .i64 ro, .int .i64 wi, .int .i64 le, .int .i64 ke], .agg #[.int .i64 te, .int .i64 vo, .int .i64 base, .int .i64 bt, .slice (some ⟨b4, 0, none⟩) l.length l.length, .slice y.rA y.rs.length y.rc, .slice y.mA y.ms.length y.mc, .slice y.gA y.gs.length y.gc, .int .i64 y.time, .slice y.dA y.ds.length y.dc, .slice y.lA y.ls.length y.lc]] W fun e w' => ∃ a' c', e = .returned (.slice a' L.length c') /\ Jo W w' a' c' L) := fun y b4 W hp hl ha => by
    have h := specHardBytes_any ro wi le ke te vo base bt (some ⟨b4, 0, none⟩) l.length l Hl.out Hlr.out ⟨Nat.le_refl _, hll⟩ y (ask_p hp ⟨Hf.out, Hr.out.rr, Hr.out.lr⟩) W hl ha
    rw [show hardO ro wi le ke te vo base bt l y = hardO ro wi le ke te vo base bt l x from hardO_p hp, hL] at h
    exact h
  have HIMP : Hid (∀ (y : KC) (b4 : Nat) (W : World), y.p = x.p -> At W (some ⟨b4, 0, none⟩) l -> KAt W y -> Calls Tryz.prog 8 #[.agg #[.int .i64 ro, .int .i64 wi, .int .i64 le, .int .i64 ke], .agg #[.int .i64 te, .int .i64 vo, .int .i64 base, .int .i64 bt, .slice (some ⟨b4, 0, none⟩) l.length l.length, .slice y.rA y.rs.length y.rc, .slice y.mA y.ms.length y.mc, .slice y.gA y.gs.length y.gc, .int .i64 y.time, .slice y.dA y.ds.length y.dc, .slice y.lA y.ls.length y.lc]] W fun e w' => ∃ a' c', e = .returned (.slice a' L.length c') /\ Jo W w' a' c' L) := fun y b4 W hp hl ha => by
    have h := implHardBytes_any ro wi le ke te vo base bt (some ⟨b4, 0, none⟩) l.length l Hl.out Hlr.out ⟨Nat.le_refl _, hll⟩ y (ask_p hp ⟨Hf.out, Hr.out.rr, Hr.out.lr⟩) W hl ha
    rw [show hardO ro wi le ke te vo base bt l y = hardO ro wi le ke te vo base bt l x from hardO_p hp, hL] at h
    exact h
  clear hL
  go_wp2_with fail
  refine wp_region_noPanic ?_
  refine wp_region_held_drew (S := (fun w' => w'.cell? ⟨w.heap.size, 0, none⟩ = some (.int .i64 ro) /\ w'.cell? ⟨w.heap.size, 1, none⟩ = some (.int .i64 wi) /\ w'.cell? ⟨w.heap.size, 2, none⟩ = some (.int .i64 le) /\ w'.cell? ⟨w.heap.size, 3, none⟩ = some (.int .i64 ke) /\ w'.cell? ⟨w.heap.size + 1, 0, none⟩ = some (.int .i64 te) /\ w'.cell? ⟨w.heap.size + 1, 1, none⟩ = some (.int .i64 vo) /\ w'.cell? ⟨w.heap.size + 1, 2, none⟩ = some (.int .i64 base) /\ w'.cell? ⟨w.heap.size + 1, 3, none⟩ = some (.int .i64 bt) /\ w'.cell? ⟨w.heap.size + 1, 4, none⟩ = some (.slice A l.length cap) /\ w'.cell? ⟨w.heap.size + 1, 5, none⟩ = some (.slice x.rA x.rs.length x.rc) /\ w'.cell? ⟨w.heap.size + 1, 6, none⟩ = some (.slice x.mA x.ms.length x.mc) /\ w'.cell? ⟨w.heap.size + 1, 7, none⟩ = some (.slice x.gA x.gs.length x.gc) /\ w'.cell? ⟨w.heap.size + 1, 8, none⟩ = some (.int .i64 x.time) /\ w'.cell? ⟨w.heap.size + 1, 9, none⟩ = some (.slice x.dA x.ds.length x.dc) /\ w'.cell? ⟨w.heap.size + 1, 10, none⟩ = some (.slice x.lA x.ls.length x.lc))) (by kernel_rfl) ?_ (fun hH => ?_)
  . exact ⟨u0, u1, u2, u3, v0, v1, v2, v3, v4, v5, v6, v7, v8, v9, v10⟩
  refine ztk [0,2] ?_; repeat (refine ztn (h := ?_); try simp only [zX,zY])
  refine zte ?_
  refine zR1 1 (fun K hK => ?_)
  simp only [zG]
  go_simp
  (go_at_call 6; refine (toSetup_any ro wi le ke _).mono ?_; rintro e w2 ⟨rfl, g2⟩; have L2 := hidP (HL1.out.below (via0 g2 (Below.drew (Below.refl _ _)))); clear g2)
  refine hK.out _ _ ?_ (fun hH => ?_)
  . (exact ⟨L2.out.box1.row4.1, L2.out.box1.row4.2.1, L2.out.box1.row4.2.2.1, L2.out.box1.row4.2.2.2, L2.out.box2.row11⟩)
  clear hK K
  try simp only [zX,zY]
  refine zR1 3 (fun K hK => ?_)
  simp only [zG]
  go_simp
  (go_at_call 7; refine (toHard_any te vo base bt A cap l Hl.out x Hf.out _ (HX.out.1.below L2.out.bel) (HX.out.2.below L2.out.bel)).mono ?_; rintro e w3 ⟨b0, y0, rfl, hp0, hb0, hb0', hi0, ht0, ho0, g3⟩; have HE0 : Hid (At w3 (some ⟨b0, 0, none⟩) l) := (.inr ⟨b0, 0, rfl, hb0', hi0⟩ : At w3 (some ⟨b0, 0, none⟩) l); have HO0 := hidP ho0; have Hp0 := hidP hp0; have L3 := hidP (L2.out.below g3); clear g3 ho0 hp0 hi0 ht0)
  refine hK.out _ _ ?_ (fun hH => ?_)
  . (exact ⟨L3.out.box1.row4.1, L3.out.box1.row4.2.1, L3.out.box1.row4.2.2.1, L3.out.box1.row4.2.2.2, L3.out.box2.row11⟩)
  clear hK K
  try simp only [zX,zY]
  refine zR1 4 (fun K hK => ?_)
  simp only [zG]
  go_simp
  (go_at_call 5; refine (HSPEC.out y0 b0 _ Hp0.out HE0.out HO0.out.at).mono ?_; rintro e w3' ⟨a0, c0, rfl, j4⟩; have L4 := hidP (L3.out.below j4.bl); obtain ⟨F0, s4, _⟩ := sl_ownB j4.own; have S0 := hidP s4; clear j4 s4 HO0 HE0 L2 L3)
  refine hK.out _ _ ?_ (fun hH => ?_)
  . (exact ⟨L4.out.box1.row4.1, L4.out.box1.row4.2.1, L4.out.box1.row4.2.2.1, L4.out.box1.row4.2.2.2, L4.out.box2.row11⟩)
  clear hK K
  try simp only [zX,zY]
  refine zt1 5 ?_; refine ztn (h := ?_); try simp only [zX,zY]
  refine zte ?_
  refine zdn ?_
  clear u0 u1 u2 u3 v0 v1 v2 v3 v4 v5 v6 v7 v8 v9 v10 q1 q2 HL1 hH
  have lt0 : Hid (∀ b ∈ F0, b < w3'.heap.size) := S0.out.lt
  obtain ⟨u0, u1, u2, u3⟩ := L4.out.box1.row4
  obtain ⟨v0, v1, v2, v3, v4, v5, v6, v7, v8, v9, v10⟩ := L4.out.box2.row11
  have q1 := L4.out.box1.lt
  have q2 := L4.out.box2.lt
  go_wp2_with fail
  refine (toHard_any te vo base bt A cap l Hl.out x Hf.out _ (HX.out.1.below L4.out.bel) (HX.out.2.below L4.out.bel)).mono ?_
  rintro e w4 ⟨b4, y, rfl, hpy, hb4, hb4', hi4, ht4, hoy, g5⟩
  have n5 : Below w4.heap.size w4 (w4.alloc (.cells #[.int .i64 te, .int .i64 vo, .int .i64 base, .int .i64 bt, .slice (some ⟨b4, 0, none⟩) l.length l.length, .slice y.rA y.rs.length y.rc, .slice y.mA y.ms.length y.mc, .slice y.gA y.gs.length y.gc, .int .i64 y.time, .slice y.dA y.ds.length y.dc, .slice y.lA y.ls.length y.lc] 51)) := alloc0 (Below.refl _ _) _
  have L5 := hidP ((L4.out.below g5).below n5)
  have Y5 : Hid (Blk (w4.alloc (.cells #[.int .i64 te, .int .i64 vo, .int .i64 base, .int .i64 bt, .slice (some ⟨b4, 0, none⟩) l.length l.length, .slice y.rA y.rs.length y.rc, .slice y.mA y.ms.length y.mc, .slice y.gA y.gs.length y.gc, .int .i64 y.time, .slice y.dA y.ds.length y.dc, .slice y.lA y.ls.length y.lc] 51)) w4.heap.size 51 #[.int .i64 te, .int .i64 vo, .int .i64 base, .int .i64 bt, .slice (some ⟨b4, 0, none⟩) l.length l.length, .slice y.rA y.rs.length y.rc, .slice y.mA y.ms.length y.mc, .slice y.gA y.gs.length y.gc, .int .i64 y.time, .slice y.dA y.ds.length y.dc, .slice y.lA y.ls.length y.lc]) := Blk.new w4 _ _
  have O5 := hidP (hoy.below n5)
  have E5 : Hid (Sl (w4.alloc (.cells #[.int .i64 te, .int .i64 vo, .int .i64 base, .int .i64 bt, .slice (some ⟨b4, 0, none⟩) l.length l.length, .slice y.rA y.rs.length y.rc, .slice y.mA y.ms.length y.mc, .slice y.gA y.gs.length y.gc, .int .i64 y.time, .slice y.dA y.ds.length y.dc, .slice y.lA y.ls.length y.lc] 51)) (some ⟨b4, 0, none⟩) l [b4]) := Sl.below (.inr ⟨b4, 0, rfl, rfl, hb4', hi4, ht4⟩ : Sl w4 (some ⟨b4, 0, none⟩) l [b4]) n5
  have S5 := hidP ((S0.out.below g5).below n5)
  have Hpy := hidP hpy
  have h34 := hidP g5.size
  have hb3 := hidP hb4
  have hb5 := hidP hb4'
  have hw3 := hidP (show w.heap.size + 1 < w3'.heap.size from L4.out.box2.lt)
  clear u0 u1 u2 u3 v0 v1 v2 v3 v4 v5 v6 v7 v8 v9 v10 q1 q2 L4 n5 hoy hpy g5 S0 hi4 ht4 hb4 hb4'
  obtain ⟨u0, u1, u2, u3⟩ := L5.out.box1.row4
  obtain ⟨v0, v1, v2, v3, v4, v5, v6, v7, v8, v9, v10⟩ := Y5.out.row11
  have q1 := L5.out.box1.lt
  have q2 := Y5.out.lt
  go_wp2_with fail
  refine wp_region_noPanic ?_
  refine wp_region_held_drew (S := (fun w' => w'.cell? ⟨w.heap.size, 0, none⟩ = some (.int .i64 ro) /\ w'.cell? ⟨w.heap.size, 1, none⟩ = some (.int .i64 wi) /\ w'.cell? ⟨w.heap.size, 2, none⟩ = some (.int .i64 le) /\ w'.cell? ⟨w.heap.size, 3, none⟩ = some (.int .i64 ke) /\ w'.cell? ⟨w4.heap.size, 0, none⟩ = some (.int .i64 te) /\ w'.cell? ⟨w4.heap.size, 1, none⟩ = some (.int .i64 vo) /\ w'.cell? ⟨w4.heap.size, 2, none⟩ = some (.int .i64 base) /\ w'.cell? ⟨w4.heap.size, 3, none⟩ = some (.int .i64 bt) /\ w'.cell? ⟨w4.heap.size, 4, none⟩ = some (.slice (some ⟨b4, 0, none⟩) l.length l.length) /\ w'.cell? ⟨w4.heap.size, 5, none⟩ = some (.slice y.rA y.rs.length y.rc) /\ w'.cell? ⟨w4.heap.size, 6, none⟩ = some (.slice y.mA y.ms.length y.mc) /\ w'.cell? ⟨w4.heap.size, 7, none⟩ = some (.slice y.gA y.gs.length y.gc) /\ w'.cell? ⟨w4.heap.size, 8, none⟩ = some (.int .i64 y.time) /\ w'.cell? ⟨w4.heap.size, 9, none⟩ = some (.slice y.dA y.ds.length y.dc) /\ w'.cell? ⟨w4.heap.size, 10, none⟩ = some (.slice y.lA y.ls.length y.lc))) (by kernel_rfl) ?_ (fun hH => ?_)
  . exact ⟨u0, u1, u2, u3, v0, v1, v2, v3, v4, v5, v6, v7, v8, v9, v10⟩
  refine ztk [0,2] ?_; repeat (refine ztn (h := ?_); try simp only [zX,zY])
  refine zte ?_
  refine zR1 1 (fun K hK => ?_)
  simp only [zG]
  go_simp
  (go_at_call 6; refine (toSetup_any ro wi le ke _).mono ?_; rintro e w6 ⟨rfl, g6⟩; have gd := via0 g6 (Below.drew (Below.refl _ _)); have L6 := hidP (L5.out.below gd); have Y6 := hidP (Y5.out.below gd Y5.out.lt); have O6 := hidP (O5.out.below gd); have E6 := hidP (E5.out.below gd); have S6 := hidP (S5.out.below gd); clear g6 gd)
  refine hK.out _ _ ?_ (fun hH => ?_)
  . (exact ⟨L6.out.box1.row4.1, L6.out.box1.row4.2.1, L6.out.box1.row4.2.2.1, L6.out.box1.row4.2.2.2, Y6.out.row11⟩)
  clear hK K
  try simp only [zX,zY]
  refine zR1 3 (fun K hK => ?_)
  simp only [zG]
  go_simp
  (go_at_call 8; refine (HIMP.out y b4 _ Hpy.out E6.out.at O6.out.at).mono ?_; rintro e w7 ⟨aI, cI, rfl, j7⟩; have hlo6 := hidP Y6.out.lt; have L7 := hidP (L6.out.below j7.bl); have Y7 := hidP (Y6.out.below j7.bl Y6.out.lt); have O7 := hidP (O6.out.below j7.bl); have E7 := hidP (E6.out.below j7.bl); have S7 := hidP (S6.out.below j7.bl); obtain ⟨FI, s7, f7⟩ := sl_ownB j7.own; have G7 := hidP s7; have HF7 := hidP f7; clear j7 s7 f7 L6 Y6 O6 E6 S6 L5 Y5 O5 E5 S5)
  refine hK.out _ _ ?_ (fun hH => ?_)
  . (exact ⟨L7.out.box1.row4.1, L7.out.box1.row4.2.1, L7.out.box1.row4.2.2.1, L7.out.box1.row4.2.2.2, Y7.out.row11⟩)
  clear hK K
  try simp only [zX,zY]
  refine zt1 4 ?_; refine ztn (h := ?_); try simp only [zX,zY]
  refine zte ?_
  refine zdn ?_
  clear u0 u1 u2 u3 v0 v1 v2 v3 v4 v5 v6 v7 v8 v9 v10 q1 q2 hH
  obtain ⟨u0, u1, u2, u3, u4, u5, u6, u7, u8, u9, u10⟩ := L7.out.box2.row11
  obtain ⟨v0, v1, v2, v3, v4, v5, v6, v7, v8, v9, v10⟩ := Y7.out.row11
  have q1 := L7.out.box2.lt
  have q2 := Y7.out.lt
  go_wp2_with fail
  refine (eqB_same aI a0 cI c0 L (by omega) _ G7.out.at S7.out.at).mono ?_
  rintro e w8 ⟨rfl, g8⟩
  have L8 := hidP (L7.out.below g8)
  have Y8 := hidP (Y7.out.below g8 Y7.out.lt)
  have O8 := hidP (O7.out.below g8)
  have E8 := hidP (E7.out.below g8)
  have S8 := hidP (S7.out.below g8)
  have G8 := hidP (G7.out.below g8)
  clear g8 L7 Y7 O7 E7 S7 G7 u0 u1 u2 u3 u4 u5 u6 u7 u8 u9 u10 v0 v1 v2 v3 v4 v5 v6 v7 v8 v9 v10 q1 q2
  obtain ⟨u0, u1, u2, u3, u4, u5, u6, u7, u8, u9, u10⟩ := L8.out.box2.row11
  obtain ⟨v0, v1, v2, v3, v4, v5, v6, v7, v8, v9, v10⟩ := Y8.out.row11
  have q1 := L8.out.box2.lt
  have q2 := Y8.out.lt
  go_wp2_with fail
  refine wp_region_noPanic ?_
  refine wp_region_held_drew (S := (fun w' => w'.cell? ⟨w4.heap.size, 0, none⟩ = some (.int .i64 te) /\ w'.cell? ⟨w4.heap.size, 1, none⟩ = some (.int .i64 vo) /\ w'.cell? ⟨w4.heap.size, 2, none⟩ = some (.int .i64 base) /\ w'.cell? ⟨w4.heap.size, 3, none⟩ = some (.int .i64 bt) /\ w'.cell? ⟨w4.heap.size, 4, none⟩ = some (.slice (some ⟨b4, 0, none⟩) l.length l.length) /\ w'.cell? ⟨w4.heap.size, 5, none⟩ = some (.slice y.rA y.rs.length y.rc) /\ w'.cell? ⟨w4.heap.size, 6, none⟩ = some (.slice y.mA y.ms.length y.mc) /\ w'.cell? ⟨w4.heap.size, 7, none⟩ = some (.slice y.gA y.gs.length y.gc) /\ w'.cell? ⟨w4.heap.size, 8, none⟩ = some (.int .i64 y.time) /\ w'.cell? ⟨w4.heap.size, 9, none⟩ = some (.slice y.dA y.ds.length y.dc) /\ w'.cell? ⟨w4.heap.size, 10, none⟩ = some (.slice y.lA y.ls.length y.lc) /\ w'.cell? ⟨w.heap.size + 1, 0, none⟩ = some (.int .i64 te) /\ w'.cell? ⟨w.heap.size + 1, 1, none⟩ = some (.int .i64 vo) /\ w'.cell? ⟨w.heap.size + 1, 2, none⟩ = some (.int .i64 base) /\ w'.cell? ⟨w.heap.size + 1, 3, none⟩ = some (.int .i64 bt) /\ w'.cell? ⟨w.heap.size + 1, 4, none⟩ = some (.slice A l.length cap) /\ w'.cell? ⟨w.heap.size + 1, 5, none⟩ = some (.slice x.rA x.rs.length x.rc) /\ w'.cell? ⟨w.heap.size + 1, 6, none⟩ = some (.slice x.mA x.ms.length x.mc) /\ w'.cell? ⟨w.heap.size + 1, 7, none⟩ = some (.slice x.gA x.gs.length x.gc) /\ w'.cell? ⟨w.heap.size + 1, 8, none⟩ = some (.int .i64 x.time) /\ w'.cell? ⟨w.heap.size + 1, 9, none⟩ = some (.slice x.dA x.ds.length x.dc) /\ w'.cell? ⟨w.heap.size + 1, 10, none⟩ = some (.slice x.lA x.ls.length x.lc))) (by kernel_rfl) ?_ (fun hH => ?_)
  . exact ⟨v0, v1, v2, v3, v4, v5, v6, v7, v8, v9, v10, u0, u1, u2, u3, u4, u5, u6, u7, u8, u9, u10⟩
  refine ztk [0,1] ?_; repeat (refine ztn (h := ?_); try simp only [zX,zY])
  refine zte ?_
  refine zR1 2 (fun K hK => ?_)
  simp only [zG]
  go_simp
  (go_at_call 7; refine (toHard_any te vo base bt A cap l Hl.out x Hf.out _ (HX.out.1.below (L8.out.bel.drew)) (HX.out.2.below (L8.out.bel.drew))).mono ?_; rintro e w9 ⟨b2, y2, rfl, hp0, hb0, hb0', hi0, ht0, ho0, g3⟩; have HE2 : Hid (At w9 (some ⟨b2, 0, none⟩) l) := (.inr ⟨b2, 0, rfl, hb0', hi0⟩ : At w9 (some ⟨b2, 0, none⟩) l); have HO2 := hidP ho0; have Hp2 := hidP hp0; have gd := via0 g3 (Below.drew (Below.refl _ _)); have L9 := hidP (L8.out.below gd); have Y9 := hidP (Y8.out.below gd Y8.out.lt); have O9 := hidP (O8.out.below gd); have E9 := hidP (E8.out.below gd); have S9 := hidP (S8.out.below gd); have G9 := hidP (G8.out.below gd); clear gd; clear g3 ho0 hp0 hi0 ht0)
  refine hK.out _ _ ?_ (fun hH => ?_)
  . (exact ⟨Y9.out.row11.1, Y9.out.row11.2.1, Y9.out.row11.2.2.1, Y9.out.row11.2.2.2.1, Y9.out.row11.2.2.2.2.1, Y9.out.row11.2.2.2.2.2.1, Y9.out.row11.2.2.2.2.2.2.1, Y9.out.row11.2.2.2.2.2.2.2.1, Y9.out.row11.2.2.2.2.2.2.2.2.1, Y9.out.row11.2.2.2.2.2.2.2.2.2.1, Y9.out.row11.2.2.2.2.2.2.2.2.2.2, L9.out.box2.row11⟩)
  clear hK K
  try simp only [zX,zY]
  refine zR1 3 (fun K hK => ?_)
  simp only [zG]
  go_simp
  (go_at_call 10; refine (eqHard_same te vo base bt _ _ _ _ l (by have := Hl.out; omega) y y2 (fit_p Hpy.out Hf.out) (Hp2.out.trans Hpy.out.symm) _ E9.out.at HE2.out O9.out.at HO2.out.at).mono ?_; rintro e w10 ⟨rfl, g10⟩; have L10 := hidP (L9.out.below g10); have Y10 := hidP (Y9.out.below g10 Y9.out.lt); have O10 := hidP (O9.out.below g10); have E10 := hidP (E9.out.below g10); have S10 := hidP (S9.out.below g10); have G10 := hidP (G9.out.below g10); clear g10 L9 Y9 O9 E9 S9 G9 HO2 HE2)
  refine hK.out _ _ ?_ (fun hH => ?_)
  . (exact ⟨Y10.out.row11.1, Y10.out.row11.2.1, Y10.out.row11.2.2.1, Y10.out.row11.2.2.2.1, Y10.out.row11.2.2.2.2.1, Y10.out.row11.2.2.2.2.2.1, Y10.out.row11.2.2.2.2.2.2.1, Y10.out.row11.2.2.2.2.2.2.2.1, Y10.out.row11.2.2.2.2.2.2.2.2.1, Y10.out.row11.2.2.2.2.2.2.2.2.2.1, Y10.out.row11.2.2.2.2.2.2.2.2.2.2, L10.out.box2.row11⟩)
  clear hK K
  try simp only [zX,zY]
  refine zt1 4 ?_; refine ztn (h := ?_); try simp only [zX,zY]
  refine zte ?_
  refine zdn ?_
  clear u0 u1 u2 u3 u4 u5 u6 u7 u8 u9 u10 v0 v1 v2 v3 v4 v5 v6 v7 v8 v9 v10 q1 q2 hH L8 Y8 O8 E8 S8 G8
  obtain ⟨v0, v1, v2, v3, v4, v5, v6, v7, v8, v9, v10⟩ := Y10.out.row11
  have q2 := Y10.out.lt
  have hYf := hidP (fit_p Hpy.out Hf.out)
  go_wp2_with fail
  refine (markHard_any te vo base bt (some ⟨b4, 0, none⟩) l.length l Hl.out y hYf.out [b4] _ (fun b hb h => by rw [List.mem_singleton] at hb; exact h.2.2 hb) 1 (by omega) (by omega) _ (fun b hb => by have := Y10.out.lt; have := hb.2.1; omega) E10.out O10.out).mono ?_
  rintro e w11 ⟨rfl, o11, -, -⟩
  have hk0 : ¬ (1 : Int) + (l.length : Int) * 9 + (kct y : Int) < 0 := by omega
  have A0 : Hid (∀ b ∈ F0, ¬ (b ∈ [b4] ∨ (w3'.heap.size <= b /\ b < w4.heap.size /\ b ≠ b4))) := fun b hb h => by
    have h1 := lt0.out b hb
    have h2 := hb3.out
    rcases h with h | h
    . rw [List.mem_singleton] at h; omega
    . omega
  have AI : Hid (∀ b ∈ FI, ¬ (b ∈ [b4] ∨ (w3'.heap.size <= b /\ b < w4.heap.size /\ b ≠ b4))) := fun b hb h => by
    have h1 := HF7.out b hb
    have h2 := hlo6.out
    have h3 := hb5.out
    rcases h with h | h
    . rw [List.mem_singleton] at h; omega
    . omega
  have AB : Hid (∀ b, (b ∈ [b4] ∨ (w3'.heap.size <= b /\ b < w4.heap.size /\ b ≠ b4)) -> w.heap.size + 1 < b) := fun b h => by
    have h1 := hw3.out
    have h2 := hb3.out
    rcases h with h | h
    . rw [List.mem_singleton] at h; omega
    . omega
  have L11 : Hid (Lq w w11 ro wi le ke te vo base bt A cap l x) := ⟨L10.out.box1.offp o11 (fun h => by have := AB.out _ h; omega), L10.out.box2.offp o11 (fun h => by have := AB.out _ h; omega), L10.out.bel.trans (o11.toBelow (fun b hb => by have := AB.out b hb; omega) L10.out.bel.size)⟩
  have S11 := hidP (sl_offp S10.out o11 A0.out)
  have G11 := hidP (sl_offp G10.out o11 AI.out)
  clear o11 L10 Y10 O10 E10 S10 G10 v0 v1 v2 v3 v4 v5 v6 v7 v8 v9 v10 q2
  generalize (1 : Int) + (l.length : Int) * 9 + (kct y : Int) = kz at hk0 ⊢
  go_wp2_with fail
  refine (eqB_same aI a0 cI c0 L (by omega) _ G11.out.at S11.out.at).mono ?_
  rintro e w12 ⟨rfl, g12⟩
  have L12 := hidP (L11.out.below g12)
  have S12 := hidP (S11.out.below g12)
  have G12 := hidP (G11.out.below g12)
  clear g12 L11 S11 G11
  go_wp2_with fail
  refine (markSl_any aI cI L FI (by omega) _ G12.out).mono ?_
  rintro e w13 ⟨rfl, f13, G13⟩
  have AF : Hid (∀ b ∈ F0, b ∉ FI) := fun b hb h => by have := lt0.out b hb; have := HF7.out b h; have := hlo6.out; have := h34.out; omega
  have AL : Hid (∀ b ∈ FI, w.heap.size + 1 < b) := fun b hb => by have := HF7.out b hb; have := hlo6.out; have := h34.out; have := hw3.out; omega
  have L13 : Hid (Lq w w13 ro wi le ke te vo base bt A cap l x) := ⟨L12.out.box1.off f13 (fun h => by have := AL.out _ h; omega), L12.out.box2.off f13 (fun h => by have := AL.out _ h; omega), L12.out.bel.trans (f13.toBelow (fun b hb => by have := AL.out b hb; omega) L12.out.bel.size)⟩
  have S13 := hidP (S12.out.off f13 AF.out)
  have HG13 := hidP G13
  have hm0 : ¬ (1 : Int) + (L.length : Int) < 0 := by omega
  have HH : Hid (∀ W : World, Sl W aI (marksB L.length 1) FI -> Calls Tryz.prog 13 #[.slice aI L.length cI, .int .i64 1] W fun e w' => e = .returned (.int .i64 (1 + (L.length : Int))) /\ Below W.heap.size W w') := fun W h => heldSl_any aI cI L.length FI (by omega) W h
  clear f13 G13 L12 S12 G12
  generalize (1 : Int) + (L.length : Int) = mz at hm0 HH ⊢
  go_wp2_with fail
  refine (HH.out _ HG13.out).mono ?_
  rintro e w14 ⟨rfl, g14⟩
  have L14 := hidP (L13.out.below g14)
  have S14 := hidP (S13.out.below g14)
  have G14 := hidP (HG13.out.below g14)
  clear g14 L13 S13 HG13
  obtain ⟨u0, u1, u2, u3⟩ := L14.out.box1.row4
  obtain ⟨v0, v1, v2, v3, v4, v5, v6, v7, v8, v9, v10⟩ := L14.out.box2.row11
  have q1 := L14.out.box1.lt
  have q2 := L14.out.box2.lt
  go_wp2_with fail
  refine wp_region_noPanic ?_
  refine wp_region_held_drew (S := (fun w' => w'.cell? ⟨w.heap.size, 0, none⟩ = some (.int .i64 ro) /\ w'.cell? ⟨w.heap.size, 1, none⟩ = some (.int .i64 wi) /\ w'.cell? ⟨w.heap.size, 2, none⟩ = some (.int .i64 le) /\ w'.cell? ⟨w.heap.size, 3, none⟩ = some (.int .i64 ke) /\ w'.cell? ⟨w.heap.size + 1, 0, none⟩ = some (.int .i64 te) /\ w'.cell? ⟨w.heap.size + 1, 1, none⟩ = some (.int .i64 vo) /\ w'.cell? ⟨w.heap.size + 1, 2, none⟩ = some (.int .i64 base) /\ w'.cell? ⟨w.heap.size + 1, 3, none⟩ = some (.int .i64 bt) /\ w'.cell? ⟨w.heap.size + 1, 4, none⟩ = some (.slice A l.length cap) /\ w'.cell? ⟨w.heap.size + 1, 5, none⟩ = some (.slice x.rA x.rs.length x.rc) /\ w'.cell? ⟨w.heap.size + 1, 6, none⟩ = some (.slice x.mA x.ms.length x.mc) /\ w'.cell? ⟨w.heap.size + 1, 7, none⟩ = some (.slice x.gA x.gs.length x.gc) /\ w'.cell? ⟨w.heap.size + 1, 8, none⟩ = some (.int .i64 x.time) /\ w'.cell? ⟨w.heap.size + 1, 9, none⟩ = some (.slice x.dA x.ds.length x.dc) /\ w'.cell? ⟨w.heap.size + 1, 10, none⟩ = some (.slice x.lA x.ls.length x.lc))) (by kernel_rfl) ?_ (fun hH => ?_)
  . exact ⟨u0, u1, u2, u3, v0, v1, v2, v3, v4, v5, v6, v7, v8, v9, v10⟩
  refine ztk [0,2] ?_; repeat (refine ztn (h := ?_); try simp only [zX,zY])
  refine zte ?_
  refine zR1 1 (fun K hK => ?_)
  simp only [zG]
  go_simp
  (go_at_call 6; refine (toSetup_any ro wi le ke _).mono ?_; rintro e w15 ⟨rfl, g15⟩; have gd := via0 g15 (Below.drew (Below.refl _ _)); have L15 := hidP (L14.out.below gd); have S15 := hidP (S14.out.below gd); have G15 := hidP (G14.out.below gd); clear g15 gd)
  refine hK.out _ _ ?_ (fun hH => ?_)
  . (exact ⟨L15.out.box1.row4.1, L15.out.box1.row4.2.1, L15.out.box1.row4.2.2.1, L15.out.box1.row4.2.2.2, L15.out.box2.row11⟩)
  clear hK K
  try simp only [zX,zY]
  refine zR1 3 (fun K hK => ?_)
  simp only [zG]
  go_simp
  (go_at_call 7; refine (toHard_any te vo base bt A cap l Hl.out x Hf.out _ (HX.out.1.below L15.out.bel) (HX.out.2.below L15.out.bel)).mono ?_; rintro e w16 ⟨b3, y3, rfl, hp0, hb0, hb0', hi0, ht0, ho0, g3⟩; have HE3 : Hid (At w16 (some ⟨b3, 0, none⟩) l) := (.inr ⟨b3, 0, rfl, hb0', hi0⟩ : At w16 (some ⟨b3, 0, none⟩) l); have HO3 := hidP ho0; have Hp3 := hidP hp0; have L16 := hidP (L15.out.below g3); have S16 := hidP (S15.out.below g3); have G16 := hidP (G15.out.below g3); clear L15 S15 G15; clear g3 ho0 hp0 hi0 ht0)
  refine hK.out _ _ ?_ (fun hH => ?_)
  . (exact ⟨L16.out.box1.row4.1, L16.out.box1.row4.2.1, L16.out.box1.row4.2.2.1, L16.out.box1.row4.2.2.2, L16.out.box2.row11⟩)
  clear hK K
  try simp only [zX,zY]
  refine zR1 4 (fun K hK => ?_)
  simp only [zG]
  go_simp
  (go_at_call 8; refine (HIMP.out y3 b3 _ Hp3.out HE3.out HO3.out.at).mono ?_; rintro e w17 ⟨aJ, cJ, rfl, j17⟩; have L17 := hidP (L16.out.below j17.bl); have S17 := hidP (S16.out.below j17.bl); have G17 := hidP (G16.out.below j17.bl); obtain ⟨FJ, s17, _⟩ := sl_ownB j17.own; have J17 := hidP s17; clear j17 s17 HO3 HE3 L16 S16 G16)
  refine hK.out _ _ ?_ (fun hH => ?_)
  . (exact ⟨L17.out.box1.row4.1, L17.out.box1.row4.2.1, L17.out.box1.row4.2.2.1, L17.out.box1.row4.2.2.2, L17.out.box2.row11⟩)
  clear hK K
  try simp only [zX,zY]
  refine zt1 5 ?_; refine ztn (h := ?_); try simp only [zX,zY]
  refine zte ?_
  refine zdn ?_
  clear u0 u1 u2 u3 v0 v1 v2 v3 v4 v5 v6 v7 v8 v9 v10 q1 q2 hH L14 S14 G14
  go_wp2_with fail
  refine (eqB_same aJ a0 cJ c0 L (by omega) _ J17.out.at S17.out.at).mono ?_
  rintro e w18 ⟨rfl, g18⟩
  have L18 := hidP (L17.out.below g18)
  have G18 := hidP (G17.out.below g18)
  clear g18 L17 S17 G17 J17
  go_wp2_with fail
  refine (HH.out _ G18.out).mono ?_
  rintro e w19 ⟨rfl, g19⟩
  have L19 := hidP (L18.out.below g19)
  clear g19
  go_wp2
  go_ret
  exact ⟨rfl, L19.out.bel⟩
set_option maxRecDepth 100000 in
theorem contract (H : Type) (enc : TypeId × Value -> H) (W : World) (base : Nat) (args : Array Value) (ds gs : List (DataW H)) (before : List MemPlace)
    (hval : ∀ (j : Nat) t v, Tryz.f3.params[j]? = some t -> args[j]? = some v -> Value.okWide Tryz.prog W .any base t v)
    (hW : DataW.Whole enc Tryz.prog Tryz.f3.params.toList Rows.fnExactHardBytesSpec.vars false W args.toList ds gs before) :
    Calls Tryz.prog 3 args W fun e W' => ∃ v, e = .returned v /\ Rows.fnExactHardBytesSpec.post enc Tryz.prog Tryz.f3 false true false false W args v W' := by
  have hW' := hW
  obtain ⟨p, q, hA0, hV, rfl, hfz, hnd⟩ := hW
  have hA : DataW.TrodAll enc Tryz.prog W 0 (fun _ => true) true Tryz.f3.params.toList args.toList ds p := hA0
  rw [Tryz.params3] at hA hval
  obtain ⟨v0, vs0, d0, ds0, p0, q0, e0, rfl, rfl, h0, r0⟩ := trodAll_cons hA
  obtain ⟨v1, vs1, d1, ds1, p1, q1, rfl, rfl, rfl, h1, r1⟩ := trodAll_cons r0
  obtain ⟨rfl, rfl, rfl⟩ := trodAll_nil r1
  have e0' : args = #[v0, v1] := by cases args; simp_all
  subst e0'
  obtain ⟨rfl, rfl⟩ := trodVars_none hV
  obtain ⟨ro, wi, le, ke, rfl, _, _, _, _⟩ := openSetup (hval 0 23 v0 rfl rfl) h0
  obtain ⟨te, vo, base1, bt, A, cap, l, x, rfl, _, _, _, _, hl, hlr, hA, hr, hat⟩ := openHard (hval 1 35 v1 rfl rfl) h1
  refine (law_any ro wi le ke te vo base1 bt A cap l hl hlr x hr W hA hat).mono fun e W' ⟨he, hb⟩ => ?_
  subst he
  exact ⟨_, rfl, post_true laidOut (by kernel_rfl) (by kernel_rfl) Tryz.underlying4 rfl rfl hW' hb⟩
set_option maxRecDepth 100000 in
theorem lifted (os : Os) (started : os.Started) (H : Type) (enc : TypeId × Value -> H) :
    ReturnsInHanded {} Tryz.checked os 3 .any (Rows.fnExactHardBytesSpec.pre6 enc Tryz.prog Tryz.f3 Rows.fnExactHardBytesRow.domain false) (Rows.fnExactHardBytesSpec.post enc Tryz.prog Tryz.f3 false true false false) := by
  refine returnsInHanded_of_change (C := Tryz.checked) own started (by kernel_rfl) Tryz.func3
    (ChangeSpec.witness6 (enc := enc) (C := Tryz.checked) false ⟨#[], #[.agg #[.int .i64 0, .int .i64 0, .int .i64 0, .int .i64 0], .agg #[.int .i64 0, .int .i64 0, .int .i64 0, .int .i64 0, .slice none 0 0, .slice none 0 0, .slice none 0 0, .slice none 0 0, .int .i64 0, .slice none 0 0, .slice none 0 0]], []⟩ 8 (by kernel_rfl) (by kernel_rfl) (by kernel_rfl) (by kernel_rfl)) ?_
  intro W base args ds gs before hval0 hW _ _
  exact contract H enc W base args ds gs before hval0 hW
set_option maxRecDepth 100000 in
theorem proved : Rows.FnExactHardBytesSaid :=
  OpenClaim.holds_of_wide 3 Tryz.f3 rfl rfl rfl rfl rfl rfl rfl ⟨rfl, rfl, rfl, rfl, rfl⟩ rfl rfl rfl rfl rfl (by kernel_rfl) Tryz.func3 (by kernel_rfl)
    (of_decide_eq_true (by kernel_rfl)) (by unfold Func.isWrapper; first | (rw [if_pos (by decide +kernel)]; kernel_rfl) | (rw [if_neg (by decide +kernel)]; exact ⟨rfl, rfl⟩))
    (fun os started H enc _ => lifted os started H enc)
end Go.Proofs.YtaefjifcnoiplaaGreat.HardBytes
namespace Go.Proofs.YtaefjifcnoiplaaGreat
theorem hardBytes_holds : Rows.FnExactHardBytesSaid := HardBytes.proved
end Go.Proofs.YtaefjifcnoiplaaGreat
