/-
  FnExactPeerOk: at every setup, node and size the program's PeerOk answers as the specification's, and the node that it was handed stays as it was. No condition.
-/
import Derived.Test.YtanihpmgoeadkaaGreatPeG
import Derived.Test.YtanihpmgoeadkaaGreatAnsList
import Derived.Test.YtanihpmgoeadkaaGreatSetups
import Derived.Deep.Cut
import Derived.ChangeMaps5
namespace Go.Proofs.YtanihpmgoeadkaaGreat.PeerOk
open Go.ChangeShapes Go.WideShapes Go.ChangeAt Go.RowKit Go.Joins Go.Deep Base Gen
set_option linter.unusedVariables false
set_option linter.unusedSimpArgs false
theorem own : ownKnob Tryz.prog.godebug = none := by kernel_rfl
theorem laidOut : laidOutB Tryz.prog = true := by kernel_rfl
structure Lq (w W : World) (sc pl : Array Value) : Prop where
  b1 : Blk W w.heap.size 23 sc
  b2 : Blk W (w.heap.size + 1) 42 pl
  bl : Below w.heap.size w W
theorem Lq.below {w W W' : World} {sc pl : Array Value} (h : Lq w W sc pl) (g : Below W.heap.size W W') : Lq w W' sc pl := ⟨h.b1.below g h.b1.lt, h.b2.below g h.b2.lt, via0 g h.bl⟩
set_option maxRecDepth 100000 in
set_option maxHeartbeats 2000000 in
theorem law_any (ro wi le ke size : Int) (hsz : I64 size) (p : PC) (hr : PRight p) (w : World) (hp : PAt w p) :
    Calls Tryz.prog 3 #[.agg #[.int .i64 ro, .int .i64 wi, .int .i64 le, .int .i64 ke], .agg #[.int .i64 p.id, .int .i64 p.te, .int .i64 p.vo, .int .i64 p.base, .int .i64 p.bt, .slice p.A p.l.length p.cap, .slice p.x.rA p.x.rs.length p.x.rc, .slice p.x.mA p.x.ms.length p.x.mc, .slice p.x.gA p.x.gs.length p.x.gc, .int .i64 p.x.time, .slice p.x.dA p.x.ds.length p.x.dc, .slice p.x.lA p.x.ls.length p.x.lc, .int .i64 p.role, .slice p.vA p.vs.length p.vc, .slice p.nA p.ns.length p.nc, .slice p.pA p.ps.length p.pc, .int .i64 p.com, .slice p.y.rA p.y.rs.length p.y.rc, .slice p.y.mA p.y.ms.length p.y.mc, .slice p.y.gA p.y.gs.length p.y.gc, .int .i64 p.y.time, .slice p.y.dA p.y.ds.length p.y.dc, .slice p.y.lA p.y.ls.length p.y.lc, .slice p.dA p.db.length p.dc, .int .i64 p.su, .slice p.hA p.hs.length p.hc], .int .i64 size] w fun e w' => e = .returned (.bool true) /\ Below w.heap.size w w' := by
  obtain ⟨sc, hsc⟩ : ∃ z : Array Value, z = #[.int .i64 ro, .int .i64 wi, .int .i64 le, .int .i64 ke] := ⟨_, rfl⟩
  obtain ⟨pl, hpl⟩ : ∃ z : Array Value, z = #[.int .i64 p.id, .int .i64 p.te, .int .i64 p.vo, .int .i64 p.base, .int .i64 p.bt, .slice p.A p.l.length p.cap, .slice p.x.rA p.x.rs.length p.x.rc, .slice p.x.mA p.x.ms.length p.x.mc, .slice p.x.gA p.x.gs.length p.x.gc, .int .i64 p.x.time, .slice p.x.dA p.x.ds.length p.x.dc, .slice p.x.lA p.x.ls.length p.x.lc, .int .i64 p.role, .slice p.vA p.vs.length p.vc, .slice p.nA p.ns.length p.nc, .slice p.pA p.ps.length p.pc, .int .i64 p.com, .slice p.y.rA p.y.rs.length p.y.rc, .slice p.y.mA p.y.ms.length p.y.mc, .slice p.y.gA p.y.gs.length p.y.gc, .int .i64 p.y.time, .slice p.y.dA p.y.ds.length p.y.dc, .slice p.y.lA p.y.ls.length p.y.lc, .slice p.dA p.db.length p.dc, .int .i64 p.su, .slice p.hA p.hs.length p.hc] := ⟨_, rfl⟩
  have Z : Hid (∀ W : World, Below w.heap.size w W -> Calls Tryz.prog 5 #[.agg pl, .int .i64 1048576] W fun e w' => (∃ r : Int, e = .returned (.int .i64 r) /\ (r < 0 ∨ (0 <= r /\ PFit p))) /\ Below W.heap.size W w') := fun W g => by rw [hpl]; exact szPeer_any p hr W (hp.below g)
  have CT0 : Hid (PFit p -> ∀ W : World, Below w.heap.size w W -> Calls Tryz.prog 8 #[.agg pl] W fun e w' => ∃ q, e = .returned (.agg q) /\ Below W.heap.size W w' /\ GoodP p w' q) := fun hf W g => by rw [hpl]; exact good_to hf (hp.below g)
  have CS : Hid (∀ W : World, Calls Tryz.prog 7 #[.agg sc] W fun e w' => e = .returned (.agg sc) /\ Below W.heap.size W w') := fun W => by rw [hsc]; exact toSetup_any ro wi le ke W
  obtain ⟨B, hB⟩ : ∃ b, peerB (fun z => rpcB size z.kind z.frm z.too z.term z.index z.iterm z.commit z.l z.snap) ro wi le ke p.id p.te p.vo p.base p.bt p.l p.x p.role p.vs.length p.ns.length p.ps.length p.ns p.ps p.com p.y p.su p.db.length p.hs size = b := ⟨_, rfl⟩
  have CP0 : Hid (PFit p -> ∀ (W : World) (q : Array Value), GoodP p W q -> Calls Tryz.prog 6 #[.agg sc, .agg q, .int .i64 size] W fun e w' => e = .returned (.bool B) /\ Below W.heap.size W w') := fun hf W q h => by rw [hsc, ← hB]; exact goodSpec hsz hr hf h
  have CI0 : Hid (PFit p -> ∀ (W : World) (q : Array Value), GoodP p W q -> Calls Tryz.prog 9 #[.agg sc, .agg q, .int .i64 size] W fun e w' => e = .returned (.bool B) /\ Below W.heap.size W w') := fun hf W q h => by rw [hsc, ← hB]; exact goodImpl hsz hr hf h
  have CE0 : Hid (PFit p -> ∀ (W : World) (q q' : Array Value), GoodP p W q -> GoodP p W q' -> Calls Tryz.prog 10 #[.agg q, .agg q'] W fun e w' => e = .returned (.bool true) /\ Below W.heap.size W w') := fun hf W q q' h h' => good_eq hf h h'
  have I1 : Hid ((Tryz.prog.info? 23).map (·.size) = some sc.size) := by show _ = _; rw [hsc]; kernel_rfl
  have I2 : Hid ((Tryz.prog.info? 42).map (·.size) = some pl.size) := by show _ = _; rw [hpl]; kernel_rfl
  have L : Hid (Lq w ((w.alloc (.cells sc 23)).alloc (.cells pl 42)) sc pl) := ⟨(Blk.new w _ _).alloc _, by have := Blk.new (w.alloc (.cells sc 23)) 42 pl; rwa [World.size_alloc] at this, alloc0 (alloc0 (Below.refl _ _) _) _⟩
  clear hB hp hr
  go_enter Tryz.func3, Tryz.ntmps3
  go_upto_region 2 with fail
  simp only [← hsc, ← hpl]
  clear hsc hpl
  refine wp_region_lit ?_
  refine wpList_loadAll rfl 42 _ rfl (b := w.heap.size + 1) rfl L.out.b2 Tryz.underlying42 I2.out ?_
  go_wp2_with fail
  refine (Z.out _ L.out.bl).mono ?_
  rintro e w1 ⟨⟨r, rfl, hz⟩, g⟩
  replace L := hidP (L.out.below g)
  clear g
  rcases hz with hz | ⟨hz, hf⟩
  . go_wp2
    go_ret
    exact ⟨rfl, L.out.bl⟩
  have nz : ¬ r < 0 := by omega
  have CT := hidP (CT0.out hf)
  have CP := hidP (CP0.out hf)
  have CI := hidP (CI0.out hf)
  have CE := hidP (CE0.out hf)
  clear CT0 CP0 CI0 CE0 Z hf
  go_wp2_with fail
  refine wp_region_noPanic ?_
  refine wp_region_held_drew (S := (fun (W : World) => Blk W w.heap.size 23 sc /\ Blk W (w.heap.size + 1) 42 pl)) (by kernel_rfl) ?_ (fun hH => ?_)
  . exact ⟨L.out.b1, L.out.b2⟩
  refine zt1 0 ?_; refine ztn (hy := fun w' hSw => exec_loadAll rfl rfl hSw.1 Tryz.underlying23 I1.out) (h := ?_); try simp only [zX,zY]
  refine zte ?_
  refine zt1 2 ?_; refine ztn (hy := fun w' hSw => exec_loadAll rfl rfl hSw.2 Tryz.underlying42 I2.out) (h := ?_); try simp only [zX,zY]
  refine zte ?_
  refine zt1 4 ?_; refine ztn (h := ?_); try simp only [zX,zY]
  refine zte ?_
  refine zR1 1 (fun K hK => ?_)
  simp only [zG]
  go_simp
  refine (CS.out _).mono ?_; rintro e w2 ⟨rfl, g⟩; replace L := hidP (L.out.below (via0 g (Below.drew (Below.refl _ _)))); clear g
  refine hK.out _ _ ?_ (fun hH => ?_)
  . exact ⟨L.out.b1, L.out.b2⟩
  clear hK K
  try simp only [zX,zY]
  refine zR1 3 (fun K hK => ?_)
  simp only [zG]
  go_simp
  refine (CT.out _ L.out.bl).mono ?_; rintro e w3 ⟨q0, rfl, g, hg⟩; replace L := hidP (L.out.below g); have G0 := hidP hg; clear g hg
  refine hK.out _ _ ?_ (fun hH => ?_)
  . exact ⟨L.out.b1, L.out.b2⟩
  clear hK K
  try simp only [zX,zY]
  refine zR1 5 (fun K hK => ?_)
  simp only [zG]
  go_simp
  refine (CP.out _ _ G0.out).mono ?_; rintro e w3' ⟨rfl, g⟩; replace L := hidP (L.out.below g); clear g G0
  refine hK.out _ _ ?_ (fun hH => ?_)
  . exact ⟨L.out.b1, L.out.b2⟩
  clear hK K
  try simp only [zX,zY]
  refine zt1 6 ?_; refine ztn (h := ?_); try simp only [zX,zY]
  refine zte ?_
  refine zdn ?_
  clear hH
  go_upto_region 6 with fail
  refine wp_region_lit ?_
  refine wpList_loadAll rfl 42 _ rfl (b := w.heap.size + 1) rfl L.out.b2 Tryz.underlying42 I2.out ?_
  go_wp2_with (refine (CT.out _ L.out.bl).mono ?_)
  rintro e w4 ⟨q, rfl, g, hg⟩
  have G4 := hidP hg
  have I3 : Hid ((Tryz.prog.info? 61).map (·.size) = some q.size) := by show _ = _; rw [hg.size]; kernel_rfl
  replace L := hidP (L.out.below g)
  clear g hg
  dsimp only
  apply_assumption
  iterate 3 go_step
  refine wpList_storeAll rfl 61 _ _ rfl (g := w4.heap.size) (cells := q) rfl rfl (Blk.new w4 61 #[.int .i64 0, .int .i64 0, .int .i64 0, .int .i64 0, .int .i64 0, .slice none 0 0, .slice none 0 0, .slice none 0 0, .slice none 0 0, .int .i64 0, .slice none 0 0, .slice none 0 0, .int .i64 0, .slice none 0 0, .slice none 0 0, .slice none 0 0, .int .i64 0, .slice none 0 0, .slice none 0 0, .slice none 0 0, .int .i64 0, .slice none 0 0, .slice none 0 0, .slice none 0 0, .int .i64 0, .slice none 0 0]) I3.out (by rw [G4.out.size]; rfl) G4.out.one ?_
  refine wpList_nil ?_
  rw [World.setRow_alloc_new]
  have X : Hid (Blk (w4.alloc (.cells q 61)) w4.heap.size 61 q) := Blk.new w4 _ _
  replace L := hidP (L.out.below (alloc0 (Below.refl _ _) (.cells q 61)))
  replace G4 := hidP (G4.out.below (alloc0 (Below.refl _ _) (.cells q 61)))
  go_wp2_with fail
  refine wp_region_noPanic ?_
  refine wp_region_held_drew (S := (fun (W : World) => Blk W w.heap.size 23 sc /\ Blk W (w.heap.size + 1) 42 pl /\ Blk W w4.heap.size 61 q)) (by kernel_rfl) ?_ (fun hH => ?_)
  . exact ⟨L.out.b1, L.out.b2, X.out⟩
  refine zt1 0 ?_; refine ztn (hy := fun w' hSw => exec_loadAll rfl rfl hSw.1 Tryz.underlying23 I1.out) (h := ?_); try simp only [zX,zY]
  refine zte ?_
  refine zt1 2 ?_; refine ztn (hy := fun w' hSw => exec_loadAll rfl rfl hSw.2.2 Tryz.underlying61 I3.out) (h := ?_); try simp only [zX,zY]
  refine zte ?_
  refine zt1 3 ?_; refine ztn (h := ?_); try simp only [zX,zY]
  refine zte ?_
  refine zR1 1 (fun K hK => ?_)
  simp only [zG]
  go_simp
  refine (CS.out _).mono ?_; rintro e w6 ⟨rfl, g⟩; have gd := via0 g (Below.drew (Below.refl _ _)); replace L := hidP (L.out.below gd); replace X := hidP (X.out.below gd X.out.lt); replace G4 := hidP (G4.out.below gd); clear g gd
  refine hK.out _ _ ?_ (fun hH => ?_)
  . exact ⟨L.out.b1, L.out.b2, X.out⟩
  clear hK K
  try simp only [zX,zY]
  refine zR1 4 (fun K hK => ?_)
  simp only [zG]
  go_simp
  refine (CI.out _ _ G4.out).mono ?_; rintro e w7 ⟨rfl, g⟩; replace L := hidP (L.out.below g); replace X := hidP (X.out.below g X.out.lt); replace G4 := hidP (G4.out.below g); clear g
  refine hK.out _ _ ?_ (fun hH => ?_)
  . exact ⟨L.out.b1, L.out.b2, X.out⟩
  clear hK K
  try simp only [zX,zY]
  refine zt1 5 ?_; refine ztn (h := ?_); try simp only [zX,zY]
  refine zte ?_
  refine zdn ?_
  clear hH
  cases B
  . go_wp2_with fail
    refine wp_region_noPanic ?_
    refine wp_region_held_drew (S := (fun (W : World) => Blk W w.heap.size 23 sc /\ Blk W (w.heap.size + 1) 42 pl /\ Blk W w4.heap.size 61 q)) (by kernel_rfl) ?_ (fun hH => ?_)
    . exact ⟨L.out.b1, L.out.b2, X.out⟩
    refine zt1 0 ?_; refine ztn (hy := fun w' hSw => exec_loadAll rfl rfl hSw.2.2 Tryz.underlying61 I3.out) (h := ?_); try simp only [zX,zY]
    refine zte ?_
    refine zt1 1 ?_; refine ztn (hy := fun w' hSw => exec_loadAll rfl rfl hSw.2.1 Tryz.underlying42 I2.out) (h := ?_); try simp only [zX,zY]
    refine zte ?_
    refine zR1 2 (fun K hK => ?_)
    simp only [zG]
    go_simp
    refine (CT.out _ (L.out.bl.drew)).mono ?_; rintro e w8 ⟨q8, rfl, g, hg⟩; have gd := via0 g (Below.drew (Below.refl _ _)); replace L := hidP (L.out.below gd); replace X := hidP (X.out.below gd X.out.lt); replace G4 := hidP (G4.out.below gd); have G8 := hidP hg; clear g gd hg
    refine hK.out _ _ ?_ (fun hH => ?_)
    . exact ⟨L.out.b1, L.out.b2, X.out⟩
    clear hK K
    try simp only [zX,zY]
    refine zR1 3 (fun K hK => ?_)
    simp only [zG]
    go_simp
    refine (CE.out _ _ _ G4.out G8.out).mono ?_; rintro e w9 ⟨rfl, g⟩; replace L := hidP (L.out.below g); replace X := hidP (X.out.below g X.out.lt); clear g
    refine hK.out _ _ ?_ (fun hH => ?_)
    . exact ⟨L.out.b1, L.out.b2, X.out⟩
    clear hK K
    try simp only [zX,zY]
    refine zt1 4 ?_; refine ztn (h := ?_); try simp only [zX,zY]
    refine zte ?_
    refine zdn ?_
    go_wp2
    go_ret
    exact ⟨rfl, L.out.bl⟩
  . go_wp2_with fail
    refine wp_region_noPanic ?_
    refine wp_region_held_drew (S := (fun (W : World) => Blk W w.heap.size 23 sc /\ Blk W (w.heap.size + 1) 42 pl /\ Blk W w4.heap.size 61 q)) (by kernel_rfl) ?_ (fun hH => ?_)
    . exact ⟨L.out.b1, L.out.b2, X.out⟩
    refine zt1 0 ?_; refine ztn (hy := fun w' hSw => exec_loadAll rfl rfl hSw.2.2 Tryz.underlying61 I3.out) (h := ?_); try simp only [zX,zY]
    refine zte ?_
    refine zt1 1 ?_; refine ztn (hy := fun w' hSw => exec_loadAll rfl rfl hSw.2.1 Tryz.underlying42 I2.out) (h := ?_); try simp only [zX,zY]
    refine zte ?_
    refine zR1 2 (fun K hK => ?_)
    simp only [zG]
    go_simp
    refine (CT.out _ (L.out.bl.drew)).mono ?_; rintro e w8 ⟨q8, rfl, g, hg⟩; have gd := via0 g (Below.drew (Below.refl _ _)); replace L := hidP (L.out.below gd); replace X := hidP (X.out.below gd X.out.lt); replace G4 := hidP (G4.out.below gd); have G8 := hidP hg; clear g gd hg
    refine hK.out _ _ ?_ (fun hH => ?_)
    . exact ⟨L.out.b1, L.out.b2, X.out⟩
    clear hK K
    try simp only [zX,zY]
    refine zR1 3 (fun K hK => ?_)
    simp only [zG]
    go_simp
    refine (CE.out _ _ _ G4.out G8.out).mono ?_; rintro e w9 ⟨rfl, g⟩; replace L := hidP (L.out.below g); replace X := hidP (X.out.below g X.out.lt); clear g
    refine hK.out _ _ ?_ (fun hH => ?_)
    . exact ⟨L.out.b1, L.out.b2, X.out⟩
    clear hK K
    try simp only [zX,zY]
    refine zt1 4 ?_; refine ztn (h := ?_); try simp only [zX,zY]
    refine zte ?_
    refine zdn ?_
    go_wp2
    go_ret
    exact ⟨rfl, L.out.bl⟩
set_option maxRecDepth 100000 in
theorem contract (H : Type) (enc : TypeId × Value -> H) (W : World) (base : Nat) (args : Array Value) (ds gs : List (DataW H)) (before : List MemPlace)
    (hval : ∀ (j : Nat) t v, Tryz.f3.params[j]? = some t -> args[j]? = some v -> Value.okWide Tryz.prog W .any base t v)
    (hW : DataW.Whole enc Tryz.prog Tryz.f3.params.toList Rows.fnExactPeerOkSpec.vars false W args.toList ds gs before) :
    Calls Tryz.prog 3 args W fun e W' => ∃ v, e = .returned v /\ Rows.fnExactPeerOkSpec.post enc Tryz.prog Tryz.f3 false true false false W args v W' := by
  have hW' := hW
  obtain ⟨p, q, hA0, hV, rfl, hfz, hnd⟩ := hW
  have hA : DataW.TrodAll enc Tryz.prog W 0 (fun _ => true) true Tryz.f3.params.toList args.toList ds p := hA0
  rw [Tryz.params3] at hA hval
  obtain ⟨v0, vs0, d0, ds0, p0, q0, e0, rfl, rfl, h0, r0⟩ := trodAll_cons hA
  obtain ⟨v1, vs1, d1, ds1, p1, q1, rfl, rfl, rfl, h1, r1⟩ := trodAll_cons r0
  obtain ⟨v2, vs2, d2, ds2, p2, q2, rfl, rfl, rfl, h2, r2⟩ := trodAll_cons r1
  obtain ⟨rfl, rfl, rfl⟩ := trodAll_nil r2
  have e0' : args = #[v0, v1, v2] := by cases args; simp_all
  subst e0'
  obtain ⟨rfl, rfl⟩ := trodVars_none hV
  obtain ⟨ro, wi, le, ke, rfl, _, _, _, _⟩ := openSetup (hval 0 23 v0 rfl rfl) h0
  obtain ⟨p, rfl, hr, hp⟩ := openPeer (hval 1 42 v1 rfl rfl) h1
  obtain ⟨size, rfl, _, _, j1⟩ := open_int Tryz.underlying3 (hval 2 3 v2 rfl rfl) h2
  refine (law_any ro wi le ke size (i64_of j1) p hr W hp).mono fun e W' ⟨he, hb⟩ => ?_
  subst he
  exact ⟨_, rfl, post_true laidOut (by kernel_rfl) (by kernel_rfl) Tryz.underlying4 rfl rfl hW' hb⟩
set_option maxRecDepth 100000 in
theorem lifted (os : Os) (started : os.Started) (H : Type) (enc : TypeId × Value -> H) :
    ReturnsInHanded {} Tryz.checked os 3 .any (Rows.fnExactPeerOkSpec.pre6 enc Tryz.prog Tryz.f3 Rows.fnExactPeerOkRow.domain false) (Rows.fnExactPeerOkSpec.post enc Tryz.prog Tryz.f3 false true false false) := by
  refine returnsInHanded_of_change (C := Tryz.checked) own started (by kernel_rfl) Tryz.func3
    (ChangeSpec.witness6 (enc := enc) (C := Tryz.checked) false ⟨#[], #[.agg #[.int .i64 0, .int .i64 0, .int .i64 0, .int .i64 0], .agg #[.int .i64 0, .int .i64 0, .int .i64 0, .int .i64 0, .int .i64 0, .slice none 0 0, .slice none 0 0, .slice none 0 0, .slice none 0 0, .int .i64 0, .slice none 0 0, .slice none 0 0, .int .i64 0, .slice none 0 0, .slice none 0 0, .slice none 0 0, .int .i64 0, .slice none 0 0, .slice none 0 0, .slice none 0 0, .int .i64 0, .slice none 0 0, .slice none 0 0, .slice none 0 0, .int .i64 0, .slice none 0 0], .int .i64 0], []⟩ 8 (by kernel_rfl) (by kernel_rfl) (by kernel_rfl) (by kernel_rfl)) ?_
  intro W base args ds gs before hval0 hW _ _
  exact contract H enc W base args ds gs before hval0 hW
set_option maxRecDepth 100000 in
theorem proved : Rows.FnExactPeerOkSaid :=
  OpenClaim.holds_of_wide 3 Tryz.f3 rfl rfl rfl rfl rfl rfl rfl ⟨rfl, rfl, rfl, rfl, rfl⟩ rfl rfl rfl rfl rfl (by kernel_rfl) Tryz.func3 (by kernel_rfl)
    (of_decide_eq_true (by kernel_rfl)) (by unfold Func.isWrapper; first | (rw [if_pos (by decide +kernel)]; kernel_rfl) | (rw [if_neg (by decide +kernel)]; exact ⟨rfl, rfl⟩))
    (fun os started H enc _ => lifted os started H enc)
end Go.Proofs.YtanihpmgoeadkaaGreat.PeerOk
namespace Go.Proofs.YtanihpmgoeadkaaGreat
theorem peerOk_holds : Rows.FnExactPeerOkSaid := PeerOk.proved
end Go.Proofs.YtanihpmgoeadkaaGreat
