/-
  FnExactJudgeLead: at every world the program's JudgeLead answers as the specification's, and the world that it was handed stays as it was. Condition: the two variables of errors that it meets hold what the program's text lays (two errors of errors.New's make).
-/
import Derived.Test.YtbcbdhjeebcleaaGreatDoorJlS
import Derived.Test.YtbcbdhjeebcleaaGreatDoorWoI
import Derived.Test.YtbcbdhjeebcleaaGreatDoorCards
import Derived.Test.YtbcbdhjeebcleaaGreatDoorTie
import Derived.Stop.LaidTwo
import Derived.Deep.DeepHandedRow
set_option linter.unusedVariables false
set_option linter.unusedSimpArgs false
set_option maxRecDepth 100000
set_option maxHeartbeats 8000000
namespace Go.Proofs.YtbcbdhjeebcleaaGreatDoor.JudgeLeadX
open ChangeShapes WideShapes ChangeAt RowKit Joins Deep Base Gen
theorem own : ownKnob Tryz.prog.godebug = none := by kernel_rfl
theorem laidOut : laidOutB Tryz.prog = true := by kernel_rfl
theorem gW : Tryz.prog.globalNamed "loop.example/g00393/impl.errWorld" = some 0 := by kernel_rfl
theorem gL : Tryz.prog.globalNamed "loop.example/g00393/impl.errLead" = some 1 := by kernel_rfl
theorem gWT : (Tryz.prog.globals[(0 : Nat)]?).map (·.type) = some 73 := by kernel_rfl
theorem gLT : (Tryz.prog.globals[(1 : Nat)]?).map (·.type) = some 73 := by kernel_rfl
theorem star : "*" ++ "errors.errorString" = "*errors.errorString" := by decide
theorem rowE (u : TypeId) (h : Tryz.prog.typeName? 3 u = some "*errors.errorString") : u = 431 :=
 typeName_ptr_named (nm := "errors.errorString") (by rw [star]; kernel_rfl) (by kernel_rfl) (by decide) u (by rw [star]; exact h)
theorem Qf4 {P : Program} {W W' : World} {n : String} {g : Nat} {c : Array Value} (hg : P.globalNamed n = some g) (h : W.var? P n = some c) (hb : Below W.heap.size W W') : W'.var? P n = some c := by
 have hlt : g < W.heap.size := by
  rcases Nat.lt_or_ge g W.heap.size with h1 | h1
  . exact h1
  . simp [World.var?, hg, Array.getElem?_eq_none h1] at h
 unfold World.var? at h ⊢
 rw [hg] at h ⊢
 simp only [Option.bind_some] at h ⊢
 rw [hb.block g hlt]
 exact h
theorem Qhy {W : World} (hL : laidMetH Tryz.prog Rows.fnExactJudgeLeadRow.laid W) : ∃ a0 a1, Sen W a0 a1 /\ W.var? Tryz.prog "loop.example/g00393/impl.errWorld" = some #[.iface 431 (.pointer (some a0))] /\ W.var? Tryz.prog "loop.example/g00393/impl.errLead" = some #[.iface 431 (.pointer (some a1))] := by
 obtain ⟨a0, a1, s0, s1, c0, c1, t0, t1, hv0, hv1, hc0, hs0, hz0, hc1, hs1, hz1, hne, hb0, hb1⟩ := laid_sentinels2 (show laidMet Tryz.prog Rows.fnExactJudgeLeadRow.laid W from hL) gW gWT gL gLT Tryz.underlying73 rowE Tryz.underlying431 Tryz.underlying459 rfl rfl Tryz.underlying9 (by kernel_rfl) (by kernel_rfl)
 exact ⟨a0, a1, ⟨by simpa using World.var?_cell gW hv0 0, by simpa using World.var?_cell gL hv1 0, hne, ⟨c0, t0, hb0⟩, ⟨c1, t1, hb1⟩⟩, hv0, hv1⟩
structure Lq (w W : World) (pl : Array Value) : Prop where
  b1 : Blk W w.heap.size 30 pl
  bl : Below w.heap.size w W
theorem Lq.below {w W W' : World} {pl : Array Value} (h : Lq w W pl) (g : Below W.heap.size W W') : Lq w W' pl := ⟨h.b1.below g h.b1.lt, via0 g h.bl⟩
def GoodW (p : WC) (W : World) (z : Array Value) : Prop := ∃ q : WC, z = Qad q /\ SameW q p /\ WAt W q
theorem GoodW.below {p : WC} {W W' : World} {z : Array Value} (h : GoodW p W z) (g : Below W.heap.size W W') : GoodW p W' z := by
 obtain ⟨q, e, s, a⟩ := h; exact ⟨q, e, s, a.below g⟩
theorem GoodW.size {p : WC} {W : World} {z : Array Value} (h : GoodW p W z) : z.size = 11 := by obtain ⟨q, e, _⟩ := h; rw [e]; rfl
theorem GoodW.one {p : WC} {W : World} {z : Array Value} (h : GoodW p W z) : z.all (·.oneCell') = true := by obtain ⟨q, e, _⟩ := h; rw [e]; exact cellsW_one q
theorem law_any (p : WC) (hr : WRight p) (hz : I64 p.size) (a0 a1 : Addr) (w : World) (hp : WAt w p) (hs : Sen w a0 a1) :
 Calls Tryz.prog 3 #[.agg (Qad p)] w fun e w' => e = .returned (.bool true) /\ Below w.heap.size w w' := by
 have Z0 : Hid (∀ W : World, Below w.heap.size w W -> Calls Tryz.prog 4 #[.agg (Qad p), .int .i64 1048576] W fun e w' => (∃ r : Int, e = .returned (.int .i64 r) /\ (r < 0 ∨ (0 <= r /\ WFit p))) /\ Below W.heap.size W w') := fun W g => Qhp p hr W (hp.below g)
 have CT0 : Hid (WFit p -> ∀ W : World, Below w.heap.size w W -> Calls Tryz.prog 6 #[.agg (Qad p)] W fun e w' => ∃ q, e = .returned (.agg q) /\ Below W.heap.size W w' /\ GoodW p w' q) := fun hf W g => (Qhh p hf W (hp.below g)).mono fun e w' h => by
  obtain ⟨q, e1, h1, h2, h3⟩ := h
  exact ⟨_, e1, h3, q, rfl, h1, h2.at⟩
 have CE0 : Hid (WFit p -> ∀ (W : World) (x y : Array Value), GoodW p W x -> GoodW p W y -> Calls Tryz.prog 8 #[.agg x, .agg y] W fun e w' => e = .returned (.bool true) /\ Below W.heap.size W w') := fun hf W x y hx hy => by
  obtain ⟨a, rfl, sa, wa⟩ := hx
  obtain ⟨b, rfl, sb, wb⟩ := hy
  exact Qg1 ⟨sa.ro.trans sb.ro.symm, sa.wi.trans sb.wi.symm, sa.le.trans sb.le.symm, sa.ke.trans sb.ke.symm, sa.size.trans sb.size.symm, sa.ns.trans sb.ns.symm, sa.ms.trans sb.ms.symm, sa.ss.trans sb.ss.symm, sa.fs.trans sb.fs.symm, sa.hs.trans sb.hs.symm, sa.ds.trans sb.ds.symm⟩ (hf.same sb) W wa wb
 have CP0 : Hid (WFit p -> ∀ (W : World) (x : Array Value), GoodW p W x -> Calls Tryz.prog 5 #[.agg x] W fun e w' => e = .returned (.bool (leadB p)) /\ Below W.heap.size W w') := fun hf W x hx => by
  obtain ⟨a, rfl, sa, wa⟩ := hx
  rw [← Qe6 sa]
  exact Qgf a ((WAsk.of hr hf hz).same sa) W wa
 have CI0 : Hid (WFit p -> ∀ (W : World) (x : Array Value), Below w.heap.size w W -> GoodW p W x -> Calls Tryz.prog 7 #[.agg x] W fun e w' => e = .returned (.bool (leadB p)) /\ Below W.heap.size W w') := fun hf W x g hx => by
  obtain ⟨a, rfl, sa, wa⟩ := hx
  rw [← Qe6 sa]
  exact Qgy a ((WAsk.of hr hf hz).same sa) a0 a1 W wa (hs.below g)
 have I1 : Hid ((Tryz.prog.info? 30).map (·.size) = some (Qad p).size) := by show _ = _; kernel_rfl
 have L : Hid (Lq w (w.alloc (.cells (Qad p) 30)) (Qad p)) := ⟨Blk.new w _ _, Qaa (Below.refl _ _) _⟩
 clear hr hp hz hs
 generalize hB : (leadB p) = B at *
 generalize hpl : Qad p = pl at *
 clear hB hpl
 go_enter Tryz.func3, Tryz.ntmps3
 go_upto_region 2 with fail
 refine wp_region_lit ?_
 refine Qaj rfl 30 _ rfl (b := w.heap.size) rfl L.out.b1 Tryz.underlying30 I1.out ?_
 go_wp2_with fail
 refine (Z0.out _ L.out.bl).mono ?_
 rintro e w1 ⟨⟨r, rfl, hz⟩, g⟩
 replace L := hidP (L.out.below g)
 clear g
 rcases hz with hz | ⟨hz, hf⟩
 . go_wp2
   go_ret
   exact ⟨rfl, L.out.bl⟩
 have nz : ¬ r < 0 := by omega
 have CT := hidP (CT0.out hf)
 have CP := hidP (CP0.out hf)
 have CI := hidP (CI0.out hf)
 have CE := hidP (CE0.out hf)
 clear CT0 CP0 CI0 CE0 Z0 hf
 go_upto_region 5 with fail
 refine wp_region_lit ?_
 refine Qaj rfl 30 _ rfl (b := w.heap.size) rfl L.out.b1 Tryz.underlying30 I1.out ?_
 go_wp2_with fail
 refine (CT.out _ L.out.bl).mono ?_
 rintro e w2 ⟨q0, rfl, g, hg⟩
 replace L := hidP (L.out.below g)
 have G0 := hidP hg
 clear g hg
 go_wp2_with fail
 refine (CP.out _ _ G0.out).mono ?_
 rintro e w3 ⟨rfl, g⟩
 replace L := hidP (L.out.below g)
 clear g G0
 go_upto_region 6 with fail
 refine wp_region_lit ?_
 refine Qaj rfl 30 _ rfl (b := w.heap.size) rfl L.out.b1 Tryz.underlying30 I1.out ?_
 go_wp2_with (refine (CT.out _ L.out.bl).mono ?_)
 rintro e w4 ⟨q, rfl, g, hg⟩
 have G4 := hidP hg
 have I3 : Hid ((Tryz.prog.info? 39).map (·.size) = some q.size) := by show _ = _; rw [hg.size]; kernel_rfl
 replace L := hidP (L.out.below g)
 clear g hg
 dsimp only
 apply_assumption
 iterate 3 go_step
 refine Qao rfl 39 _ _ rfl (g := w4.heap.size) (cells := q) rfl rfl (Blk.new w4 39 #[.int .i64 0, .int .i64 0, .int .i64 0, .int .i64 0, .int .i64 0, .slice none 0 0, .slice none 0 0, .slice none 0 0, .slice none 0 0, .slice none 0 0, .slice none 0 0]) I3.out (by rw [G4.out.size]; rfl) G4.out.one ?_
 refine wpList_nil ?_
 rw [World.setRow_alloc_new]
 have X : Hid (Blk (w4.alloc (.cells q 39)) w4.heap.size 39 q) := Blk.new w4 _ _
 replace L := hidP (L.out.below (Qaa (Below.refl _ _) (.cells q 39)))
 replace G4 := hidP (G4.out.below (Qaa (Below.refl _ _) (.cells q 39)))
 go_upto_region 7 with fail
 refine wp_region_lit ?_
 refine Qaj rfl 39 _ rfl (b := w4.heap.size) rfl X.out Tryz.underlying39 I3.out ?_
 go_wp2_with fail
 refine (CI.out _ _ L.out.bl G4.out).mono ?_
 rintro e w7 ⟨rfl, g⟩
 replace L := hidP (L.out.below g)
 replace X := hidP (X.out.below g X.out.lt)
 replace G4 := hidP (G4.out.below g)
 clear g
 cases B
 all_goals
  go_wp2_with fail
  refine wp_region_noPanic ?_
  refine wp_region_held_drew (S := (fun (W : World) => Blk W w.heap.size 30 pl /\ Blk W w4.heap.size 39 q)) (by kernel_rfl) ?_ (fun hH => ?_)
  . exact ⟨L.out.b1, X.out⟩
  refine zt1 0 ?_; refine ztn (hy := fun w' hSw => Qbi rfl rfl hSw.2 Tryz.underlying39 I3.out) (h := ?_); try simp only [zX,zY]
  refine zte ?_
  refine zt1 1 ?_; refine ztn (hy := fun w' hSw => Qbi rfl rfl hSw.1 Tryz.underlying30 I1.out) (h := ?_); try simp only [zX,zY]
  refine zte ?_
  refine zR1 2 (fun K hK => ?_)
  simp only [zG]
  go_simp
  refine (CT.out _ (L.out.bl.drew)).mono ?_; rintro e w8 ⟨q8, rfl, g, hg⟩; have gd := via0 g (Below.drew (Below.refl _ _)); replace L := hidP (L.out.below gd); replace X := hidP (X.out.below gd X.out.lt); replace G4 := hidP (G4.out.below gd); have G8 := hidP hg; clear g gd hg
  refine hK.out _ _ ⟨L.out.b1, X.out⟩ fun hH => ?_; clear hK K; try simp only [zX,zY]
  refine zR1 3 (fun K hK => ?_)
  simp only [zG]
  go_simp
  refine (CE.out _ _ _ G4.out G8.out).mono ?_; rintro e w9 ⟨rfl, g⟩; replace L := hidP (L.out.below g); replace X := hidP (X.out.below g X.out.lt); clear g
  refine hK.out _ _ ⟨L.out.b1, X.out⟩ fun hH => ?_; clear hK K; try simp only [zX,zY]
  refine zt1 4 ?_; refine ztn (h := ?_); try simp only [zX,zY]
  refine zte ?_
  refine zdn ?_
  go_wp2
  go_ret
  exact ⟨rfl, L.out.bl⟩
theorem contract (H : Type) (enc : TypeId × Value -> H) (W : World) (base : Nat) (args : Array Value) (ds gs : List (DataW H)) (before : List MemPlace)
 (hval : ∀ (j : Nat) t v, Tryz.f3.params[j]? = some t -> args[j]? = some v -> Value.okWide Tryz.prog W .any base t v)
 (hW : DataW.Whole enc Tryz.prog Tryz.f3.params.toList Rows.fnExactJudgeLeadSpec.vars false W args.toList ds gs before) (hL : laidMetH Tryz.prog Rows.fnExactJudgeLeadRow.laid W) :
 Calls Tryz.prog 3 args W fun e W' => ∃ v, e = .returned v /\ Rows.fnExactJudgeLeadSpec.post enc Tryz.prog Tryz.f3 false true false false W args v W' := by
 have hW' := hW
 have hlt := hW.lt
 obtain ⟨p, q, hA0, hV0, rfl, hfz, hnd⟩ := hW
 have hV : DataW.TrodVars enc Tryz.prog W (fun _ => true) ["loop.example/g00393/impl.errWorld", "loop.example/g00393/impl.errLead"] gs q := hV0
 have hA : DataW.TrodAll enc Tryz.prog W 0 (fun _ => true) true Tryz.f3.params.toList args.toList ds p := hA0
 rw [Tryz.params3] at hA hval
 obtain ⟨v0, d0, rfl, rfl, h0⟩ := trodAll_one hA
 obtain ⟨wc, rfl, hr, hp, hz⟩ := openWorld (hval 0 30 v0 rfl rfl) h0
 obtain ⟨a0, a1, hs, hv0, hv1⟩ := Qhy hL
 obtain ⟨rfl, rfl⟩ := hV.unique (vars_read2 enc gW gWT Tryz.underlying73 hv0 trivial gL gLT Tryz.underlying73 hv1 trivial _)
 refine (law_any wc hr hz a0 a1 W hp hs).mono fun e W' ⟨he, hb⟩ => ?_
 subst he
 refine ⟨_, rfl, _, _, _, [], p, [.cell 0 0, .cell 1 0], hW', ?_, ?_, ?_, hb.frame _, fun h => by cases h⟩
 . exact trodAll_mk1 (shut_bool Tryz.underlying4 true)
 . exact Qcq laidOut hb _ _ _ _ (by kernel_rfl) hA0 (fun x hx => hlt x (by simp [hx]))
 . exact vars_read2 enc gW gWT Tryz.underlying73 (Qf4 gW hv0 hb) trivial gL gLT Tryz.underlying73 (Qf4 gL hv1 hb) trivial _
end Go.Proofs.YtbcbdhjeebcleaaGreatDoor.JudgeLeadX
