/-
  The program's KeepNew at this seat. No condition.
-/
import Derived.Test.YtenhcjkkpnlbeaaGreatDoorSpecKNew
set_option linter.unusedVariables false
set_option linter.unusedSimpArgs false
set_option maxRecDepth 100000
set_option maxHeartbeats 8000000
namespace Go.Proofs.YtenhcjkkpnlbeaaGreatDoor.Gen
open ChangeShapes WideShapes ChangeAt RowKit Joins Deep Base
theorem Qhc (ro wi le ke : Int) (w : World) :
 Calls Tryz.prog 153 #[.agg (Qag ro wi le ke)] w fun e w' => ToldK w w' e (newK (setB ro wi le ke) ro) := by
 cases hb : setB ro wi le ke
 . go_enter Tryz.func153, Tryz.ntmps153
   go_wp2_with (go_at_call 39; refine (Qcm ro wi le ke _).mono ?_; rw [hb]; rintro e w1 ⟨rfl, g1⟩; obtain ⟨k1, m1⟩ := Qax g1; have B1 : Below w.heap.size w w1 := via0 g1 (Qab (Qab (Below.refl _ _) _) _); have p1 := ((Blk.new (w.alloc (.cells (Qag ro wi le ke) 24)) 48 Qa9)).below g1 (by simp); rw [World.size_alloc] at p1; obtain ⟨r0, r1, r2, r3, r4, r5⟩ := p1.row6; have f0 := p1.thaw 0; have f1 := p1.thaw 1; have f2 := p1.thaw 2; have f3 := p1.thaw 3; have f4 := p1.thaw 4; have f5 := p1.thaw 5)
   refine bodyPost_ret (v := .agg Qa9) (by simp [results, Tryz.results153, go_sem, r0, r1, r2, r3, r4, r5]) rfl (Qim ?_)
   exact Qa7 (Qa7 (Qa7 (Qa7 (Qa7 (Qa7 B1 (Nat.le_succ _) _) (Nat.le_succ _) _) (Nat.le_succ _) _) (Nat.le_succ _) _) (Nat.le_succ _) _) (Nat.le_succ _) _
 . obtain ⟨hr1, hr4⟩ := Qdm hb
   obtain ⟨n, rfl⟩ : ∃ n : Nat, ro = n := ⟨ro.toNat, by omega⟩
   have hmR := Qby (P := Tryz.prog) Tryz.underlying43 infoRC (by omega) n (by omega)
   have hmD : ∀ w : World, (Instr.makeSlice 28 (.int .i64 4) (.int .i64 4)).run Tryz.prog w = .ok (.slice (some ⟨w.heap.size, 0, none⟩) 4 4) (w.alloc (.cells (madeCells #[.int .i64 0] 4) 3)) := Qby (P := Tryz.prog) Tryz.underlying28 Qdf (by omega) 4 (by omega)
   have hmL : ∀ w : World, (Instr.makeSlice 46 (.int .i64 4) (.int .i64 4)).run Tryz.prog w = .ok (.slice (some ⟨w.heap.size, 0, none⟩) 4 4) (w.alloc (.cells (madeCells Qlg 16) 89)) := Qby (P := Tryz.prog) Tryz.underlying46 infoAn (by omega) 4 (by omega)
   go_enter Tryz.func153, Tryz.ntmps153
   go_upto_region 3 with (go_at_call 39; refine (Qcm (n : Int) wi le ke _).mono ?_; rw [hb]; rintro e w1 ⟨rfl, g1⟩)
   have I : ∀ V, KR w w1 (n : Int) wi le ke n V (fun _ => none) := fun V => ⟨via0 g1 (Qab (Qab (Below.refl _ _) _) _), ((Blk.new w _ _).alloc _).below g1 (by simp; omega), by have := (Blk.new (w.alloc (.cells (Qag (n : Int) wi le ke) 24)) 48 Qa9).below g1 (by simp); rwa [World.size_alloc] at this, fun i b e => (by cases e), fun i j b e => (by cases e), fun b e => (by cases e), fun b e => (by cases e), fun b e => (by cases e), fun b e => (by cases e)⟩
   have J := hidP I
   have I := I Qa9
   clear g1
   go_cut [3] from 8 to 13 (fun s wx => ∃ g bR bD bL Q, s = .pointer (some ⟨g, 0, none⟩) /\ Q <= wx.heap.size /\ KN w wx (n : Int) wi le ke n g bR bD bL Q (.slice none 0 0))
   case first =>
    obtain ⟨AA, hAA⟩ : ∃ f : (Nat -> Bool) -> (Nat -> Value) -> Array Value, f = (fun (m : Nat -> Bool) (v : Nat -> Value) => #[.agg (Qag (n : Int) wi le ke), .pointer (some ⟨w.heap.size, 0, none⟩), .pointer (some ⟨w.heap.size + 1, 0, none⟩), sl m v 6, .agg (Qag (n : Int) wi le ke), .bool true, .bool false, undef, .pointer (some ⟨w.heap.size, 0, none⟩), .int .i64 (n : Int), sl m v 2, sl m v 3, sl m v 4, sl m v 5, undef, undef, undef, undef, undef, undef, undef, undef, undef, undef, undef, undef]) := ⟨_, rfl⟩
    refine wp_region_noPanic ?_
    refine wp_region_held_drew (S := fun (w' : World) => w'.cell? ⟨w.heap.size, 0, none⟩ = some (.int .i64 (n : Int))) (by kernel_rfl) ?_ (fun hH => ?_)
    . exact I.b1.row4.1
    refine ztk [0, 1] ?_; repeat (refine ztn (h := ?_); try simp only [zX,zY])
    refine zte ?_
    refine Ql5 (n1 := 1 + 5) (l1 := lstK (fun _ => false)) (T := StK w n wi le ke AA (fun _ => false)) (fun a W hT hS => Qf5 [2, 3, 4, 5, 6] lstK preK (StK w n wi le ke AA) ?hl ?step ?tail 5 (fun _ => false) a W (by kernel_rfl) hT hS) (by kernel_rfl) ⟨fun _ => undef, fun _ => none, by rw [hAA]; rfl, I.drew, (fun e => by cases e), (fun e => by cases e), (fun e => by cases e), (fun e => by cases e), (fun e => by cases e)⟩ hH
    case hl =>
     intro i hi m
     simp only [List.mem_cons, List.not_mem_nil, or_false] at hi
     rcases hi with rfl | rfl | rfl | rfl | rfl<;>rfl
    case step =>
     clear hH J I
     intro i hi m a W hp hT hS
     obtain ⟨v, o, rfl, I, h2, h3, h4, h5, h6⟩ := hT
     subst hAA
     simp only [List.mem_cons, List.not_mem_nil, or_false] at hi
     rcases hi with rfl | rfl | rfl | rfl | rfl
     . have q5 : m 5 = false := by simpa [preK] using hp
       have hmk := hmR W
       have I2 := I.new0 W.heap.size rfl
       refine ⟨_, rfl, fun K hK => ?_⟩
       go_simp
       exact hK.out _ _ I2.b1.row4.1 ⟨updv v 2 (.slice (some ⟨W.heap.size, 0, none⟩) n n), _, rfl, I2, (fun _ => ⟨_, rfl, rfl⟩), h3, h4, fun e => by simp [updm, q5] at e, h6⟩
     . have q5 : m 5 = false := by simpa [preK] using hp
       have hmk := hmD W
       have I2 := I.new1 W.heap.size rfl
       refine ⟨_, rfl, fun K hK => ?_⟩
       go_simp
       exact hK.out _ _ I2.b1.row4.1 ⟨updv v 3 (.slice (some ⟨W.heap.size, 0, none⟩) 4 4), _, rfl, I2, h2, (fun _ => ⟨_, rfl, rfl⟩), h4, fun e => by simp [updm, q5] at e, h6⟩
     . have q5 : m 5 = false := by simpa [preK] using hp
       have hmk := hmL W
       have I2 := I.new2 W.heap.size rfl
       refine ⟨_, rfl, fun K hK => ?_⟩
       go_simp
       exact hK.out _ _ I2.b1.row4.1 ⟨updv v 4 (.slice (some ⟨W.heap.size, 0, none⟩) 4 4), _, rfl, I2, h2, h3, (fun _ => ⟨_, rfl, rfl⟩), fun e => by simp [updm, q5] at e, h6⟩
     . have q : (m 2 = true /\ m 3 = true) /\ m 4 = true := by simpa [preK] using hp
       obtain ⟨bR, _, v2⟩ := h2 q.1.1
       obtain ⟨bD, _, v3⟩ := h3 q.1.2
       obtain ⟨bL, _, v4⟩ := h4 q.2
       have e2 : sl m v 2 = .slice (some ⟨bR, 0, none⟩) n n := by simp [sl, q.1.1, v2]
       have e3 : sl m v 3 = .slice (some ⟨bD, 0, none⟩) 4 4 := by simp [sl, q.1.2, v3]
       have e4 : sl m v 4 = .slice (some ⟨bL, 0, none⟩) 4 4 := by simp [sl, q.2, v4]
       refine ⟨_, rfl, fun K hK => ?_⟩
       go_simp
       refine hK.out _ _ I.b1.row4.1 ⟨updv v 5 (.agg (Qah (some ⟨bR, 0, none⟩) n n none 0 0 none 0 0 0 (some ⟨bD, 0, none⟩) 4 4 (some ⟨bL, 0, none⟩) 4 4)), o, ?_, I, h2, h3, h4, fun _ => by simp [updv, v2, v3, v4], h6⟩
       simp [sl, updm, updv, q.1.1, q.1.2, q.2, v2, v3, v4]
     . have I2 := I.new3 W.heap.size rfl
       refine ⟨_, rfl, fun K hK => ?_⟩
       go_simp
       exact hK.out _ _ I2.b1.row4.1 ⟨updv v 6 (.pointer (some ⟨W.heap.size, 0, none⟩)), _, rfl, I2, h2, h3, h4, h5, fun _ => ⟨_, rfl, rfl⟩⟩
    case tail =>
     clear hH J I
     intro m a W hm hT hS
     obtain ⟨v, o, rfl, I, h2, h3, h4, h5, h6⟩ := hT
     subst hAA
     simp only [List.all_cons, List.all_nil, Bool.and_true, Bool.and_eq_true] at hm
     obtain ⟨m2, m3, m4, m5, m6⟩ := hm
     obtain ⟨bR, oR, v2⟩ := h2 m2
     obtain ⟨bD, oD, v3⟩ := h3 m3
     obtain ⟨bL, oL, v4⟩ := h4 m4
     obtain ⟨g, oG, v6⟩ := h6 m6
     have v5 := h5 m5
     rw [v2, v3, v4] at v5
     simp only [sl, m2, m3, m4, m5, m6, v2, v3, v4, v5, v6, if_true, lstK]
     have I2 := I.store oG (Qah (some ⟨bR, 0, none⟩) n n none 0 0 none 0 0 0 (some ⟨bD, 0, none⟩) 4 4 (some ⟨bL, 0, none⟩) 4 4)
     refine zR1 7 (fun K hK => ?_)
     simp only [zG]
     rw [if_pos (by rfl)]
     refine wp_store_row 48 _ _ (by rfl) g (Qah (some ⟨bR, 0, none⟩) n n none 0 0 none 0 0 0 (some ⟨bD, 0, none⟩) 4 4 (some ⟨bL, 0, none⟩) 4 4) (by rfl) (by rfl) 48 Qa9 (I.g g oG) (by kernel_rfl) rfl (by simp [Value.oneCell']) ?_
     refine hK.out _ _ I2.b1.row4.1 (fun hH => ?_)
     refine zdn ?_
     go_wp2_with fail
     go_meet
     exact ⟨g, bR, bD, bL, _, rfl, Nat.le_refl _, I2.done oR oD oL oG⟩
   case rest =>
    obtain ⟨g, bR, bD, bL, Q, rfl, hQ, K0⟩ := hcut
    have HK := hidP K0
    have HG := hidP (GL.nil wc (n : Int) Q hQ)
    clear K0 hQ I J hmR hmD hmL
    go_wp2
    go_loopw [14] (fun i W => ∃ (j : Nat) (a : Option Addr) (c : Nat) (gs : List GC) (fp : Nat -> Nat -> Prop), i = .int .i64 (j : Int) /\ j <= 2 /\ Hid (KN w W (n : Int) wi le ke n g bR bD bL Q (.slice a j c)) /\ Hid (GL W (n : Int) Q (.slice a j c) gs fp) /\ Hid (gs.length = j)) (fun i _ => 2 - (intOf i).toNat)
    case atStart => exact ⟨0, none, 0, [], _, rfl, by omega, HK, HG, rfl⟩
    case round =>
     obtain ⟨j, a, c, gs, fp, rfl, hj, hKn, hG, hl⟩ := hrel
     by_cases hlt : j < 2
     . have hS4 : (fun (w' : World) => w'.cell? ⟨g, 2, none⟩ = some (.slice a j c) /\ w'.cell? ⟨w.heap.size, 0, none⟩ = some (.int .i64 (n : Int))) wr.drew := ⟨hKn.out.bg.row6.2.2.1, hKn.out.b1.row4.1⟩
       go_wp2_with fail
       refine wp_region_noPanic ?_
       have hH : (fun (w' : World) => w'.cell? ⟨g, 2, none⟩ = some (.slice a j c) /\ w'.cell? ⟨w.heap.size, 0, none⟩ = some (.int .i64 (n : Int))) _ := hS4
       refine Qgx 8 (fun (w' : World) => w'.cell? ⟨g, 2, none⟩ = some (.slice a j c) /\ w'.cell? ⟨w.heap.size, 0, none⟩ = some (.int .i64 (n : Int))) (by kernel_rfl) ?_
       refine' Qct (i := 0) (v := _) (by kernel_rfl) rfl (by kernel_rfl) (by decide) (by kernel_rfl) (by kernel_rfl) (by kernel_rfl) (fun _ _ _ h => h) (Or.inl ⟨by rfl, ?hy6⟩) (by assumption) ?rest6
       case hy6 => (intro w hSw; (try dsimp only at hSw); go_simp<;>with_reducible rfl)
       try simp only [zX,zY]
       refine' Qct (i := 1) (v := _) (by kernel_rfl) rfl (by kernel_rfl) (by decide) (by kernel_rfl) (by kernel_rfl) (by kernel_rfl) (fun _ _ _ h => h) (Or.inl ⟨by rfl, ?hy7⟩) (by assumption) ?rest7
       case hy7 => (intro w hSw; (try dsimp only at hSw); go_simp<;>with_reducible rfl)
       try simp only [zX,zY]
       refine' Qct (i := 2) (v := _) (by kernel_rfl) rfl (by kernel_rfl) (by decide) (by kernel_rfl) (by kernel_rfl) (by kernel_rfl) (fun _ _ _ h => h) (Or.inl ⟨by rfl, ?hy8⟩) (by assumption) ?rest8
       case hy8 => (intro w hSw; (try dsimp only at hSw); go_simp<;>with_reducible rfl)
       try simp only [zX,zY]
       refine' Qct (i := 3) (v := _) (by kernel_rfl) rfl (by kernel_rfl) (by decide) (by kernel_rfl) (by kernel_rfl) (by kernel_rfl) (fun _ _ _ h => h) (Or.inl ⟨by rfl, ?hy9⟩) (by assumption) ?rest9
       case hy9 => (intro w hSw; (try dsimp only at hSw); go_simp<;>with_reducible rfl)
       try simp only [zX,zY]
       refine Qdb (i := 4) (by kernel_rfl) rfl (fun K hK => ?_)
       simp only [zG]
       go_simp; go_at_call 177; refine (Qmx (n : Int) _).mono ?_; rintro e w2 ⟨xa, xc, F, rfl, g2, hGp, hF⟩; have gB : Below wr.heap.size wr w2 := via0 g2 (Below.drew (Below.refl _ _)); have hF' : ∀ x ∈ F, wr.heap.size <= x := hF; have K2 := hKn.out.below gB; have K2a := K2.below (Qab (Below.refl _ _) (.cells (Qa3 0 none 0 0 none 0 0 xa (newO (n : Int)).length xc) 110)); have gBa : Below wr.heap.size wr (w2.alloc (.cells (Qa3 0 none 0 0 none 0 0 xa (newO (n : Int)).length xc) 110)) := Qab gB _; have hxP := gp_new (c := xc) hGp; have hxPa := Qbd _ (w2.alloc (.cells (Qa3 0 none 0 0 none 0 0 xa (newO (n : Int)).length xc) 110)) (⟨0, none, 0, [], none, 0, [], xa, xc, newO (n : Int)⟩ : GC) _ (fun _ => False) hxP (Offp.of_below (Qab (Below.refl _ _) _)) (fun _ _ e => e); have hAt : At (w2.alloc (.cells (Qa3 0 none 0 0 none 0 0 xa (newO (n : Int)).length xc) 110)) (some ⟨w2.heap.size, 0, none⟩) [(⟨0, none, 0, [], none, 0, [], xa, xc, newO (n : Int)⟩ : GC)] := .inr ⟨w2.heap.size, 0, rfl, by simp, one_in w2 (⟨0, none, 0, [], none, 0, [], xa, xc, newO (n : Int)⟩ : GC) 110⟩; have hGa := hG.out.below gBa; have hll := hl.out; obtain ⟨v', w3, hr, hown, hgrow, hat⟩ := Qco (P := Tryz.prog) Tryz.underlying45 infoGC rfl (by decide) (by decide) Q (.slice a j c) gs [(⟨0, none, 0, [], none, 0, [], xa, xc, newO (n : Int)⟩ : GC)] (some ⟨w2.heap.size, 0, none⟩) 1 (w2.alloc (.cells (Qa3 0 none 0 0 none 0 0 xa (newO (n : Int)).length xc) 110)) hGa.q hGa.own hAt (by rw [hll]; simp; omega); simp only [List.length_cons, List.length_nil, Nat.zero_add] at hr hown; have G3 := hG.out.snoc gBa hxPa rfl (fun b hb => ⟨hF' b hb, by have := hGp.lt b hb; simp; omega⟩) hown hgrow hat; rw [hll] at hown; obtain ⟨a', c', rfl, _⟩ := Qb2 hown; have K3 := K2a.offp (Qdk hgrow) (fun x hx => (hGa.own.lt x hx).1); have hgQ := K3.g0; have HK4 := hidP (K3.set (.slice a' (j + 1) c')); have HG4 := hidP (G3.offp (Offp.of_only ((Only.refl g w3).set 2 (.slice a' (j + 1) c'))) (fun x hx e => by omega)); have hS5 : (fun (w' : World) => w'.cell? ⟨g, 2, none⟩ = some (.slice a j c) /\ w'.cell? ⟨w.heap.size, 0, none⟩ = some (.int .i64 (n : Int))) w2 := ⟨K2.bg.row6.2.2.1, K2.b1.row4.1⟩; have hS6 : (fun (w' : World) => w'.cell? ⟨g, 2, none⟩ = some (.slice a j c) /\ w'.cell? ⟨w.heap.size, 0, none⟩ = some (.int .i64 (n : Int))) (w2.alloc (.cells (Qa3 0 none 0 0 none 0 0 xa (newO (n : Int)).length xc) 110)) := ⟨K2a.bg.row6.2.2.1, K2a.b1.row4.1⟩; have hS7 : (fun (w' : World) => w'.cell? ⟨g, 2, none⟩ = some (.slice a j c) /\ w'.cell? ⟨w.heap.size, 0, none⟩ = some (.int .i64 (n : Int))) w3 := ⟨K3.bg.row6.2.2.1, K3.b1.row4.1⟩; have z2 := K3.bg.row6.2.2.1; have y2 := K3.bg.thaw 2; have HL4 : Hid ((gs ++ [(⟨0, none, 0, [], none, 0, [], xa, xc, newO (n : Int)⟩ : GC)]).length = j + 1) := (by show _ = _; rw [List.length_append, hll]; first | rfl | done); clear K2 K2a K3 G3 hGa hown hgrow hat hAt hxP hxPa gB gBa hF hF' hGp g2 hll hgQ
       refine hK.out _ _ (.inr hS5) ?_
       clear hK K
       try simp only [zX,zY]
       refine Qdb (i := 5) (by kernel_rfl) rfl (fun K hK => ?_)
       simp only [zG]
       go_simp
       refine hK.out _ _ (.inr hS6) ?_
       clear hK K
       try simp only [zX,zY]
       refine Qdb (i := 6) (by kernel_rfl) rfl (fun K hK => ?_)
       simp only [zG]
       rw [if_pos (by rfl)]; refine Qbj _ _ _ (by rfl) _ _ _ (by rfl) (by rfl) hr ?_
       refine hK.out _ _ (.inr hS7) ?_
       clear hK K
       try simp only [zX,zY]
       refine' Qin (i := 7) (v := _) rfl (by kernel_rfl) (by decide) (by kernel_rfl) (by kernel_rfl) (fun _ _ _ h => h) (Or.inl ⟨by rfl, ?hy10⟩) (by assumption) ?rest10
       case hy10 => (intro w hSw; (try dsimp only at hSw); go_simp<;>with_reducible rfl)
       try simp only [zX,zY]
       refine Qdb (i := 8) (by kernel_rfl) rfl (fun K hK => ?_)
       simp only [zG]
       go_simp
       refine hK.out _ _ (.inl rfl) ?_
       clear hK K
       try simp only [zX,zY]
       refine Qj4 (by kernel_rfl) ?_ _
       refine NoPanic.normal ?_
       go_wp2
       exact ⟨⟨j + 1, a', c', _, _, by go_num, by omega, HK4, HG4, HL4⟩, by simp [intOf]; omega⟩
     . obtain rfl : j = 2 := by omega
       obtain ⟨u0, u1, u2, u3, u4, u5⟩ := hKn.out.bg.row6
       have b2 := hKn.out.b2
       obtain ⟨r0, r1, r2, r3, r4, r5⟩ := b2.row6
       have f0 := b2.thaw 0
       have f1 := b2.thaw 1
       have f2 := b2.thaw 2
       have f3 := b2.thaw 3
       have f4 := b2.thaw 4
       have f5 := b2.thaw 5
       have hne : g ≠ w.heap.size + 1 := by have := hKn.out.g0; omega
       go_wp2
       have e6 := (((((b2.setAt 0 (.slice (some ⟨bR, 0, none⟩) n n)).setAt 1 (.slice none 0 0)).setAt 2 (.slice a 2 c)).setAt 3 (.int .i64 0)).setAt 4 (.slice (some ⟨bD, 0, none⟩) 4 4)).setAt 5 (.slice (some ⟨bL, 0, none⟩) 4 4)
       have e6' : Blk _ (w.heap.size + 1) 48 (Qah (some ⟨bR, 0, none⟩) n n none 0 0 a 2 c 0 (some ⟨bD, 0, none⟩) 4 4 (some ⟨bL, 0, none⟩) 4 4) := e6
       obtain ⟨x0, x1, x2, x3, x4, x5⟩ := e6'.row6
       refine bodyPost_ret (v := .agg (Qah (some ⟨bR, 0, none⟩) n n none 0 0 a 2 c 0 (some ⟨bD, 0, none⟩) 4 4 (some ⟨bL, 0, none⟩) 4 4)) (by simp [results, Tryz.results153, go_sem, x0, x1, x2, x3, x4, x5]) rfl ?_
       exact Qj2 rfl hKn.out hG.out hl.out (((((((Offp.refl (fun x => x = w.heap.size + 1) _).set (b := w.heap.size + 1) rfl _ _).set (b := w.heap.size + 1) rfl _ _).set (b := w.heap.size + 1) rfl _ _).set (b := w.heap.size + 1) rfl _ _).set (b := w.heap.size + 1) rfl _ _).set (b := w.heap.size + 1) rfl _ _)
end Go.Proofs.YtenhcjkkpnlbeaaGreatDoor.Gen
namespace Go.Proofs.YtenhcjkkpnlbeaaGreatDoor.Gen
open ChangeShapes WideShapes ChangeAt RowKit Joins Deep Base
theorem Offp.put {B : Nat} {w w1 : World} (h : Offp (fun x => x = B) w w1) (o : Nat) (v : Value) : Offp (fun x => x = B) w (w1.setCell ⟨B, o, none⟩ v) := h.set rfl o v
def Qd7 (b : Bool) : Int := if b then -1 else 0
def Qnj (w w' : World) (e : Ending) (B : Bool) (ro : Int) : Prop := ∃ y : KC, e = .returned (.agg (Qaj 0 (Qd7 B) 0 0 none 0 0 y.rA y.rs.length y.rc y.mA y.ms.length y.mc y.gA y.gs.length y.gc y.time y.dA y.ds.length y.dc y.lA y.ls.length y.lc)) /\ y.p = newK B ro /\ KOwn w' y (fun b => w.heap.size <= b /\ b < w'.heap.size) /\ Below w.heap.size w w'
theorem Qgv (ro wi le ke : Int) (w : World) :
 Calls Tryz.prog 31 #[.agg (Qag ro wi le ke)] w fun e w' => Qnj w w' e (setB ro wi le ke) ro := by
 cases hb : setB ro wi le ke
 . go_enter Tryz.func31, Tryz.ntmps31
   go_wp2_with fail
   refine (Qbp ro wi le ke _).mono ?_
   rw [hb]
   rintro e w1 ⟨rfl, g1⟩
   have B1 : Below w.heap.size w w1 := via0 g1 (Qab (Qab (Below.refl _ _) _) _)
   have p1 := ((Blk.new (w.alloc (.cells (Qag ro wi le ke) 24)) 50 Qbi)).below g1 (by simp)
   rw [World.size_alloc] at p1
   obtain ⟨r0, r1, r2, r3, r4, r5, r6, r7, r8, r9, r10⟩ := p1.row11
   have f0 := p1.thaw 0; have f1 := p1.thaw 1; have f2 := p1.thaw 2; have f3 := p1.thaw 3; have f4 := p1.thaw 4; have f5 := p1.thaw 5
   have f6 := p1.thaw 6; have f7 := p1.thaw 7; have f8 := p1.thaw 8; have f9 := p1.thaw 9; have f10 := p1.thaw 10
   go_wp2_with fail
   refine bodyPost_ret (v := .agg Qbi) (by simp [results, Tryz.results31, go_sem, r0, r1, r2, r3, r4, r5, r6, r7, r8, r9, r10]) rfl ?_
   refine ⟨⟨none, 0, [], none, 0, [], none, 0, [], 0, none, 0, [], none, 0, []⟩, rfl, rfl, ⟨fun _ => 0, .inl rfl, .inl rfl, .inl rfl, .inl rfl, .inl rfl⟩, ?_⟩
   repeat (first | with_reducible exact B1 | refine Qa7 ?_ (Nat.le_succ _) _)
 . go_enter Tryz.func31, Tryz.ntmps31
   go_wp2_with fail
   refine (Qbp ro wi le ke _).mono ?_
   rw [hb]
   rintro e w1 ⟨rfl, g1⟩
   have B1 : Below w.heap.size w w1 := via0 g1 (Qab (Qab (Below.refl _ _) _) _)
   have c1 := ((Blk.new w 24 (Qag ro wi le ke)).alloc (.cells Qbi 50)).below g1 (by simp; omega)
   have p1 := ((Blk.new (w.alloc (.cells (Qag ro wi le ke) 24)) 50 Qbi)).below g1 (by simp)
   rw [World.size_alloc] at p1
   obtain ⟨a0, a1, a2, a3⟩ := c1.row4
   have l1 := c1.lt
   clear g1
   go_wp2_with fail
   refine (Qef ro wi le ke _).mono ?_
   rw [hb]
   rintro e w2 ⟨y, he, hpy, hoy, g2⟩
   simp only [KC.cells] at he
   subst he
   have p2 := p1.below g2 p1.lt
   have B2 : Below w.heap.size w w2 := via0 g2 B1
   have ho : KOwn w2 y (fun b => w.heap.size <= b /\ b < w2.heap.size /\ b ≠ w.heap.size + 1) := hoy.mono (fun b hb => ⟨by have := B1.size; omega, hb.2, by have := p1.lt; omega⟩)
   have Ho := hidP ho
   have Hp := hidP hpy
   obtain ⟨r0, r1, r2, r3, r4, r5, r6, r7, r8, r9, r10⟩ := p2.row11
   have f0 := p2.thaw 0; have f1 := p2.thaw 1; have f2 := p2.thaw 2; have f3 := p2.thaw 3; have f4 := p2.thaw 4; have f5 := p2.thaw 5
   have f6 := p2.thaw 6; have f7 := p2.thaw 7; have f8 := p2.thaw 8; have f9 := p2.thaw 9; have f10 := p2.thaw 10
   have q2 := p2.lt
   clear p1 ho hpy hoy a0 a1 a2 a3 l1 c1 B1
   have HB2 := hidP B2
   clear B2
   go_wp2_with fail
   refine bodyPost_ret (v := .agg (Qaj 0 (-1) 0 0 none 0 0 y.rA y.rs.length y.rc y.mA y.ms.length y.mc y.gA y.gs.length y.gc y.time y.dA y.ds.length y.dc y.lA y.ls.length y.lc)) (by simp [results, Tryz.results31, go_sem, r0, r1, r2, r3, r4, r5, r6, r7, r8, r9, r10]) rfl ?_
   have OO : ∀ W, Offp (fun b => b = w.heap.size + 1) w2 W -> W.heap.size = w2.heap.size -> KOwn W y (fun b => w.heap.size <= b /\ b < W.heap.size) := fun W o hW => (KOwn.offp Ho.out o (fun b hb e => hb.2.2 e)).mono (fun b hb => ⟨hb.1, by rw [hW]; exact hb.2.1⟩)
   refine ⟨y, rfl, Hp.out, OO _ ?_ (by simp), ?_⟩
   . exact Offp.put (Offp.put (Offp.put (Offp.put (Offp.put (Offp.put (Offp.put (Offp.put (Offp.put (Offp.put (Offp.put (Offp.refl _ w2) 0 _) 1 _) 2 _) 3 _) 4 _) 5 _) 6 _) 7 _) 8 _) 9 _) 10 _
   have hb2 := HB2.out
   repeat (first | with_reducible exact hb2 | refine Qa7 ?_ (Nat.le_succ _) _)
theorem Qhd (ro wi le ke : Int) (w : World) :
 Calls Tryz.prog 113 #[.agg (Qag ro wi le ke)] w fun e w' => Qnj w w' e (setB ro wi le ke) ro := by
 cases hb : setB ro wi le ke
 . go_enter Tryz.func113, Tryz.ntmps113
   go_wp2_with fail
   refine (Qcm ro wi le ke _).mono ?_
   rw [hb]
   rintro e w1 ⟨rfl, g1⟩
   have B1 : Below w.heap.size w w1 := via0 g1 (Qab (Qab (Below.refl _ _) _) _)
   have p1 := ((Blk.new (w.alloc (.cells (Qag ro wi le ke) 24)) 50 Qbi)).below g1 (by simp)
   rw [World.size_alloc] at p1
   obtain ⟨r0, r1, r2, r3, r4, r5, r6, r7, r8, r9, r10⟩ := p1.row11
   have f0 := p1.thaw 0; have f1 := p1.thaw 1; have f2 := p1.thaw 2; have f3 := p1.thaw 3; have f4 := p1.thaw 4; have f5 := p1.thaw 5
   have f6 := p1.thaw 6; have f7 := p1.thaw 7; have f8 := p1.thaw 8; have f9 := p1.thaw 9; have f10 := p1.thaw 10
   go_wp2_with fail
   refine bodyPost_ret (v := .agg Qbi) (by simp [results, Tryz.results113, go_sem, r0, r1, r2, r3, r4, r5, r6, r7, r8, r9, r10]) rfl ?_
   refine ⟨⟨none, 0, [], none, 0, [], none, 0, [], 0, none, 0, [], none, 0, []⟩, rfl, rfl, ⟨fun _ => 0, .inl rfl, .inl rfl, .inl rfl, .inl rfl, .inl rfl⟩, ?_⟩
   repeat (first | with_reducible exact B1 | refine Qa7 ?_ (Nat.le_succ _) _)
 . go_enter Tryz.func113, Tryz.ntmps113
   go_wp2_with fail
   refine (Qcm ro wi le ke _).mono ?_
   rw [hb]
   rintro e w1 ⟨rfl, g1⟩
   have B1 : Below w.heap.size w w1 := via0 g1 (Qab (Qab (Below.refl _ _) _) _)
   have c1 := ((Blk.new w 24 (Qag ro wi le ke)).alloc (.cells Qbi 50)).below g1 (by simp; omega)
   have p1 := ((Blk.new (w.alloc (.cells (Qag ro wi le ke) 24)) 50 Qbi)).below g1 (by simp)
   rw [World.size_alloc] at p1
   obtain ⟨a0, a1, a2, a3⟩ := c1.row4
   have l1 := c1.lt
   clear g1
   go_wp2_with fail
   refine (Qhc ro wi le ke _).mono ?_
   rw [hb]
   rintro e w2 ⟨y, he, hpy, hoy, g2⟩
   simp only [KC.cells] at he
   subst he
   have p2 := p1.below g2 p1.lt
   have B2 : Below w.heap.size w w2 := via0 g2 B1
   have ho : KOwn w2 y (fun b => w.heap.size <= b /\ b < w2.heap.size /\ b ≠ w.heap.size + 1) := hoy.mono (fun b hb => ⟨by have := B1.size; omega, hb.2, by have := p1.lt; omega⟩)
   have Ho := hidP ho
   have Hp := hidP hpy
   obtain ⟨r0, r1, r2, r3, r4, r5, r6, r7, r8, r9, r10⟩ := p2.row11
   have f0 := p2.thaw 0; have f1 := p2.thaw 1; have f2 := p2.thaw 2; have f3 := p2.thaw 3; have f4 := p2.thaw 4; have f5 := p2.thaw 5
   have f6 := p2.thaw 6; have f7 := p2.thaw 7; have f8 := p2.thaw 8; have f9 := p2.thaw 9; have f10 := p2.thaw 10
   have q2 := p2.lt
   clear p1 ho hpy hoy a0 a1 a2 a3 l1 c1 B1
   have HB2 := hidP B2
   clear B2
   go_wp2_with fail
   refine bodyPost_ret (v := .agg (Qaj 0 (-1) 0 0 none 0 0 y.rA y.rs.length y.rc y.mA y.ms.length y.mc y.gA y.gs.length y.gc y.time y.dA y.ds.length y.dc y.lA y.ls.length y.lc)) (by simp [results, Tryz.results113, go_sem, r0, r1, r2, r3, r4, r5, r6, r7, r8, r9, r10]) rfl ?_
   have OO : ∀ W, Offp (fun b => b = w.heap.size + 1) w2 W -> W.heap.size = w2.heap.size -> KOwn W y (fun b => w.heap.size <= b /\ b < W.heap.size) := fun W o hW => (KOwn.offp Ho.out o (fun b hb e => hb.2.2 e)).mono (fun b hb => ⟨hb.1, by rw [hW]; exact hb.2.1⟩)
   refine ⟨y, rfl, Hp.out, OO _ ?_ (by simp), ?_⟩
   . exact Offp.put (Offp.put (Offp.put (Offp.put (Offp.put (Offp.put (Offp.put (Offp.put (Offp.put (Offp.put (Offp.put (Offp.refl _ w2) 0 _) 1 _) 2 _) 3 _) 4 _) 5 _) 6 _) 7 _) 8 _) 9 _) 10 _
   have hb2 := HB2.out
   repeat (first | with_reducible exact hb2 | refine Qa7 ?_ (Nat.le_succ _) _)
end Go.Proofs.YtenhcjkkpnlbeaaGreatDoor.Gen
