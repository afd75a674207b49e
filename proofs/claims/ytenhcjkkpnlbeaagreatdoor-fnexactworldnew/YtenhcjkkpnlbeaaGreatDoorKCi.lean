/-
  The program's copy of any keeper, each list in memory of its own. No condition but that its lists have at most 1048576 records.
-/
import Derived.Test.YtenhcjkkpnlbeaaGreatDoorKCp1
import Derived.Deep.CutBlock
set_option linter.unusedVariables false
set_option linter.unusedSimpArgs false
set_option maxRecDepth 100000
set_option maxHeartbeats 8000000
namespace Go.Proofs.YtenhcjkkpnlbeaaGreatDoor.Gen
open ChangeShapes WideShapes ChangeAt RowKit Joins Deep Base
open Items (It)
theorem cpIntsO (A : Option Addr) (cap : Nat) (l : List Int) (hl : l.length <= 1048576) (w : World) (hA : At w A l) :
 Calls Tryz.prog 117 #[.slice A l.length cap] w fun e w' => ∃ (a : Option Addr) (c : Nat), e = .returned (.slice a l.length c) /\ w'.ownsRow w.heap.size 3 1 (.slice a l.length c) l.length (flat l) /\ Below w.heap.size w w' := by
 obtain ⟨v, w1, hr, hown, hgrow, hat⟩ := Qco (P := Tryz.prog) Tryz.underlying28 Qdf rfl (by decide) (by decide) w.heap.size (.slice none 0 0) ([] : List Int) l A cap w (Nat.le_refl _) (World.ownsRow_nil _ _ _ _) hA (by simp; omega)
 simp only [List.length_nil, Nat.zero_add, List.nil_append] at hown
 obtain ⟨a, c, rfl, _⟩ := Qb2 hown
 have HS := hidP hown
 have HG := hidP ((Below.refl w.heap.size w).grown hgrow (Nat.le_refl _) (fun k e => by cases e))
 clear hown hgrow hat hA
 go_enter Tryz.func117, Tryz.ntmps117
 go_wp2_with (at_builtin; refine Qa8 rfl _ _ _ rfl _ _ _ rfl rfl hr ?_)
 go_ret
 exact ⟨a, c, rfl, HS.out, HG.out⟩
theorem Du.call1 {q : Nat} {W w' : World} {v v2 : Value} {l2 : List An} {l : List Int} (h : Du q W (.slice none 0 0) v2 [] l2) (g : Below W.heap.size W w') (o : w'.ownsRow W.heap.size 3 1 v l.length (flat l)) : Du q w' v v2 l l2 :=
 ⟨Qdo o h.q, Qdz h.o2 g, Nat.le_trans h.q g.size⟩
theorem Qhk {α : Type} [Cel α] {pg : Program} {ts t tq : TypeId} {z : Value} {bytes B Q : Nat} {W1 W2 : World} {a : Option Addr} {cp : Nat} {xs : List α} {qs : Array Value} {r : Value} (hu : pg.underlying ts = some (.slice t)) (hinfo : (pg.info? t).map (fun i => (i.zero, i.size, i.bytes)) = some (some z, Cel.k α, bytes)) (hz : z.cells.size = Cel.k α) (hk : 0 < Cel.k α) (hby : bytes <= 1000)
 (own : W1.ownsRow B t (Cel.k α) (.slice a xs.length cp) xs.length (flat xs)) (x : α) (cs : Array Value) (hcs : cs.toList = Cel.cs x) (hx : xs.length <= 2000000)
 (hr : (Builtin.append_ #[ts, ts] ts #[.slice a xs.length cp, .slice (some ⟨W1.heap.size, 0, none⟩) 1 1]).run pg (W1.alloc (.cells cs t)) = .ok r W2) (hQ : Blk (W1.alloc (.cells cs t)) Q tq qs) (hn : ∀ y, (Value.slice a xs.length cp).ownBlock = some y -> y ≠ Q) : Blk W2 Q tq qs := by
 have hX : At (W1.alloc (.cells cs t)) (some ⟨W1.heap.size, 0, none⟩) [x] := by
  refine .inr ⟨_, 0, rfl, by simp, fun j u hu => ?_⟩
  rw [Qce, ← hcs] at hu
  rw [Nat.zero_add]
  exact (Blk.new W1 t cs).cell (by simpa using hu)
 have hB : 0 <= (W1.alloc (.cells cs t)).heap.size := Nat.zero_le _
 obtain ⟨v', W3, hr', hown, hgrow, hob⟩ := Qco (P := pg) hu hinfo hz hk hby 0 (.slice a xs.length cp) xs [x] (some ⟨W1.heap.size, 0, none⟩) 1 _ hB (Qdo (Qdi own (.cells cs t)) (Nat.zero_le _)) hX (by simp; omega)
 simp only [List.length_cons, List.length_nil, Nat.zero_add] at hr'
 rw [hr'] at hr
 cases hr
 exact hQ.offp (Qdk hgrow) (fun e => hn Q e rfl)
theorem Qh7 (rA : Option Addr) (rc : Nat) (rs : List RC) (mA : Option Addr) (mc : Nat) (ms : List MC) (gA : Option Addr) (gc : Nat) (gs : List GC) (time : Int) (dA : Option Addr) (dc : Nat) (ds : List Int) (lA : Option Addr) (lc : Nat) (ls : List An) (hrl : rs.length <= 1048576) (hml : ms.length <= 1048576) (hgl : gs.length <= 1048576) (hdl : ds.length <= 1048576) (hll : ls.length <= 1048576)
 (hri : ∀ y ∈ rs, y.its.length <= 1048576) (hmi : ∀ y ∈ ms, y.ms.length <= 1048576) (hgi : ∀ y ∈ gs, y.m.length <= 1048576 /\ y.b.length <= 1048576 /\ y.o.length <= 1048576) (w : World) (hx : KAt w (⟨rA, rc, rs, mA, mc, ms, gA, gc, gs, time, dA, dc, ds, lA, lc, ls⟩ : KC)) :
 Calls Tryz.prog 79 #[.agg (Qah rA rs.length rc mA ms.length mc gA gs.length gc time dA ds.length dc lA ls.length lc)] w fun e w' => NewK w w' e (⟨rA, rc, rs, mA, mc, ms, gA, gc, gs, time, dA, dc, ds, lA, lc, ls⟩ : KC).p := by
 have HX := hidP hx
 have HD : Hid (At w dA ds) := hx.da
 have HL : Hid (At w lA ls) := hx.la
 have Hri := hidP hri
 have Hmi := hidP hmi
 have Hgi := hidP hgi
 clear hx hri hmi hgi
 have I : Kd w ((w.alloc (.cells (Qah rA rs.length rc mA ms.length mc gA gs.length gc time dA ds.length dc lA ls.length lc) 48)).alloc (.cells Qa9 48)).drew (Qah rA rs.length rc mA ms.length mc gA gs.length gc time dA ds.length dc lA ls.length lc) := ⟨by repeat (first | exact Below.refl _ _ | assumption | refine via0 (by assumption) ?_ | refine Below.drew ?_ | refine Qab ?_ _), (Blk.new w 48 (Qah rA rs.length rc mA ms.length mc gA gs.length gc time dA ds.length dc lA ls.length lc)).alloc _, by have := Blk.new (w.alloc (.cells (Qah rA rs.length rc mA ms.length mc gA gs.length gc time dA ds.length dc lA ls.length lc) 48)) 48 Qa9; rw [World.size_alloc] at this; exact this⟩
 have T := Du.nil (w.heap.size + 2) ((w.alloc (.cells (Qah rA rs.length rc mA ms.length mc gA gs.length gc time dA ds.length dc lA ls.length lc) 48)).alloc (.cells Qa9 48)).drew (by simp)
 go_enter Tryz.func79, Tryz.ntmps79
 go_upto_region 1 with fail
 go_cut [3] from 10 to 18 (fun s wx => ∃ (P : Nat) (x1 x2 : Option Addr) (y1 y2 : Nat), s = .pointer (some ⟨P, 0, none⟩) /\ Kd w wx (Qah rA rs.length rc mA ms.length mc gA gs.length gc time dA ds.length dc lA ls.length lc) /\ Blk wx P 48 (Qah none 0 0 none 0 0 none 0 0 time x1 ds.length y1 x2 ls.length y2) /\ Du (w.heap.size + 2) wx (.slice x1 ds.length y1) (.slice x2 ls.length y2) ds ls /\ w.heap.size + 1 < P)
 case first =>
  refine wp_region_noPanic ?_
  refine wp_region_held_drew (S := fun (w' : World) => w'.cell? ⟨w.heap.size, 3, none⟩ = some (.int .i64 time) /\ w'.cell? ⟨w.heap.size, 4, none⟩ = some (.slice dA ds.length dc) /\ w'.cell? ⟨w.heap.size, 5, none⟩ = some (.slice lA ls.length lc)) (by kernel_rfl) ?_ (fun hH => ?_)
  . exact ⟨I.k.row6.2.2.2.1, I.k.row6.2.2.2.2.1, I.k.row6.2.2.2.2.2⟩
  refine ztk [0,1,2,3,5,6] ?_; repeat (refine ztn (h := ?_); try simp only [zX,zY])
  refine zte ?_
  refine zR2 4 9 (fun K hK => ?_) (fun K hK => ?_)
  focus
   simp only [zG]
   go_simp
   refine (cpIntsO dA dc ds hdl _ (HD.out.below I.bl)).mono ?_; rintro e w1 ⟨x1, y1, rfl, o1, g1⟩; have hq1 := T.q; have T := T.call1 g1 o1; have I := I.below g1; clear g1 o1
   refine hK.out _ _ ⟨I.k.row6.2.2.2.1, I.k.row6.2.2.2.2.1, I.k.row6.2.2.2.2.2⟩ fun hH => ?_; clear hK K; try simp only [zX,zY]
   refine zR2 7 9 (fun K hK => ?_) (fun K hK => ?_)
   focus
    simp only [zG]
    obtain ⟨x2, y2, w2, hr2, T', hk2, hb2⟩ := T.app2 (cap := lc) (HL.out.below I.bl) hll; have T := T'; clear T'; rw [if_pos (by rfl)]; refine Qbj _ _ _ (by rfl) _ _ _ (by rfl) (by rfl) hr2 ?_; have I := I.kept hk2 hb2; clear hr2 hk2 hb2
    refine hK.out _ _ ⟨I.k.row6.2.2.2.1, I.k.row6.2.2.2.2.1, I.k.row6.2.2.2.2.2⟩ fun hH => ?_; clear hK K; try simp only [zX,zY]
    refine zt1 8 ?_; refine ztn (h := ?_); try simp only [zX,zY]
    refine zte ?_
    refine zR1 9 (fun K hK => ?_)
    simp only [zG]
    go_simp
    have hq0 := T.q; have O := T.out (g := w2.heap.size) (by simp); have T := T.alloc (.cells Qa9 48); have I := I.alloc (.cells Qa9 48)
    refine hK.out _ _ ⟨I.k.row6.2.2.2.1, I.k.row6.2.2.2.2.1, I.k.row6.2.2.2.2.2⟩ fun hH => ?_; clear hK K; try simp only [zX,zY]
    have HPl : Hid (w.heap.size + 1 < w2.heap.size) := by show _ < _; first | omega | (have h9 := hq0; simp at h9; omega)
    generalize w2.alloc (.cells Qa9 48) = w3 at *
    generalize w2.heap.size = P3 at *
    obtain ⟨z0, z1, z2, z3, z4, z5⟩ := O.row6
    have f0 := O.thaw 0; have f1 := O.thaw 1; have f2 := O.thaw 2; have f3 := O.thaw 3; have f4 := O.thaw 4; have f5 := O.thaw 5
    have I9 := I.offp (Offp.of_only (Qej w3 (P3) (.slice none 0 0) (.slice none 0 0) (.slice none 0 0) (.int .i64 time) (.slice x1 ds.length y1) (.slice x2 ls.length y2))) (fun x hx => by subst hx; exact HPl.out)
   rotate_left
   focus
    simp only [zG]
    go_simp
    have hq0 := T.q; have O := T.out (g := w1.heap.size) (by simp); have T := T.alloc (.cells Qa9 48); have I := I.alloc (.cells Qa9 48)
    refine hK.out _ _ ⟨I.k.row6.2.2.2.1, I.k.row6.2.2.2.2.1, I.k.row6.2.2.2.2.2⟩ fun hH => ?_; clear hK K; try simp only [zX,zY]
    have HPl : Hid (w.heap.size + 1 < w1.heap.size) := by show _ < _; first | omega | (have h9 := hq0; simp at h9; omega)
    refine zR1 7 (fun K hK => ?_)
    simp only [zG]
    obtain ⟨x2, y2, w2, hr2, T', hk2, hb2⟩ := T.app2 (cap := lc) (HL.out.below I.bl) hll; have T := T'; clear T'; rw [if_pos (by rfl)]; refine Qbj _ _ _ (by rfl) _ _ _ (by rfl) (by rfl) hr2 ?_; have I := I.kept hk2 hb2; have O := hk2 _ _ O; clear hr2 hk2 hb2
    refine hK.out _ _ ⟨I.k.row6.2.2.2.1, I.k.row6.2.2.2.2.1, I.k.row6.2.2.2.2.2⟩ fun hH => ?_; clear hK K; try simp only [zX,zY]
    refine zt1 8 ?_; refine ztn (h := ?_); try simp only [zX,zY]
    refine zte ?_
    obtain ⟨z0, z1, z2, z3, z4, z5⟩ := O.row6
    have f0 := O.thaw 0; have f1 := O.thaw 1; have f2 := O.thaw 2; have f3 := O.thaw 3; have f4 := O.thaw 4; have f5 := O.thaw 5
    have I9 := I.offp (Offp.of_only (Qej w2 (w1.heap.size) (.slice none 0 0) (.slice none 0 0) (.slice none 0 0) (.int .i64 time) (.slice x1 ds.length y1) (.slice x2 ls.length y2))) (fun x hx => by subst hx; exact HPl.out)
  rotate_left 2
  focus
   simp only [zG]
   go_simp
   have hq0 := T.q; have O := T.out (g := w.heap.size + 1 + 1) (by simp); have T := T.alloc (.cells Qa9 48); have I := I.alloc (.cells Qa9 48)
   refine hK.out _ _ ⟨I.k.row6.2.2.2.1, I.k.row6.2.2.2.2.1, I.k.row6.2.2.2.2.2⟩ fun hH => ?_; clear hK K; try simp only [zX,zY]
   have HPl : Hid (w.heap.size + 1 < w.heap.size + 1 + 1) := by show _ < _; first | omega | (have h9 := hq0; simp at h9; omega)
   refine zR1 4 (fun K hK => ?_)
   simp only [zG]
   go_simp
   refine (cpIntsO dA dc ds hdl _ (HD.out.below I.bl)).mono ?_; rintro e w1 ⟨x1, y1, rfl, o1, g1⟩; have hq1 := T.q; have T := T.call1 g1 o1; have I := I.below g1; have O := O.below g1 O.lt; clear g1 o1
   refine hK.out _ _ ⟨I.k.row6.2.2.2.1, I.k.row6.2.2.2.2.1, I.k.row6.2.2.2.2.2⟩ fun hH => ?_; clear hK K; try simp only [zX,zY]
   refine zR1 7 (fun K hK => ?_)
   simp only [zG]
   obtain ⟨x2, y2, w2, hr2, T', hk2, hb2⟩ := T.app2 (cap := lc) (HL.out.below I.bl) hll; have T := T'; clear T'; rw [if_pos (by rfl)]; refine Qbj _ _ _ (by rfl) _ _ _ (by rfl) (by rfl) hr2 ?_; have I := I.kept hk2 hb2; have O := hk2 _ _ O; clear hr2 hk2 hb2
   refine hK.out _ _ ⟨I.k.row6.2.2.2.1, I.k.row6.2.2.2.2.1, I.k.row6.2.2.2.2.2⟩ fun hH => ?_; clear hK K; try simp only [zX,zY]
   refine zt1 8 ?_; refine ztn (h := ?_); try simp only [zX,zY]
   refine zte ?_
   obtain ⟨z0, z1, z2, z3, z4, z5⟩ := O.row6
   have f0 := O.thaw 0; have f1 := O.thaw 1; have f2 := O.thaw 2; have f3 := O.thaw 3; have f4 := O.thaw 4; have f5 := O.thaw 5
   have I9 := I.offp (Offp.of_only (Qej w2 (w.heap.size + 1 + 1) (.slice none 0 0) (.slice none 0 0) (.slice none 0 0) (.int .i64 time) (.slice x1 ds.length y1) (.slice x2 ls.length y2))) (fun x hx => by subst hx; exact HPl.out)
  all_goals
   have O9 := blk_putK O (.slice none 0 0) (.slice none 0 0) (.slice none 0 0) (.int .i64 time) (.slice x1 ds.length y1) (.slice x2 ls.length y2)
   have T9 := Du.putK T O (.slice none 0 0) (.slice none 0 0) (.slice none 0 0) (.int .i64 time) (.slice x1 ds.length y1) (.slice x2 ls.length y2)
   clear I T
   refine zR1 10 (fun K hK => ?_)
   simp only [zG]
   go_simp
   refine hK.out _ _ ⟨I9.k.row6.2.2.2.1, I9.k.row6.2.2.2.2.1, I9.k.row6.2.2.2.2.2⟩ fun hH => ?_; clear hK K; try simp only [zX,zY]
   refine zdn ?_
   go_wp2_with fail
   go_meet
   exact ⟨_, _, _, _, _, rfl, I9, O9, T9, HPl.out⟩
 case rest =>
  obtain ⟨P, zA, vA, zc, vc, rfl, I0, O0, T0, hP0⟩ := hcut
  clear I T
  have hs0 : Hid (P < wc.heap.size /\ w.heap.size + 2 <= wc.heap.size) := ⟨O0.lt, T0.q⟩
  have KS0 : Hid (KP (α := RC) rowP 139 (fun V => Du (w.heap.size + 2) V (.slice zA ds.length zc) (.slice vA ls.length vc) ds ls) wc.heap.size w wc (Qah rA rs.length rc mA ms.length mc gA gs.length gc time dA ds.length dc lA ls.length lc) P (Qah none (List.length ([] : List RC)) 0 none 0 0 none 0 0 time zA ds.length zc vA ls.length vc) none 0 ([] : List RC)) := ⟨I0, O0, hP0, O0.lt, GU.start (Nat.le_refl _) (Nat.le_refl _), T0, du_stay T0 O0⟩
  have HZ0 : Hid ((∀ x, (Value.slice zA ds.length zc).ownBlock = some x -> x < wc.heap.size) /\ ∀ x, (Value.slice vA ls.length vc).ownBlock = some x -> x < wc.heap.size) := ⟨fun x hx => (T0.o1.lt x hx).2, fun x hx => (T0.o2.lt x hx).2⟩
  clear I0 O0 T0
  generalize hs_ : wc.heap.size = s0 at KS0 hs0 HZ0
  clear hs_
  have KS : Hid (KP (α := RC) rowP 139 (fun V => Du (w.heap.size + 2) V (.slice zA ds.length zc) (.slice vA ls.length vc) ds ls) s0 w wc (Qah rA rs.length rc mA ms.length mc gA gs.length gc time dA ds.length dc lA ls.length lc) P (Qah none (List.length ([] : List RC)) 0 none 0 0 none 0 0 time zA ds.length zc vA ls.length vc) none 0 ([] : List RC)) := KS0
  clear KS0
  obtain ⟨c0, c1, c2, c3, c4, c5⟩ := KS.out.kd.k.row6
  have qk := KS.out.kd.k.lt
  go_wp2
  clear c0 c1 c2 c3 c4 c5 qk
  go_loopw [22] (fun v W => ∃ (n cp : Nat) (a : Option Addr) (xs : List RC), v = .int .i64 (n : Int) /\ n <= rs.length /\ Hid (xs.length = n) /\ Hid (KP (α := RC) rowP 139 (fun V => Du (w.heap.size + 2) V (.slice zA ds.length zc) (.slice vA ls.length vc) ds ls) s0 w W (Qah rA rs.length rc mA ms.length mc gA gs.length gc time dA ds.length dc lA ls.length lc) P (Qah a (List.length xs) cp none 0 0 none 0 0 time zA ds.length zc vA ls.length vc) a cp xs) /\ Hid (xs.map RC.p = (rs.take n).map RC.p)) (fun v _ => rs.length - (intOf v).toNat)
  case atStart => exact ⟨0, 0, none, [], rfl, by omega, rfl, KS, by show _ = _; simp⟩
  case round =>
   clear KS
   obtain ⟨n, cp, a, xs, rfl, hn, hxn, K, hM⟩ := hrel
   by_cases hlt : n < rs.length
   . obtain ⟨bb, oo, rfl, hbs, hIn⟩ : ∃ b o, rA = some ⟨b, o, none⟩ /\ b < w.heap.size /\ In w b o rs := by
      rcases (show At w rA rs from HX.out.ra) with h | h
      . subst h; simp at hlt
      . exact h
     have hym := Hri.out _ (List.getElem_mem hlt)
     have hAy := HX.out.re _ (List.getElem_mem hlt)
     have hTk : Hid ((rs.take (n + 1)).map RC.p = (rs.take n).map RC.p ++ [rs[n].p]) := by show _ = _; rw [List.take_succ_eq_append_getElem hlt, List.map_append]; rfl
     have hce := (hIn.below hbs K.out.kd.bl).getRC n hlt
     generalize rs[n] = y at hym hAy hTk hce
     obtain ⟨y0, y1, yA, yc, ym⟩ := y
     simp only at hym hAy hce
     have HAy := hidP hAy
     have hxl : Hid (xs.length <= 2000000) := by show _ <= _; have := hxn.out; omega
     have hi0 : (0 : Int) <= (n : Int) := by omega
     have hi1 : (n : Int) < (rs.length : Int) := by omega
     have B1 := Blk.new wr 139 (Qay y0 y1 yA ym.length yc)
     have G0 := Qab (Below.refl _ wr) (.cells (Qay y0 y1 yA ym.length yc) 139)
     have hOw : Hid (∀ y, (Value.slice a (List.length xs) cp).ownBlock = some y -> y ≠ wr.heap.size) := fun y hy => by have := (K.out.gu.own.lt y hy).2; omega
     have KD := hidP ((K.out.below Qb1 G0).drew Qb1)
     have BD := hidP B1.drew
     have mk : ∀ W : World, Blk W P 48 (Qah a (List.length xs) cp none 0 0 none 0 0 time zA ds.length zc vA ls.length vc) -> Blk W wr.heap.size 139 (Qay y0 y1 yA ym.length yc) -> (fun (W : World) => W.cell? ⟨P, 0, none⟩ = some (.slice a (List.length xs) cp) /\ W.cell? ⟨wr.heap.size, 0, none⟩ = some (.int .i64 y0) /\ W.cell? ⟨wr.heap.size, 1, none⟩ = some (.int .i64 y1) /\ W.cell? ⟨wr.heap.size, 2, none⟩ = some (.slice yA ym.length yc)) W := fun W hb hk => ⟨hb.cell (i := 0) rfl, hk.row3⟩
     have hH := mk _ KD.out.box BD.out
     have MkS := hidP mk
     obtain ⟨d0, d1, d2⟩ := hce
     have qb : bb < wr.heap.size := Nat.lt_of_lt_of_le hbs K.out.kd.bl.size
     clear mk hAy K B1 G0
     go_wp2_with fail
     clear d0 d1 d2 qb
     refine wp_region_noPanic ?_
     refine Qd4 7 (fun (W : World) => W.cell? ⟨P, 0, none⟩ = some (.slice a (List.length xs) cp) /\ W.cell? ⟨wr.heap.size, 0, none⟩ = some (.int .i64 y0) /\ W.cell? ⟨wr.heap.size, 1, none⟩ = some (.int .i64 y1) /\ W.cell? ⟨wr.heap.size, 2, none⟩ = some (.slice yA ym.length yc)) (by kernel_rfl) ?_
     refine zpk [0,1,2] ?_; repeat (refine zpn (h := ?_); try simp only [zX,zY])
     refine zpe ?_
     refine Qbo (i := 3) (by kernel_rfl) rfl (fun K hK => ?_)
     simp only [zG]
     go_simp
     refine (Items.copied_any y0 y1 yA yc ym hym _ (HAy.out.below KD.out.kd.bl)).mono ?_
     rintro e v1w ⟨v1, rfl, ho1, g1⟩
     obtain ⟨b1, e1, rfl, _⟩ := Qb2 ho1
     obtain ⟨a2, c2', X, hr1, bx, dx, F⟩ := KD.out.round Qb1 (pg := Tryz.prog) (z := .agg Qjc) Tryz.underlying43 infoRC rfl (by decide) (by decide) g1 (⟨y0, y1, b1, e1, ym⟩ : RC) (Qfg (α := It) ho1) (Qay y0 y1 b1 ym.length e1) rfl hxl.out 0
     have K1 := KD.out.below Qb1 g1
     have Q1 := BD.out.below g1 BD.out.lt
     have T1 := MkS.out v1w K1.box Q1
     have T2 := MkS.out (v1w.alloc (.cells (Qay y0 y1 b1 ym.length e1) 139)) (K1.box.alloc _) (Q1.alloc _)
     have T3 := MkS.out X bx (Qhk (pg := Tryz.prog) (z := .agg Qjc) Tryz.underlying43 infoRC rfl (by decide) (by decide) K1.gu.own (⟨y0, y1, b1, e1, ym⟩ : RC) (Qay y0 y1 b1 ym.length e1) rfl hxl.out hr1 (Q1.alloc _) hOw.out)
     have fX := bx.thaw 0
     have hr1' := hidP hr1
     have F' : Hid (KP (α := RC) rowP 139 (fun V => Du (w.heap.size + 2) V (.slice zA ds.length zc) (.slice vA ls.length vc) ds ls) s0 w (X.setCell ⟨P, 0, none⟩ (.slice a2 (xs.length + 1) c2')) (Qah (some ⟨bb, oo, none⟩) rs.length rc mA ms.length mc gA gs.length gc time dA ds.length dc lA ls.length lc) P (Qah a2 (List.length (xs ++ [(⟨y0, y1, b1, e1, ym⟩ : RC)])) c2' none 0 0 none 0 0 time zA ds.length zc vA ls.length vc) a2 c2' (xs ++ [(⟨y0, y1, b1, e1, ym⟩ : RC)])) := by
      show KP _ _ _ _ _ _ _ _ _ _ _ _
      rw [List.length_append]
      exact F
     have hM' : Hid ((xs ++ [(⟨y0, y1, b1, e1, ym⟩ : RC)]).map RC.p = (rs.take (n + 1)).map RC.p) := by show _ = _; rw [hTk.out, List.map_append, hM.out]; rfl
     have hxn' : Hid ((xs ++ [(⟨y0, y1, b1, e1, ym⟩ : RC)]).length = n + 1) := by show _ = _; have := hxn.out; simp; omega
     clear F hr1 K1 bx dx ho1 g1 Q1
     refine hK.out _ _ (Or.inr T1) ?_
     clear hK K
     try simp only [zX,zY]
     refine Qbo (i := 4) (by kernel_rfl) rfl (fun K hK => ?_)
     simp only [zG]
     go_simp
     refine hK.out _ _ (Or.inr T2) ?_
     clear hK K
     try simp only [zX,zY]
     refine Qbo (i := 5) (by kernel_rfl) rfl (fun K hK => ?_)
     simp only [zG]
     rw [if_pos (by rfl)]; refine Qbj _ _ _ (by rfl) _ _ _ (by rfl) (by rfl) hr1'.out ?_
     refine hK.out _ _ (Or.inr T3) ?_
     clear hK K
     try simp only [zX,zY]
     refine zp1 6 ?_; refine zpn (h := ?_); try simp only [zX,zY]
     refine zpe ?_
     obtain ⟨t0, t1⟩ := T3
     refine Qbo (i := 7) (by kernel_rfl) rfl (fun K hK => ?_)
     simp only [zG]
     go_simp
     refine hK.out _ _ (Or.inl rfl) ?_
     clear hK K
     try simp only [zX,zY]
     refine Qfe (by kernel_rfl) ?_ _
     refine NoPanic.normal ?_
     clear T1 T2 t0 t1 fX hr1' hH MkS KD BD HAy hOw
     go_wp2
     exact ⟨⟨n + 1, c2', a2, xs ++ [(⟨y0, y1, b1, e1, ym⟩ : RC)], by go_num, by omega, hxn', F', hM'⟩, by simp [intOf]; omega⟩
   . obtain rfl : n = rs.length := by omega
     have hM1 : Hid (xs.map RC.p = rs.map RC.p) := by show _ = _; rw [hM.out, List.take_of_length_le (Nat.le_refl _)]
     have hs1 := hidP K.out.gu.hB
     have K1 := hidP (K.out.next (β := MC) (Q := makP) (u := 143) Qb1)
     have HM1 := hM1
     clear K hM hM1 hxn
     generalize hs_ : wr.heap.size = s1 at K1 hs1
     clear hs_
     have KS : Hid (KP (α := MC) makP 143 (fun V => (fun V => Du (w.heap.size + 2) V (.slice zA ds.length zc) (.slice vA ls.length vc) ds ls) V /\ Own rowP V a xs (fun b => s0 <= b /\ b < s1)) s1 w wr (Qah rA rs.length rc mA ms.length mc gA gs.length gc time dA ds.length dc lA ls.length lc) P (Qah a (List.length xs) cp none (List.length ([] : List MC)) 0 none 0 0 time zA ds.length zc vA ls.length vc) none 0 ([] : List MC)) := K1
     generalize a = pA at *
     generalize cp = pc at *
     generalize xs = ps at *
     clear K1
     obtain ⟨c0, c1, c2, c3, c4, c5⟩ := KS.out.kd.k.row6
     have qk := KS.out.kd.k.lt
     go_wp2
     clear c0 c1 c2 c3 c4 c5 qk
     go_loopw [37] (fun v W => ∃ (n cp : Nat) (a : Option Addr) (xs : List MC), v = .int .i64 (n : Int) /\ n <= ms.length /\ Hid (xs.length = n) /\ Hid (KP (α := MC) makP 143 (fun V => (fun V => Du (w.heap.size + 2) V (.slice zA ds.length zc) (.slice vA ls.length vc) ds ls) V /\ Own rowP V pA ps (fun b => s0 <= b /\ b < s1)) s1 w W (Qah rA rs.length rc mA ms.length mc gA gs.length gc time dA ds.length dc lA ls.length lc) P (Qah pA (List.length ps) pc a (List.length xs) cp none 0 0 time zA ds.length zc vA ls.length vc) a cp xs) /\ Hid (xs.map MC.p = (ms.take n).map MC.p)) (fun v _ => ms.length - (intOf v).toNat)
     case atStart => exact ⟨0, 0, none, [], rfl, by omega, rfl, KS, by show _ = _; simp⟩
     case round =>
      clear KS
      obtain ⟨n, cp, a, xs, rfl, hn, hxn, K, hM⟩ := hrel
      by_cases hlt : n < ms.length
      . obtain ⟨bb, oo, rfl, hbs, hIn⟩ : ∃ b o, mA = some ⟨b, o, none⟩ /\ b < w.heap.size /\ In w b o ms := by
         rcases (show At w mA ms from HX.out.ma) with h | h
         . subst h; simp at hlt
         . exact h
        have hym := Hmi.out _ (List.getElem_mem hlt)
        have hAy := HX.out.me _ (List.getElem_mem hlt)
        have hTk : Hid ((ms.take (n + 1)).map MC.p = (ms.take n).map MC.p ++ [ms[n].p]) := by show _ = _; rw [List.take_succ_eq_append_getElem hlt, List.map_append]; rfl
        have hce := (hIn.below hbs K.out.kd.bl).getMC n hlt
        generalize ms[n] = y at hym hAy hTk hce
        obtain ⟨y0, y1, y2, y3, yA, yc, ym⟩ := y
        simp only at hym hAy hce
        have HAy := hidP hAy
        have hxl : Hid (xs.length <= 2000000) := by show _ <= _; have := hxn.out; omega
        have hi0 : (0 : Int) <= (n : Int) := by omega
        have hi1 : (n : Int) < (ms.length : Int) := by omega
        have B1 := Blk.new wr 143 (Qbb y0 y1 y2 y3 yA ym.length yc)
        have G0 := Qab (Below.refl _ wr) (.cells (Qbb y0 y1 y2 y3 yA ym.length yc) 143)
        have hOw : Hid (∀ y, (Value.slice a (List.length xs) cp).ownBlock = some y -> y ≠ wr.heap.size) := fun y hy => by have := (K.out.gu.own.lt y hy).2; omega
        have KD := hidP ((K.out.below Qbs G0).drew Qbs)
        have BD := hidP B1.drew
        have mk : ∀ W : World, Blk W P 48 (Qah pA (List.length ps) pc a (List.length xs) cp none 0 0 time zA ds.length zc vA ls.length vc) -> Blk W wr.heap.size 143 (Qbb y0 y1 y2 y3 yA ym.length yc) -> (fun (W : World) => W.cell? ⟨P, 1, none⟩ = some (.slice a (List.length xs) cp) /\ W.cell? ⟨wr.heap.size, 0, none⟩ = some (.int .i64 y0) /\ W.cell? ⟨wr.heap.size, 1, none⟩ = some (.int .i64 y1) /\ W.cell? ⟨wr.heap.size, 2, none⟩ = some (.int .i64 y2) /\ W.cell? ⟨wr.heap.size, 3, none⟩ = some (.int .i64 y3) /\ W.cell? ⟨wr.heap.size, 4, none⟩ = some (.slice yA ym.length yc)) W := fun W hb hk => ⟨hb.cell (i := 1) rfl, hk.row5⟩
        have hH := mk _ KD.out.box BD.out
        have MkS := hidP mk
        obtain ⟨d0, d1, d2, d3, d4⟩ := hce
        have qb : bb < wr.heap.size := Nat.lt_of_lt_of_le hbs K.out.kd.bl.size
        clear mk hAy K B1 G0
        go_wp2_with fail
        clear d0 d1 d2 d3 d4 qb
        refine wp_region_noPanic ?_
        refine Qd4 7 (fun (W : World) => W.cell? ⟨P, 1, none⟩ = some (.slice a (List.length xs) cp) /\ W.cell? ⟨wr.heap.size, 0, none⟩ = some (.int .i64 y0) /\ W.cell? ⟨wr.heap.size, 1, none⟩ = some (.int .i64 y1) /\ W.cell? ⟨wr.heap.size, 2, none⟩ = some (.int .i64 y2) /\ W.cell? ⟨wr.heap.size, 3, none⟩ = some (.int .i64 y3) /\ W.cell? ⟨wr.heap.size, 4, none⟩ = some (.slice yA ym.length yc)) (by kernel_rfl) ?_
        refine zpk [0,1,2] ?_; repeat (refine zpn (h := ?_); try simp only [zX,zY])
        refine zpe ?_
        refine Qbo (i := 3) (by kernel_rfl) rfl (fun K hK => ?_)
        simp only [zG]
        go_simp
        refine (Qib y0 y1 y2 y3 yA yc ym hym _ (HAy.out.below KD.out.kd.bl)).mono ?_
        rintro e v1w ⟨v1, rfl, ho1, g1⟩
        obtain ⟨b1, e1, rfl, _⟩ := Qb2 ho1
        obtain ⟨a2, c2', X, hr1, bx, dx, F⟩ := KD.out.round Qbs (pg := Tryz.prog) (z := .agg Qfb) Tryz.underlying44 infoMC rfl (by decide) (by decide) g1 (⟨y0, y1, y2, y3, b1, e1, ym⟩ : MC) (Qfg (α := Mk) ho1) (Qbb y0 y1 y2 y3 b1 ym.length e1) rfl hxl.out 1
        have K1 := KD.out.below Qbs g1
        have Q1 := BD.out.below g1 BD.out.lt
        have T1 := MkS.out v1w K1.box Q1
        have T2 := MkS.out (v1w.alloc (.cells (Qbb y0 y1 y2 y3 b1 ym.length e1) 143)) (K1.box.alloc _) (Q1.alloc _)
        have T3 := MkS.out X bx (Qhk (pg := Tryz.prog) (z := .agg Qfb) Tryz.underlying44 infoMC rfl (by decide) (by decide) K1.gu.own (⟨y0, y1, y2, y3, b1, e1, ym⟩ : MC) (Qbb y0 y1 y2 y3 b1 ym.length e1) rfl hxl.out hr1 (Q1.alloc _) hOw.out)
        have fX := bx.thaw 1
        have hr1' := hidP hr1
        have F' : Hid (KP (α := MC) makP 143 (fun V => (fun V => Du (w.heap.size + 2) V (.slice zA ds.length zc) (.slice vA ls.length vc) ds ls) V /\ Own rowP V pA ps (fun b => s0 <= b /\ b < s1)) s1 w (X.setCell ⟨P, 1, none⟩ (.slice a2 (xs.length + 1) c2')) (Qah rA rs.length rc (some ⟨bb, oo, none⟩) ms.length mc gA gs.length gc time dA ds.length dc lA ls.length lc) P (Qah pA (List.length ps) pc a2 (List.length (xs ++ [(⟨y0, y1, y2, y3, b1, e1, ym⟩ : MC)])) c2' none 0 0 time zA ds.length zc vA ls.length vc) a2 c2' (xs ++ [(⟨y0, y1, y2, y3, b1, e1, ym⟩ : MC)])) := by
         show KP _ _ _ _ _ _ _ _ _ _ _ _
         rw [List.length_append]
         exact F
        have hM' : Hid ((xs ++ [(⟨y0, y1, y2, y3, b1, e1, ym⟩ : MC)]).map MC.p = (ms.take (n + 1)).map MC.p) := by show _ = _; rw [hTk.out, List.map_append, hM.out]; rfl
        have hxn' : Hid ((xs ++ [(⟨y0, y1, y2, y3, b1, e1, ym⟩ : MC)]).length = n + 1) := by show _ = _; have := hxn.out; simp; omega
        clear F hr1 K1 bx dx ho1 g1 Q1
        refine hK.out _ _ (Or.inr T1) ?_
        clear hK K
        try simp only [zX,zY]
        refine Qbo (i := 4) (by kernel_rfl) rfl (fun K hK => ?_)
        simp only [zG]
        go_simp
        refine hK.out _ _ (Or.inr T2) ?_
        clear hK K
        try simp only [zX,zY]
        refine Qbo (i := 5) (by kernel_rfl) rfl (fun K hK => ?_)
        simp only [zG]
        rw [if_pos (by rfl)]; refine Qbj _ _ _ (by rfl) _ _ _ (by rfl) (by rfl) hr1'.out ?_
        refine hK.out _ _ (Or.inr T3) ?_
        clear hK K
        try simp only [zX,zY]
        refine zp1 6 ?_; refine zpn (h := ?_); try simp only [zX,zY]
        refine zpe ?_
        obtain ⟨t0, t1⟩ := T3
        refine Qbo (i := 7) (by kernel_rfl) rfl (fun K hK => ?_)
        simp only [zG]
        go_simp
        refine hK.out _ _ (Or.inl rfl) ?_
        clear hK K
        try simp only [zX,zY]
        refine Qfe (by kernel_rfl) ?_ _
        refine NoPanic.normal ?_
        clear T1 T2 t0 t1 fX hr1' hH MkS KD BD HAy hOw
        go_wp2
        exact ⟨⟨n + 1, c2', a2, xs ++ [(⟨y0, y1, y2, y3, b1, e1, ym⟩ : MC)], by go_num, by omega, hxn', F', hM'⟩, by simp [intOf]; omega⟩
      . obtain rfl : n = ms.length := by omega
        have hM1 : Hid (xs.map MC.p = ms.map MC.p) := by show _ = _; rw [hM.out, List.take_of_length_le (Nat.le_refl _)]
        have hs2 := hidP K.out.gu.hB
        have K1 := hidP (K.out.next (β := GC) (Q := grpP) (u := 110) Qbs)
        have HM2 := hM1
        clear K hM hM1 hxn
        generalize hs_ : wr.heap.size = s2 at K1 hs2
        clear hs_
        have KS : Hid (KP (α := GC) grpP 110 (fun V => ((fun V => Du (w.heap.size + 2) V (.slice zA ds.length zc) (.slice vA ls.length vc) ds ls) V /\ Own rowP V pA ps (fun b => s0 <= b /\ b < s1)) /\ Own makP V a xs (fun b => s1 <= b /\ b < s2)) s2 w wr (Qah rA rs.length rc mA ms.length mc gA gs.length gc time dA ds.length dc lA ls.length lc) P (Qah pA (List.length ps) pc a (List.length xs) cp none (List.length ([] : List GC)) 0 time zA ds.length zc vA ls.length vc) none 0 ([] : List GC)) := K1
        generalize a = qA at *
        generalize cp = qc at *
        generalize xs = qs at *
        clear K1
        obtain ⟨c0, c1, c2, c3, c4, c5⟩ := KS.out.kd.k.row6
        have qk := KS.out.kd.k.lt
        go_wp2
        clear c0 c1 c2 c3 c4 c5 qk
        go_loopw [52] (fun v W => ∃ (n cp : Nat) (a : Option Addr) (xs : List GC), v = .int .i64 (n : Int) /\ n <= gs.length /\ Hid (xs.length = n) /\ Hid (KP (α := GC) grpP 110 (fun V => ((fun V => Du (w.heap.size + 2) V (.slice zA ds.length zc) (.slice vA ls.length vc) ds ls) V /\ Own rowP V pA ps (fun b => s0 <= b /\ b < s1)) /\ Own makP V qA qs (fun b => s1 <= b /\ b < s2)) s2 w W (Qah rA rs.length rc mA ms.length mc gA gs.length gc time dA ds.length dc lA ls.length lc) P (Qah pA (List.length ps) pc qA (List.length qs) qc a (List.length xs) cp time zA ds.length zc vA ls.length vc) a cp xs) /\ Hid (xs.map GC.p = (gs.take n).map GC.p)) (fun v _ => gs.length - (intOf v).toNat)
        case atStart => exact ⟨0, 0, none, [], rfl, by omega, rfl, KS, by show _ = _; simp⟩
        case round =>
         clear KS
         obtain ⟨n, cp, a, xs, rfl, hn, hxn, K, hM⟩ := hrel
         by_cases hlt : n < gs.length
         . obtain ⟨bb, oo, rfl, hbs, hIn⟩ : ∃ b o, gA = some ⟨b, o, none⟩ /\ b < w.heap.size /\ In w b o gs := by
            rcases (show At w gA gs from HX.out.ga) with h | h
            . subst h; simp at hlt
            . exact h
           have hym := Hgi.out _ (List.getElem_mem hlt)
           have hAy := HX.out.ge _ (List.getElem_mem hlt)
           have hTk : Hid ((gs.take (n + 1)).map GC.p = (gs.take n).map GC.p ++ [gs[n].p]) := by show _ = _; rw [List.take_succ_eq_append_getElem hlt, List.map_append]; rfl
           have hce := (hIn.below hbs K.out.kd.bl).getGC n hlt
           generalize gs[n] = y at hym hAy hTk hce
           obtain ⟨y0, yA, yc, ym, yB, yd, yb, yC, ye, yo⟩ := y
           simp only at hym hAy hce
           have HAy := hidP hAy
           have hxl : Hid (xs.length <= 2000000) := by show _ <= _; have := hxn.out; omega
           have hi0 : (0 : Int) <= (n : Int) := by omega
           have hi1 : (n : Int) < (gs.length : Int) := by omega
           have B1 := Blk.new wr 110 (Qa3 y0 yA ym.length yc yB yb.length yd yC yo.length ye)
           have G0 := Qab (Below.refl _ wr) (.cells (Qa3 y0 yA ym.length yc yB yb.length yd yC yo.length ye) 110)
           have hOw : Hid (∀ y, (Value.slice a (List.length xs) cp).ownBlock = some y -> y ≠ wr.heap.size) := fun y hy => by have := (K.out.gu.own.lt y hy).2; omega
           have KD := hidP ((K.out.below Qbd G0).drew Qbd)
           have BD := hidP B1.drew
           have mk : ∀ W : World, Blk W P 48 (Qah pA (List.length ps) pc qA (List.length qs) qc a (List.length xs) cp time zA ds.length zc vA ls.length vc) -> Blk W wr.heap.size 110 (Qa3 y0 yA ym.length yc yB yb.length yd yC yo.length ye) -> (fun (W : World) => W.cell? ⟨P, 2, none⟩ = some (.slice a (List.length xs) cp) /\ W.cell? ⟨wr.heap.size, 0, none⟩ = some (.int .i64 y0) /\ W.cell? ⟨wr.heap.size, 1, none⟩ = some (.slice yA ym.length yc) /\ W.cell? ⟨wr.heap.size, 2, none⟩ = some (.slice yB yb.length yd) /\ W.cell? ⟨wr.heap.size, 3, none⟩ = some (.slice yC yo.length ye)) W := fun W hb hk => ⟨hb.cell (i := 2) rfl, hk.row4⟩
           have hH := mk _ KD.out.box BD.out
           have MkS := hidP mk
           obtain ⟨d0, d1, d2, d3⟩ := hce
           have qb : bb < wr.heap.size := Nat.lt_of_lt_of_le hbs K.out.kd.bl.size
           clear mk hAy K B1 G0
           go_wp2_with fail
           clear d0 d1 d2 d3 qb
           refine wp_region_noPanic ?_
           refine Qd4 7 (fun (W : World) => W.cell? ⟨P, 2, none⟩ = some (.slice a (List.length xs) cp) /\ W.cell? ⟨wr.heap.size, 0, none⟩ = some (.int .i64 y0) /\ W.cell? ⟨wr.heap.size, 1, none⟩ = some (.slice yA ym.length yc) /\ W.cell? ⟨wr.heap.size, 2, none⟩ = some (.slice yB yb.length yd) /\ W.cell? ⟨wr.heap.size, 3, none⟩ = some (.slice yC yo.length ye)) (by kernel_rfl) ?_
           refine zpk [0,1,2] ?_; repeat (refine zpn (h := ?_); try simp only [zX,zY])
           refine zpe ?_
           refine Qbo (i := 3) (by kernel_rfl) rfl (fun K hK => ?_)
           simp only [zG]
           go_simp
           refine (Qji y0 yA yB yC yc yd ye ym yb yo hym.1 hym.2.1 hym.2.2 _ (HAy.out.1.below KD.out.kd.bl) (HAy.out.2.1.below KD.out.kd.bl) (HAy.out.2.2.below KD.out.kd.bl)).mono ?_
           rintro e v1w ⟨b1, e1, b2, e2, b3, e3, rfl, g1, ho1⟩
           skip
           obtain ⟨a2, c2', X, hr1, bx, dx, F⟩ := KD.out.round Qbd (pg := Tryz.prog) (z := .agg Qg8) Tryz.underlying45 infoGC rfl (by decide) (by decide) g1 (⟨y0, b1, e1, ym, b2, e2, yb, b3, e3, yo⟩ : GC) (ho1) (Qa3 y0 b1 ym.length e1 b2 yb.length e2 b3 yo.length e3) rfl hxl.out 2
           have K1 := KD.out.below Qbd g1
           have Q1 := BD.out.below g1 BD.out.lt
           have T1 := MkS.out v1w K1.box Q1
           have T2 := MkS.out (v1w.alloc (.cells (Qa3 y0 b1 ym.length e1 b2 yb.length e2 b3 yo.length e3) 110)) (K1.box.alloc _) (Q1.alloc _)
           have T3 := MkS.out X bx (Qhk (pg := Tryz.prog) (z := .agg Qg8) Tryz.underlying45 infoGC rfl (by decide) (by decide) K1.gu.own (⟨y0, b1, e1, ym, b2, e2, yb, b3, e3, yo⟩ : GC) (Qa3 y0 b1 ym.length e1 b2 yb.length e2 b3 yo.length e3) rfl hxl.out hr1 (Q1.alloc _) hOw.out)
           have fX := bx.thaw 2
           have hr1' := hidP hr1
           have F' : Hid (KP (α := GC) grpP 110 (fun V => ((fun V => Du (w.heap.size + 2) V (.slice zA ds.length zc) (.slice vA ls.length vc) ds ls) V /\ Own rowP V pA ps (fun b => s0 <= b /\ b < s1)) /\ Own makP V qA qs (fun b => s1 <= b /\ b < s2)) s2 w (X.setCell ⟨P, 2, none⟩ (.slice a2 (xs.length + 1) c2')) (Qah rA rs.length rc mA ms.length mc (some ⟨bb, oo, none⟩) gs.length gc time dA ds.length dc lA ls.length lc) P (Qah pA (List.length ps) pc qA (List.length qs) qc a2 (List.length (xs ++ [(⟨y0, b1, e1, ym, b2, e2, yb, b3, e3, yo⟩ : GC)])) c2' time zA ds.length zc vA ls.length vc) a2 c2' (xs ++ [(⟨y0, b1, e1, ym, b2, e2, yb, b3, e3, yo⟩ : GC)])) := by
            show KP _ _ _ _ _ _ _ _ _ _ _ _
            rw [List.length_append]
            exact F
           have hM' : Hid ((xs ++ [(⟨y0, b1, e1, ym, b2, e2, yb, b3, e3, yo⟩ : GC)]).map GC.p = (gs.take (n + 1)).map GC.p) := by show _ = _; rw [hTk.out, List.map_append, hM.out]; rfl
           have hxn' : Hid ((xs ++ [(⟨y0, b1, e1, ym, b2, e2, yb, b3, e3, yo⟩ : GC)]).length = n + 1) := by show _ = _; have := hxn.out; simp; omega
           clear F hr1 K1 bx dx ho1 g1 Q1
           refine hK.out _ _ (Or.inr T1) ?_
           clear hK K
           try simp only [zX,zY]
           refine Qbo (i := 4) (by kernel_rfl) rfl (fun K hK => ?_)
           simp only [zG]
           go_simp
           refine hK.out _ _ (Or.inr T2) ?_
           clear hK K
           try simp only [zX,zY]
           refine Qbo (i := 5) (by kernel_rfl) rfl (fun K hK => ?_)
           simp only [zG]
           rw [if_pos (by rfl)]; refine Qbj _ _ _ (by rfl) _ _ _ (by rfl) (by rfl) hr1'.out ?_
           refine hK.out _ _ (Or.inr T3) ?_
           clear hK K
           try simp only [zX,zY]
           refine zp1 6 ?_; refine zpn (h := ?_); try simp only [zX,zY]
           refine zpe ?_
           obtain ⟨t0, t1⟩ := T3
           refine Qbo (i := 7) (by kernel_rfl) rfl (fun K hK => ?_)
           simp only [zG]
           go_simp
           refine hK.out _ _ (Or.inl rfl) ?_
           clear hK K
           try simp only [zX,zY]
           refine Qfe (by kernel_rfl) ?_ _
           refine NoPanic.normal ?_
           clear T1 T2 t0 t1 fX hr1' hH MkS KD BD HAy hOw
           go_wp2
           exact ⟨⟨n + 1, c2', a2, xs ++ [(⟨y0, b1, e1, ym, b2, e2, yb, b3, e3, yo⟩ : GC)], by go_num, by omega, hxn', F', hM'⟩, by simp [intOf]; omega⟩
         . obtain rfl : n = gs.length := by omega
           have hM1 : Hid (xs.map GC.p = gs.map GC.p) := by show _ = _; rw [hM.out, List.take_of_length_le (Nat.le_refl _)]
           have KK := K
           obtain ⟨r0, r1, r2, r3, r4, r5⟩ := KK.out.kd.r.row6
           have f0 := KK.out.kd.r.thaw 0; have f1 := KK.out.kd.r.thaw 1; have f2 := KK.out.kd.r.thaw 2; have f3 := KK.out.kd.r.thaw 3; have f4 := KK.out.kd.r.thaw 4; have f5 := KK.out.kd.r.thaw 5
           obtain ⟨o0, o1, o2, o3, o4, o5⟩ := KK.out.box.row6
           obtain ⟨s0', s1', s2', s3', s4', s5'⟩ := putK_cells KK.out.kd.r (.slice pA (List.length ps) pc) (.slice qA (List.length qs) qc) (.slice a (List.length xs) cp) (.int .i64 time) (.slice zA ds.length zc) (.slice vA ls.length vc)
           clear K
           go_wp2
           refine bodyPost_ret (v := .agg (Qah pA (List.length ps) pc qA (List.length qs) qc a (List.length xs) cp time zA ds.length zc vA ls.length vc)) (by simp [results, Tryz.results79, go_sem, s0', s1', s2', s3', s4', s5']) rfl ?_
           exact toldO_of KK.out hs0.out hs1.out hs2.out HZ0.out HM1.out HM2.out hM1.out rA rc mA mc gA gc dA dc lA lc
end Go.Proofs.YtenhcjkkpnlbeaaGreatDoor.Gen
