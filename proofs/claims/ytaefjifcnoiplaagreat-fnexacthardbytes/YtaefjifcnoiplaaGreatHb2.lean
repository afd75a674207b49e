/-
  The program's notes of what a node must keep. No condition but what it says of the functions that it calls.
-/
import Derived.Test.YtaefjifcnoiplaaGreatGpList
import Derived.Test.YtaefjifcnoiplaaGreatHb1
import Derived.Test.YtaefjifcnoiplaaGreatHbP
import Derived.Test.YtaefjifcnoiplaaGreatAnsList
import Derived.Test.YtaefjifcnoiplaaGreatKBw5
import Derived.Deep.CutBlock
namespace Go.Proofs.YtaefjifcnoiplaaGreat.Gen
open Go.ChangeShapes Go.WideShapes Go.ChangeAt Go.RowKit Go.Joins Go.Deep Base
set_option linter.unusedVariables false
set_option linter.unusedSimpArgs false
theorem one_own (W : World) (x : HN) (cs : Array Value) (hcs : cs.toList = Cel.cs x) (g : Nat) (hg : g = W.heap.size) : JH W (W.alloc (.cells cs 67)) (some ⟨g, 0, none⟩) 1 [x] := by
  subst hg
  have e : flat [x] = cs.toList := by rw [flat_one, hcs]
  have hs : cs.size = 6 := by have h9 := congrArg List.length hcs; rw [Cel.len] at h9; exact (by simpa using h9 : cs.size = Cel.k HN)
  exact ⟨alloc0 (Below.refl _ _) _, by rw [e]; simp [hs], .inr ⟨W.heap.size, 1, cs, rfl, Nat.le_refl _, Blk.new W 67 cs, Nat.le_refl _, by simp [maxLen], by simp [hs], by rw [e]; exact List.take_of_length_le (by simp [hs])⟩⟩
set_option maxRecDepth 100000 in
set_option maxHeartbeats 1000000 in
theorem notes_any (ro wi le ke te vo base bt : Int) (A : Option Addr) (cap : Nat) (l : List En) (x : KC) (K : List UInt8) (R : List HP) (hR : R.length <= 1000) (w0 w : World)
    (hk : ∀ W : World, Below w.heap.size w W -> Calls Tryz.prog 51 #[.agg #[.int .i64 ro, .int .i64 wi, .int .i64 le, .int .i64 ke], .agg #[.slice x.rA x.rs.length x.rc, .slice x.mA x.ms.length x.mc, .slice x.gA x.gs.length x.gc, .int .i64 x.time, .slice x.dA x.ds.length x.dc, .slice x.lA x.ls.length x.lc]] W fun e w' => ∃ a' c', e = .returned (.slice a' K.length c') /\ Below W.heap.size W w' /\ w'.ownsRow W.heap.size 5 1 (.slice a' K.length c') K.length (flat K))
    (hp : ∀ W : World, Below w.heap.size w W -> Calls Tryz.prog 52 #[.agg #[.int .i64 base, .int .i64 bt, .slice A l.length cap]] W fun e w' => ∃ a c ps, e = .returned (.slice a (List.length ps) c) /\ JH W w' a c ps /\ EachH w0 ps /\ ps.map HN.p = R) :
    Calls Tryz.prog 21 #[.agg #[.int .i64 te, .int .i64 vo, .int .i64 base, .int .i64 bt, .slice A l.length cap, .slice x.rA x.rs.length x.rc, .slice x.mA x.ms.length x.mc, .slice x.gA x.gs.length x.gc, .int .i64 x.time, .slice x.dA x.ds.length x.dc, .slice x.lA x.ls.length x.lc], .agg #[.int .i64 ro, .int .i64 wi, .int .i64 le, .int .i64 ke]] w fun e w' => ∃ a c ps, e = .returned (.slice a (List.length ps) c) /\ JH w w' a c ps /\ EachH w0 ps /\ ps.map HN.p = ⟨1, te, vo, 0, [], ⟨#[]⟩⟩ :: ((if 0 < base then [⟨3, bt, 0, base, [], ⟨K.toArray⟩⟩] else []) ++ R) := by
  have P0 : Blk ((w.alloc (.cells #[.int .i64 te, .int .i64 vo, .int .i64 base, .int .i64 bt, .slice A l.length cap, .slice x.rA x.rs.length x.rc, .slice x.mA x.ms.length x.mc, .slice x.gA x.gs.length x.gc, .int .i64 x.time, .slice x.dA x.ds.length x.dc, .slice x.lA x.ls.length x.lc] 51)).alloc (.cells #[.int .i64 ro, .int .i64 wi, .int .i64 le, .int .i64 ke] 39)) w.heap.size 51 #[.int .i64 te, .int .i64 vo, .int .i64 base, .int .i64 bt, .slice A l.length cap, .slice x.rA x.rs.length x.rc, .slice x.mA x.ms.length x.mc, .slice x.gA x.gs.length x.gc, .int .i64 x.time, .slice x.dA x.ds.length x.dc, .slice x.lA x.ls.length x.lc] := (Blk.new w _ _).alloc _
  have P1 : Blk ((w.alloc (.cells #[.int .i64 te, .int .i64 vo, .int .i64 base, .int .i64 bt, .slice A l.length cap, .slice x.rA x.rs.length x.rc, .slice x.mA x.ms.length x.mc, .slice x.gA x.gs.length x.gc, .int .i64 x.time, .slice x.dA x.ds.length x.dc, .slice x.lA x.ls.length x.lc] 51)).alloc (.cells #[.int .i64 ro, .int .i64 wi, .int .i64 le, .int .i64 ke] 39)) (w.heap.size + 1) 39 #[.int .i64 ro, .int .i64 wi, .int .i64 le, .int .i64 ke] := by have := Blk.new (w.alloc (.cells #[.int .i64 te, .int .i64 vo, .int .i64 base, .int .i64 bt, .slice A l.length cap, .slice x.rA x.rs.length x.rc, .slice x.mA x.ms.length x.mc, .slice x.gA x.gs.length x.gc, .int .i64 x.time, .slice x.dA x.ds.length x.dc, .slice x.lA x.ls.length x.lc] 51)) 39 #[.int .i64 ro, .int .i64 wi, .int .i64 le, .int .i64 ke]; rwa [World.size_alloc] at this
  have B0 : Hid (Below w.heap.size w ((w.alloc (.cells #[.int .i64 te, .int .i64 vo, .int .i64 base, .int .i64 bt, .slice A l.length cap, .slice x.rA x.rs.length x.rc, .slice x.mA x.ms.length x.mc, .slice x.gA x.gs.length x.gc, .int .i64 x.time, .slice x.dA x.ds.length x.dc, .slice x.lA x.ls.length x.lc] 51)).alloc (.cells #[.int .i64 ro, .int .i64 wi, .int .i64 le, .int .i64 ke] 39))) := alloc0 (alloc0 (Below.refl _ w) _) _
  have J1 : Hid (JH ((w.alloc (.cells #[.int .i64 te, .int .i64 vo, .int .i64 base, .int .i64 bt, .slice A l.length cap, .slice x.rA x.rs.length x.rc, .slice x.mA x.ms.length x.mc, .slice x.gA x.gs.length x.gc, .int .i64 x.time, .slice x.dA x.ds.length x.dc, .slice x.lA x.ls.length x.lc] 51)).alloc (.cells #[.int .i64 ro, .int .i64 wi, .int .i64 le, .int .i64 ke] 39)) (((w.alloc (.cells #[.int .i64 te, .int .i64 vo, .int .i64 base, .int .i64 bt, .slice A l.length cap, .slice x.rA x.rs.length x.rc, .slice x.mA x.ms.length x.mc, .slice x.gA x.gs.length x.gc, .int .i64 x.time, .slice x.dA x.ds.length x.dc, .slice x.lA x.ls.length x.lc] 51)).alloc (.cells #[.int .i64 ro, .int .i64 wi, .int .i64 le, .int .i64 ke] 39)).alloc (.cells #[.int .i64 1, .int .i64 te, .int .i64 vo, .int .i64 0, .slice none 0 0, .string ⟨#[]⟩] 67)) (some ⟨w.heap.size + 1 + 1, 0, none⟩) 1 [(⟨1, te, vo, 0, none, 0, [], ⟨#[]⟩⟩ : HN)]) := one_own ((w.alloc (.cells #[.int .i64 te, .int .i64 vo, .int .i64 base, .int .i64 bt, .slice A l.length cap, .slice x.rA x.rs.length x.rc, .slice x.mA x.ms.length x.mc, .slice x.gA x.gs.length x.gc, .int .i64 x.time, .slice x.dA x.ds.length x.dc, .slice x.lA x.ls.length x.lc] 51)).alloc (.cells #[.int .i64 ro, .int .i64 wi, .int .i64 le, .int .i64 ke] 39)) (⟨1, te, vo, 0, none, 0, [], ⟨#[]⟩⟩ : HN) #[.int .i64 1, .int .i64 te, .int .i64 vo, .int .i64 0, .slice none 0 0, .string ⟨#[]⟩] rfl _ (by simp)
  have HK := hidP hk
  have HP := hidP hp
  have mkS : ∀ V : World, Below ((w.alloc (.cells #[.int .i64 te, .int .i64 vo, .int .i64 base, .int .i64 bt, .slice A l.length cap, .slice x.rA x.rs.length x.rc, .slice x.mA x.ms.length x.mc, .slice x.gA x.gs.length x.gc, .int .i64 x.time, .slice x.dA x.ds.length x.dc, .slice x.lA x.ls.length x.lc] 51)).alloc (.cells #[.int .i64 ro, .int .i64 wi, .int .i64 le, .int .i64 ke] 39)).heap.size ((w.alloc (.cells #[.int .i64 te, .int .i64 vo, .int .i64 base, .int .i64 bt, .slice A l.length cap, .slice x.rA x.rs.length x.rc, .slice x.mA x.ms.length x.mc, .slice x.gA x.gs.length x.gc, .int .i64 x.time, .slice x.dA x.ds.length x.dc, .slice x.lA x.ls.length x.lc] 51)).alloc (.cells #[.int .i64 ro, .int .i64 wi, .int .i64 le, .int .i64 ke] 39)) V -> (fun (V : World) => V.cell? ⟨w.heap.size, 2, none⟩ = some (.int .i64 base) /\ V.cell? ⟨w.heap.size, 2 + 1, none⟩ = some (.int .i64 bt) /\ V.cell? ⟨w.heap.size, 5, none⟩ = some (.slice x.rA x.rs.length x.rc) /\ V.cell? ⟨w.heap.size, 5 + 1, none⟩ = some (.slice x.mA x.ms.length x.mc) /\ V.cell? ⟨w.heap.size, 5 + 2, none⟩ = some (.slice x.gA x.gs.length x.gc) /\ V.cell? ⟨w.heap.size, 5 + 3, none⟩ = some (.int .i64 x.time) /\ V.cell? ⟨w.heap.size, 5 + 4, none⟩ = some (.slice x.dA x.ds.length x.dc) /\ V.cell? ⟨w.heap.size, 5 + 5, none⟩ = some (.slice x.lA x.ls.length x.lc) /\ V.cell? ⟨w.heap.size + 1, 0, none⟩ = some (.int .i64 ro) /\ V.cell? ⟨w.heap.size + 1, 1, none⟩ = some (.int .i64 wi) /\ V.cell? ⟨w.heap.size + 1, 2, none⟩ = some (.int .i64 le) /\ V.cell? ⟨w.heap.size + 1, 3, none⟩ = some (.int .i64 ke)) V := fun V g => by
    obtain ⟨u0, u1, u2, u3, u4, u5, u6, u7, u8, u9, u10⟩ := (P0.below g P0.lt).row11
    obtain ⟨a0, a1, a2, a3⟩ := (P1.below g P1.lt).row4
    exact ⟨u2, u3, u5, u6, u7, u8, u9, u10, a0, a1, a2, a3⟩
  have mkL : ∀ V : World, Below ((w.alloc (.cells #[.int .i64 te, .int .i64 vo, .int .i64 base, .int .i64 bt, .slice A l.length cap, .slice x.rA x.rs.length x.rc, .slice x.mA x.ms.length x.mc, .slice x.gA x.gs.length x.gc, .int .i64 x.time, .slice x.dA x.ds.length x.dc, .slice x.lA x.ls.length x.lc] 51)).alloc (.cells #[.int .i64 ro, .int .i64 wi, .int .i64 le, .int .i64 ke] 39)).heap.size ((w.alloc (.cells #[.int .i64 te, .int .i64 vo, .int .i64 base, .int .i64 bt, .slice A l.length cap, .slice x.rA x.rs.length x.rc, .slice x.mA x.ms.length x.mc, .slice x.gA x.gs.length x.gc, .int .i64 x.time, .slice x.dA x.ds.length x.dc, .slice x.lA x.ls.length x.lc] 51)).alloc (.cells #[.int .i64 ro, .int .i64 wi, .int .i64 le, .int .i64 ke] 39)) V -> (V.cell? ⟨w.heap.size, 2, none⟩ = some (.int .i64 base) /\ V.cell? ⟨w.heap.size, 2 + 1, none⟩ = some (.int .i64 bt) /\ V.cell? ⟨w.heap.size, 2 + 2, none⟩ = some (.slice A l.length cap)) /\ w.heap.size < V.heap.size := fun V g => by
    obtain ⟨u0, u1, u2, u3, u4, u5, u6, u7, u8, u9, u10⟩ := (P0.below g P0.lt).row11
    exact ⟨⟨u2, u3, u4⟩, (P0.below g P0.lt).lt⟩
  have HL := hidP mkL
  have HS := hidP mkS
  clear hk hp P0 P1 mkL
  have fin : ∀ (W2 w3 : World) (a c a3 c3 : _) (ns qs : List HN), JH ((w.alloc (.cells #[.int .i64 te, .int .i64 vo, .int .i64 base, .int .i64 bt, .slice A l.length cap, .slice x.rA x.rs.length x.rc, .slice x.mA x.ms.length x.mc, .slice x.gA x.gs.length x.gc, .int .i64 x.time, .slice x.dA x.ds.length x.dc, .slice x.lA x.ls.length x.lc] 51)).alloc (.cells #[.int .i64 ro, .int .i64 wi, .int .i64 le, .int .i64 ke] 39)) W2 a c ns -> JH W2 w3 a3 c3 qs -> ns.length <= 2 -> EachH w0 qs -> qs.map HN.p = R -> (∀ x ∈ ns, x.l = []) ->
      ∃ a4 c4 w4, (Builtin.append_ #[64, 64] 64 #[.slice a ns.length c, .slice a3 qs.length c3]).run Tryz.prog w3 = .ok (.slice a4 (ns ++ qs).length c4) w4 /\ JH w w4 a4 c4 (ns ++ qs) /\ EachH w0 (ns ++ qs) := fun W2 w3 a c a3 c3 ns qs h1 h2 h3 h4 h5 h6 => by
    have h7 : qs.length <= 1000 := by have := congrArg List.length h5; simp at this; omega
    obtain ⟨a4, c4, w4, hr, J⟩ := (h1.below h2.bl).apps (c1 := c3) (fresh_owns h2.own).at (by omega)
    refine ⟨a4, c4, w4, hr, ⟨via0 J.bl B0.out, owns_mono J.own B0.out.size⟩, fun y hy => ?_⟩
    rcases List.mem_append.1 hy with h | h
    . exact .inl (h6 y h)
    . exact h4 y h
  have FIN := hidP fin
  clear fin
  by_cases hpos : 0 < base
  . simp only [if_pos hpos]
    go_enter Tryz.func21, Tryz.ntmps21
    obtain ⟨⟨u2, u3, u4⟩, q0⟩ := HL.out _ (Below.refl _ _)
    go_upto_region 3 with fail
    clear u2 u3 u4 q0
    refine wp_region_noPanic ?_
    refine wp_region_held_drew (S := (fun (V : World) => V.cell? ⟨w.heap.size, 2, none⟩ = some (.int .i64 base) /\ V.cell? ⟨w.heap.size, 2 + 1, none⟩ = some (.int .i64 bt) /\ V.cell? ⟨w.heap.size, 5, none⟩ = some (.slice x.rA x.rs.length x.rc) /\ V.cell? ⟨w.heap.size, 5 + 1, none⟩ = some (.slice x.mA x.ms.length x.mc) /\ V.cell? ⟨w.heap.size, 5 + 2, none⟩ = some (.slice x.gA x.gs.length x.gc) /\ V.cell? ⟨w.heap.size, 5 + 3, none⟩ = some (.int .i64 x.time) /\ V.cell? ⟨w.heap.size, 5 + 4, none⟩ = some (.slice x.dA x.ds.length x.dc) /\ V.cell? ⟨w.heap.size, 5 + 5, none⟩ = some (.slice x.lA x.ls.length x.lc) /\ V.cell? ⟨w.heap.size + 1, 0, none⟩ = some (.int .i64 ro) /\ V.cell? ⟨w.heap.size + 1, 1, none⟩ = some (.int .i64 wi) /\ V.cell? ⟨w.heap.size + 1, 2, none⟩ = some (.int .i64 le) /\ V.cell? ⟨w.heap.size + 1, 3, none⟩ = some (.int .i64 ke))) (by kernel_rfl) ?_ (fun hH => ?_)
    . exact mkS _ (J1.out.bl.drew)
    refine ztk [0,1,2,3,4,5,6,7,8,9] ?_; repeat (refine ztn (h := ?_); try simp only [zX,zY])
    refine zte ?_
    refine zR1 10 (fun K hK => ?_)
    simp only [zG]
    go_simp
    refine (HK.out _ (via0 (J1.out.bl.drew) B0.out)).mono ?_; rintro e w2 ⟨a2, c2, rfl, g2, o2⟩; have hv := conv_bytes (cap := c2) (fresh_owns o2).at; have J2 := hidP ((J1.out.below (Below.refl _ _).drew).below g2); clear g2 o2
    refine hK.out _ _ ?_ (fun hH => ?_)
    . exact mkS _ J2.out.bl
    clear hK K
    try simp only [zX,zY]
    refine zR1 11 (fun K hK => ?_)
    simp only [zG]
    go_simp
    skip
    refine hK.out _ _ ?_ (fun hH => ?_)
    . exact mkS _ J2.out.bl
    clear hK K
    try simp only [zX,zY]
    refine zt1 12 ?_; refine ztn (h := ?_); try simp only [zX,zY]
    refine zte ?_
    obtain ⟨a4, c4, w4, hr, J4⟩ := J2.out.app (⟨3, bt, 0, base, none, 0, [], ⟨K.toArray⟩⟩ : HN) #[.int .i64 3, .int .i64 bt, .int .i64 0, .int .i64 base, .slice none 0 0, .string ⟨K.toArray⟩] rfl (by simp)
    rw [List.length_singleton] at hr
    have EN : Hid (([(⟨1, te, vo, 0, none, 0, [], ⟨#[]⟩⟩ : HN)] ++ [(⟨3, bt, 0, base, none, 0, [], ⟨K.toArray⟩⟩ : HN)]).map HN.p ++ R = ⟨1, te, vo, 0, [], ⟨#[]⟩⟩ :: ([⟨3, bt, 0, base, [], ⟨K.toArray⟩⟩] ++ R)) := rfl
    have EZ : Hid (([(⟨1, te, vo, 0, none, 0, [], ⟨#[]⟩⟩ : HN)] ++ [(⟨3, bt, 0, base, none, 0, [], ⟨K.toArray⟩⟩ : HN)]).length <= 2 /\ ∀ x ∈ ([(⟨1, te, vo, 0, none, 0, [], ⟨#[]⟩⟩ : HN)] ++ [(⟨3, bt, 0, base, none, 0, [], ⟨K.toArray⟩⟩ : HN)] : List HN), x.l = []) := ⟨by simp, by simp⟩
    generalize ([(⟨1, te, vo, 0, none, 0, [], ⟨#[]⟩⟩ : HN)] ++ [(⟨3, bt, 0, base, none, 0, [], ⟨K.toArray⟩⟩ : HN)] : List HN) = ns at hr J4 EN EZ
    refine zR1 13 (fun K hK => ?_)
    simp only [zG]
    go_simp
    skip
    refine hK.out _ _ ?_ (fun hH => ?_)
    . exact mkS _ (alloc0 J2.out.bl _)
    clear hK K
    try simp only [zX,zY]
    refine zR1 14 (fun K hK => ?_)
    simp only [zG]
    rw [if_pos (by rfl)]; refine wp_append_is _ _ _ (by rfl) _ _ _ (by rfl) (by rfl) hr ?_
    refine hK.out _ _ ?_ (fun hH => ?_)
    . exact mkS _ J4.bl
    clear hK K
    try simp only [zX,zY]
    refine zt1 15 ?_; refine ztn (h := ?_); try simp only [zX,zY]
    refine zte ?_
    refine zdn ?_
    have J5 := hidP J4
    clear J4
    obtain ⟨⟨u2, u3, u4⟩, q0⟩ := HL.out _ J5.out.bl
    clear hr J1 J2 hv mkS
    go_wp2_with fail
    refine (HP.out _ (via0 J5.out.bl B0.out)).mono ?_
    rintro e w5 ⟨a5, c5, qs, rfl, j5, e5, hm⟩
    obtain ⟨a6, c6, w6, hr, J6, E6⟩ := FIN.out _ _ _ _ _ _ _ _ J5.out j5 EZ.out.1 e5 hm EZ.out.2
    have H6 := hidP (And.intro J6 E6)
    have EM : Hid ((ns ++ qs).map HN.p = ⟨1, te, vo, 0, [], ⟨#[]⟩⟩ :: ([⟨3, bt, 0, base, [], ⟨K.toArray⟩⟩] ++ R)) := by show _ = _; rw [List.map_append, hm]; exact EN.out
    clear J6 E6 j5 e5 hm FIN J5 HP HL u2 u3 u4 q0 EN
    generalize ns ++ qs = rs at hr H6 EM
    go_wp2_with (at_builtin; refine wpList_append_is rfl _ _ _ rfl _ _ _ rfl rfl hr ?_)
    go_ret
    exact ⟨a6, c6, rs, rfl, H6.out.1, H6.out.2, EM.out⟩
  . simp only [if_neg hpos]
    have EN : Hid (([(⟨1, te, vo, 0, none, 0, [], ⟨#[]⟩⟩ : HN)] : List HN).map HN.p ++ R = ⟨1, te, vo, 0, [], ⟨#[]⟩⟩ :: ([] ++ R)) := rfl
    have EZ : Hid (([(⟨1, te, vo, 0, none, 0, [], ⟨#[]⟩⟩ : HN)] : List HN).length <= 2 /\ ∀ x ∈ ([(⟨1, te, vo, 0, none, 0, [], ⟨#[]⟩⟩ : HN)] : List HN), x.l = []) := ⟨by simp, by simp⟩
    have EL : Hid (([(⟨1, te, vo, 0, none, 0, [], ⟨#[]⟩⟩ : HN)] : List HN).length = 1) := rfl
    go_enter Tryz.func21, Tryz.ntmps21
    obtain ⟨⟨u2, u3, u4⟩, q0⟩ := HL.out _ J1.out.bl
    go_wp2_with fail
    refine (HP.out _ (via0 J1.out.bl B0.out)).mono ?_
    rintro e w5 ⟨a5, c5, qs, rfl, j5, e5, hm⟩
    obtain ⟨a6, c6, w6, hr, J6, E6⟩ := FIN.out _ _ _ _ _ _ _ _ J1.out j5 EZ.out.1 e5 hm EZ.out.2
    rw [EL.out] at hr
    have H6 := hidP (And.intro J6 E6)
    have EM : Hid ((([(⟨1, te, vo, 0, none, 0, [], ⟨#[]⟩⟩ : HN)] : List HN) ++ qs).map HN.p = ⟨1, te, vo, 0, [], ⟨#[]⟩⟩ :: ([] ++ R)) := by show _ = _; rw [List.map_append, hm]; exact EN.out
    clear J6 E6 j5 e5 hm FIN HP HL u2 u3 u4 q0 EN
    generalize ([(⟨1, te, vo, 0, none, 0, [], ⟨#[]⟩⟩ : HN)] : List HN) ++ qs = rs at hr H6 EM
    go_wp2_with (at_builtin; refine wpList_append_is rfl _ _ _ rfl _ _ _ rfl rfl hr ?_)
    go_ret
    exact ⟨a6, c6, rs, rfl, H6.out.1, H6.out.2, EM.out⟩
end Go.Proofs.YtaefjifcnoiplaaGreat.Gen
