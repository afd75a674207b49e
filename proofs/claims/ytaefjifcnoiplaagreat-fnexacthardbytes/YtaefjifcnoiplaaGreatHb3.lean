/-
  The program's HardBytes: the bytes of its notes one behind the other. No condition but the sizes of its lists and texts.
-/
import Derived.Test.YtaefjifcnoiplaaGreatHb2
namespace Go.Proofs.YtaefjifcnoiplaaGreat.Gen
open Go.ChangeShapes Go.WideShapes Go.ChangeAt Go.RowKit Go.Joins Go.Deep Base
set_option linter.unusedVariables false
set_option linter.unusedSimpArgs false
theorem restN_each {base bt : Int} {l : List En} (hr : ∀ y ∈ l, y.fit) : ∀ (f n : Nat), ∀ q ∈ restN base bt l f n, q.l.length <= 3000000 /\ (∀ y ∈ q.l, y.fit) /\ q.snap.size <= 400000000
  | 0, _, q, hq => by cases hq
  | f + 1, n, q, hq => by
    simp only [restN] at hq
    split at hq
    . rcases List.mem_cons.1 hq with rfl | h
      . refine ⟨?_, fun y hy => hr y (List.mem_of_mem_take (List.mem_of_mem_drop hy)), (by show (⟨#[]⟩ : ByteArray).size <= _; decide)⟩
        show (chL l n).length <= 3000000
        rw [chL_len]; omega
      . exact restN_each hr f _ q h
    . cases hq
theorem hardN_each {te vo base bt : Int} {l : List En} {kb : ByteArray} (hr : ∀ y ∈ l, y.fit) (hk : kb.size <= 400000000) : ∀ q ∈ hardN te vo base bt l kb, q.l.length <= 3000000 /\ (∀ y ∈ q.l, y.fit) /\ q.snap.size <= 400000000 := fun q hq => by
  unfold hardN at hq
  rcases List.mem_cons.1 hq with rfl | hq
  . exact ⟨(by simp), (fun y hy => (by cases hy)), (by show (⟨#[]⟩ : ByteArray).size <= _; decide)⟩
  . rcases List.mem_append.1 hq with hq | hq
    . split at hq
      . rw [List.mem_singleton] at hq
        subst hq
        exact ⟨(by simp), (fun y hy => (by cases hy)), hk⟩
      . cases hq
    . exact restN_each hr _ _ q hq
set_option maxRecDepth 100000 in
set_option maxHeartbeats 1000000 in
theorem implHardBytes_any (ro wi le ke te vo base bt : Int) (A : Option Addr) (cap : Nat) (l : List En) (hl : l.length <= 1048576) (hr : ∀ y ∈ l, y.fit) (hc : l.length <= cap /\ cap <= maxLen) (x : KC) (ha : KAsk x) (w : World) (hA : At w A l) (hX : KAt w x) :
    Calls Tryz.prog 8 #[.agg #[.int .i64 ro, .int .i64 wi, .int .i64 le, .int .i64 ke], .agg #[.int .i64 te, .int .i64 vo, .int .i64 base, .int .i64 bt, .slice A l.length cap, .slice x.rA x.rs.length x.rc, .slice x.mA x.ms.length x.mc, .slice x.gA x.gs.length x.gc, .int .i64 x.time, .slice x.dA x.ds.length x.dc, .slice x.lA x.ls.length x.lc]] w fun e w' => ∃ a' c', e = .returned (.slice a' (hardO ro wi le ke te vo base bt l x).length c') /\ Jo w w' a' c' (hardO ro wi le ke te vo base bt l x) := by
  have HO : Hid (∀ W : World, Below w.heap.size w W -> Calls Tryz.prog 20 #[.agg #[.int .i64 ro, .int .i64 wi, .int .i64 le, .int .i64 ke], .agg #[.int .i64 te, .int .i64 vo, .int .i64 base, .int .i64 bt, .slice A l.length cap, .slice x.rA x.rs.length x.rc, .slice x.mA x.ms.length x.mc, .slice x.gA x.gs.length x.gc, .int .i64 x.time, .slice x.dA x.ds.length x.dc, .slice x.lA x.ls.length x.lc]] W fun e w' => e = .returned (.bool (hardB ro wi le ke te vo base bt l x)) /\ Below W.heap.size W w') := fun W g => implHardOk_any ro wi le ke te vo base bt A cap l hl hr x ha W (hA.below g) (hX.below g)
  have P0 : Blk ((w.alloc (.cells #[.int .i64 ro, .int .i64 wi, .int .i64 le, .int .i64 ke] 39)).alloc (.cells #[.int .i64 te, .int .i64 vo, .int .i64 base, .int .i64 bt, .slice A l.length cap, .slice x.rA x.rs.length x.rc, .slice x.mA x.ms.length x.mc, .slice x.gA x.gs.length x.gc, .int .i64 x.time, .slice x.dA x.ds.length x.dc, .slice x.lA x.ls.length x.lc] 51)) w.heap.size 39 #[.int .i64 ro, .int .i64 wi, .int .i64 le, .int .i64 ke] := (Blk.new w _ _).alloc _
  have P1 : Blk ((w.alloc (.cells #[.int .i64 ro, .int .i64 wi, .int .i64 le, .int .i64 ke] 39)).alloc (.cells #[.int .i64 te, .int .i64 vo, .int .i64 base, .int .i64 bt, .slice A l.length cap, .slice x.rA x.rs.length x.rc, .slice x.mA x.ms.length x.mc, .slice x.gA x.gs.length x.gc, .int .i64 x.time, .slice x.dA x.ds.length x.dc, .slice x.lA x.ls.length x.lc] 51)) (w.heap.size + 1) 51 #[.int .i64 te, .int .i64 vo, .int .i64 base, .int .i64 bt, .slice A l.length cap, .slice x.rA x.rs.length x.rc, .slice x.mA x.ms.length x.mc, .slice x.gA x.gs.length x.gc, .int .i64 x.time, .slice x.dA x.ds.length x.dc, .slice x.lA x.ls.length x.lc] := by have := Blk.new (w.alloc (.cells #[.int .i64 ro, .int .i64 wi, .int .i64 le, .int .i64 ke] 39)) 51 #[.int .i64 te, .int .i64 vo, .int .i64 base, .int .i64 bt, .slice A l.length cap, .slice x.rA x.rs.length x.rc, .slice x.mA x.ms.length x.mc, .slice x.gA x.gs.length x.gc, .int .i64 x.time, .slice x.dA x.ds.length x.dc, .slice x.lA x.ls.length x.lc]; rwa [World.size_alloc] at this
  have B0 : Below w.heap.size w ((w.alloc (.cells #[.int .i64 ro, .int .i64 wi, .int .i64 le, .int .i64 ke] 39)).alloc (.cells #[.int .i64 te, .int .i64 vo, .int .i64 base, .int .i64 bt, .slice A l.length cap, .slice x.rA x.rs.length x.rc, .slice x.mA x.ms.length x.mc, .slice x.gA x.gs.length x.gc, .int .i64 x.time, .slice x.dA x.ds.length x.dc, .slice x.lA x.ls.length x.lc] 51)) := alloc0 (alloc0 (Below.refl _ w) _) _
  cases hok : hardB ro wi le ke te vo base bt l x with
  | false =>
    have hO : Hid (hardO ro wi le ke te vo base bt l x = []) := by show _ = _; unfold hardO; rw [hok]; rfl
    rw [hok] at HO
    have H0 := hidP B0
    clear P0 P1 B0 hok hA hX ha hr
    go_enter Tryz.func8, Tryz.ntmps8
    go_wp2_with fail
    refine (HO.out _ H0.out).mono ?_
    rintro e w1 ⟨rfl, g1⟩
    go_wp2
    go_ret
    rw [hO.out]
    exact ⟨none, 0, rfl, via0 g1 H0.out, World.ownsRow_nil _ _ _ _⟩
  | true =>
    obtain ⟨_, _, h3, _, h5, h6⟩ := hard_parts hok
    obtain ⟨hkc, hkl⟩ := kb_ranges ha.fit h6
    have hO : Hid (hardO ro wi le ke te vo base bt l x = (hardN te vo base bt l ⟨(kB x).toArray⟩).flatMap HP.b) := by show _ = _; unfold hardO; rw [if_pos hok]
    have hlen := hardO_le ro wi le ke te vo base bt l x
    rw [hO.out] at hlen
    have HN0 : Hid (∀ W : World, Below w.heap.size w W -> Calls Tryz.prog 21 #[.agg #[.int .i64 te, .int .i64 vo, .int .i64 base, .int .i64 bt, .slice A l.length cap, .slice x.rA x.rs.length x.rc, .slice x.mA x.ms.length x.mc, .slice x.gA x.gs.length x.gc, .int .i64 x.time, .slice x.dA x.ds.length x.dc, .slice x.lA x.ls.length x.lc], .agg #[.int .i64 ro, .int .i64 wi, .int .i64 le, .int .i64 ke]] W fun e w' => ∃ a c ps, e = .returned (.slice a (List.length ps) c) /\ JH W w' a c ps /\ EachH w ps /\ ps.map HN.p = hardN te vo base bt l ⟨(kB x).toArray⟩) := fun W g =>
      notes_any ro wi le ke te vo base bt A cap l x (kB x) (restN base bt l l.length 0) (by have := restN_le base bt l l.length 0; omega) w W
        (fun V g' => by
          have h := implKeepBytes_any ro wi le ke x ha (fun _ => ⟨hkc, hkl⟩) V (hX.below (via0 g' g))
          have e : kO ro wi le ke x = kB x := by unfold kO; rw [if_pos h6]
          rw [e] at h
          exact h)
        (fun V g' => puts_any base bt A cap l h3 h5 hc w V hA (via0 g' g))
    have HE := hidP (hardN_each (te := te) (vo := vo) (base := base) (bt := bt) (kb := ⟨(kB x).toArray⟩) hr (by show (kB x).toArray.size <= _; simpa using hkl))
    have HQ : Hid ((hardN te vo base bt l ⟨(kB x).toArray⟩).length <= 1000) := by show _ <= _; have := hardN_le te vo base bt l ⟨(kB x).toArray⟩; omega
    rw [hok] at HO
    generalize hardN te vo base bt l ⟨(kB x).toArray⟩ = Q at *
    have H0 := hidP (And.intro B0 (And.intro P0 P1))
    have Hlen := hidP hlen
    clear P0 P1 B0 hok hA hX ha hr h3 h5 h6 hkc hkl hl hc hlen
    go_enter Tryz.func8, Tryz.ntmps8
    go_wp2_with fail
    refine (HO.out _ H0.out.1).mono ?_
    rintro e w1 ⟨rfl, g1⟩
    have P0 := H0.out.2.1.below g1 H0.out.2.1.lt
    have P1 := H0.out.2.2.below g1 H0.out.2.2.lt
    have B1 := via0 g1 H0.out.1
    obtain ⟨a0, a1, a2, a3⟩ := P0.row4
    obtain ⟨u0, u1, u2, u3, u4, u5, u6, u7, u8, u9, u10⟩ := P1.row11
    have q0 := P0.lt
    have q1 := P1.lt
    clear P0 P1 H0 g1
    go_wp2_with fail
    refine (HN0.out _ B1).mono ?_
    rintro e w2 ⟨a, c, ps, rfl, j2, e2, hm⟩
    have HA := hidP (fresh_owns j2.own).at
    have HB := hidP (via0 j2.bl B1)
    have HEP : Hid (∀ z ∈ ps, At w z.A z.l /\ z.l.length <= 3000000 /\ (∀ y ∈ z.l, y.fit) /\ z.snap.size <= 400000000) := fun z hz => by
      have h := HE.out z.p (by rw [← hm]; exact List.mem_map_of_mem hz)
      exact ⟨e2 z hz, h⟩
    have HF : Hid (ps.flatMap (fun z => z.p.b) = Q.flatMap HP.b) := by show _ = _; rw [← hm, List.flatMap_map]
    have Hps : Hid (ps.length <= 1000) := by
      show _ <= _
      have h9 := congrArg List.length hm
      rw [List.length_map] at h9
      have := HQ.out
      omega
    clear j2 e2 hm HE HN0 HO a0 a1 a2 a3 u0 u1 u2 u3 u4 u5 u6 u7 u8 u9 u10 q0 q1 B1
    have J0 : Hid (Jo w2 w2 none 0 []) := ⟨Below.refl _ _, World.ownsRow_nil _ _ _ _⟩
    go_wp2
    go_loopw [5, 16] (fun v i W => ∃ (n : Nat) (a' : Option Addr) (c' : Nat) (xs : List UInt8), i = .int .i64 (n : Int) /\ v = .slice a' (List.length xs) c' /\ n <= ps.length /\ Hid (Jo w2 W a' c' xs) /\ Hid (xs = (ps.take n).flatMap (fun z => z.p.b))) (fun _ i _ => ps.length - (intOf i).toNat)
    case atStart => exact ⟨0, none, 0, [], rfl, rfl, by omega, J0, by simp [Hid]⟩
    case round =>
      obtain ⟨n, a', c', xs, rfl, rfl, hn, hJ, hxs⟩ := hrel
      have hps := Hps.out
      by_cases hlt : n < ps.length
      . obtain ⟨b, o, rfl, hbs, hin⟩ : ∃ b o, a = some ⟨b, o, none⟩ /\ b < w2.heap.size /\ In w2 b o ps := by
          rcases HA.out with h | h
          . subst h; simp at hlt
          . exact h
        obtain ⟨d0, d1, d2, d3, d4, d5⟩ := (hin.below hbs hJ.out.bl).getHN n hlt
        have hi0 : (0 : Int) <= (n : Int) := by omega
        have hi1 : (n : Int) < (ps.length : Int) := by omega
        have hb1 : b < wr.heap.size := Nat.lt_of_lt_of_le hbs hJ.out.bl.size
        have HZ := hidP (HEP.out ps[n] (List.getElem_mem hlt))
        have hto := hidP (flat_take (fun z : HN => z.p.b) hlt)
        have hbd : Hid (xs.length <= 20000000) := by
          show _ <= _
          have h7 := flat_take_le (fun z : HN => z.p.b) ps n
          rw [HF.out] at h7
          have := Hlen.out
          rw [hxs.out]
          omega
        rw [← hxs.out] at hto
        clear hin
        generalize ps[n] = z at *
        obtain ⟨zk, zt, zv, zp, zA, zc, zl, zs⟩ := z
        have B2 := hidP (alloc0 (via0 hJ.out.bl HB.out) (.cells #[.int .i64 zk, .int .i64 zt, .int .i64 zv, .int .i64 zp, .slice zA zl.length zc, .string zs] 67))
        have HZA := hidP (HZ.out.1.below B2.out)
        have HZL := hidP HZ.out.2
        clear HZ
        go_wp2_with fail
        refine (implNoteBytes_any zk zt zv zp zs (Nat.le_trans HZL.out.2.2 (by decide)) zA zc zl HZL.out.1 HZL.out.2.1 _ HZA.out).mono ?_
        rintro e w3 ⟨a3, c3, rfl, g3, o3⟩
        clear d0 d1 d2 d3 d4 d5
        have hle := noteO_le zk zt zv zp zl zs
        obtain ⟨a4, c4, w4, hr, K4, -⟩ := hJ.out.app (c1 := c3) (via0 g3 (alloc0 (Below.refl _ wr) _)) (fresh_owns o3).at (by have := hbd.out; omega)
        have hto' : Hid (xs ++ noteO zk zt zv zp zl zs = (ps.take (n + 1)).flatMap (fun z : HN => z.p.b)) := hto.out.symm
        have HJ4 := hidP K4
        generalize noteO zk zt zv zp zl zs = ys at *
        generalize xs ++ ys = zz at *
        clear K4 g3 o3 hJ hto hle HZL HZA B2 hbs hb1 HA
        go_wp2_with (at_builtin; refine wpList_append_is rfl _ _ _ rfl _ _ _ rfl rfl hr ?_)
        exact ⟨⟨n + 1, a4, c4, zz, by go_num, rfl, by omega, HJ4, hto'⟩, by simp [intOf]; omega⟩
      . obtain rfl : n = ps.length := by omega
        have hX : Hid (hardO ro wi le ke te vo base bt l x = xs) := by show _ = _; rw [hO.out, hxs.out, List.take_length, HF.out]
        go_wp2
        go_ret
        rw [hX.out]
        exact ⟨a', c', rfl, via0 hJ.out.bl HB.out, owns_mono hJ.out.own HB.out.size⟩
end Go.Proofs.YtaefjifcnoiplaaGreat.Gen
