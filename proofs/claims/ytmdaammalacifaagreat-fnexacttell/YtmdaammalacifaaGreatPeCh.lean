/-
  The program's copy of messages that are held: each list of entries in memory of its own. No condition but that there are at most 1048576.
-/
import Derived.Test.YtmdaammalacifaaGreatPeCq
set_option linter.unusedVariables false
set_option linter.unusedSimpArgs false
set_option maxRecDepth 100000
set_option maxHeartbeats 8000000
namespace Go.Proofs.YtmdaammalacifaaGreat.Gen
open ChangeShapes WideShapes ChangeAt RowKit Joins Deep Base
structure Hq (w W : World) (b o : Nat) (l : List RpC) (n : Nat) (cur : List RpC) (lo hi : Nat -> Nat) : Prop where
  bl : Below w.heap.size w W
  lt : b < W.heap.size
  bw : w.heap.size <= b
  lst : In W b o cur
  th : W.there b o (cur.length * 10)
  len : cur.length = l.length
  up : ∀ i, i < n -> b < lo i /\ hi i <= W.heap.size
  ord : ∀ i j, i < j -> j < n -> hi i <= lo j
  sub : ∀ (i : Nat) (h : i < cur.length), i < n -> Sub W cur[i].A cur[i].l (fun z => lo i <= z /\ z < hi i)
  rest : ∀ (i : Nat) (h : i < cur.length) (h' : i < l.length), n <= i -> cur[i] = l[i]
  same : cur.map RpC.p = l.map RpC.p
theorem Hq.own {w W : World} {b o : Nat} {l : List RpC} {cur : List RpC} {lo hi : Nat -> Nat} (h : Hq w W b o l l.length cur lo hi) : Own rpcP W (some ⟨b, o, none⟩) cur (fun z => w.heap.size <= z /\ z < W.heap.size) := by
 have hb := h.bw
 have hl := h.lt
 refine .inr ⟨b, o, fun i z => i < l.length /\ lo i <= z /\ z < hi i, rfl, ⟨hb, hl⟩, fun i x hx => ?_, ⟨hl, h.lst, h.th, fun i hi' => ?_, fun i j hij x h1 h2 => ?_, fun i h1 => ?_⟩⟩
 . have := h.up i hx.1
   omega
 . have hn : i < l.length := by rw [← h.len]; exact hi'
   exact (h.sub i hi' hn).mono (fun z hz => ⟨hn, hz⟩)
 . rcases Nat.lt_or_gt_of_ne hij with h3 | h3
   . have := h.ord i j h3 h2.1; omega
   . have := h.ord j i h3 h1.1; omega
 . have := h.up i h1.1
   omega
theorem Hq.step {w W W2 : World} {b o n : Nat} {l cur : List RpC} {lo hi : Nat -> Nat} (h : Hq w W b o l n cur lo hi) (hn : n < l.length) {a : Option Addr} {c : Nat} (g : Below W.heap.size W W2) (hs : Sub W2 a l[n].l (fun z => W.heap.size <= z /\ z < W2.heap.size)) :
 Hq w (W2.setCell ⟨b, o + n * 10 + 7, none⟩ (.slice a l[n].l.length c)) b o l (n + 1) (cur.set n { l[n] with A := a, cap := c }) (fun i => if i = n then W.heap.size else lo i) (fun i => if i = n then W2.heap.size else hi i) := by
 have hlen := h.len
 have hnc : n < cur.length := by omega
 have ec := h.rest n hnc hn (Nat.le_refl _)
 have hbl := h.lt
 have g2 := g.size
 have k : Offp (fun x => x = b) W2 (W2.setCell ⟨b, o + n * 10 + 7, none⟩ (.slice a l[n].l.length c)) := Offp.of_only ((Only.refl b W2).set _ _)
 have hin : In W2 b o cur := h.lst.below h.lt g
 refine ⟨Qal (via0 g h.bl) h.bw _, by simp; omega, h.bw, ?_, ?_, by simp [hlen], fun i hi' => ?_, fun i j hij hj => ?_, fun i hc hi' => ?_, fun i hc hl' hi' => ?_, ?_⟩
 . exact hin.set1 n hnc _ 7 (by decide) _ (by rw [ec]; rfl)
 . rw [List.length_set]; exact Qah (Qa3 h.th h.lt g) _ _ _
 . by_cases e : i = n
   . subst e; simp; omega
   . have := h.up i (by omega); simp [e]; omega
 . by_cases e : j = n
   . subst e
     have h1 := h.up i (by omega)
     have h2 : ¬ i = j := by omega
     simp [h2]; omega
   . have h2 : ¬ i = n := by omega
     have := h.ord i j hij (by omega)
     simp [e, h2]; omega
 . have hc' : i < cur.length := by simpa using hc
   by_cases e : n = i
   . subst e
     simp only [List.getElem_set_self, if_true]
     exact hs.offp k (fun z hz e => by omega)
   . rw [List.getElem_set_ne e]
     have h1 := h.up i (by omega)
     have e' : ¬ i = n := fun x => e x.symm
     simp only [if_neg e']
     exact ((h.sub i hc' (by omega)).below g).offp k (fun z hz e => by omega)
 . have hc' : i < cur.length := by simpa using hc
   rw [List.getElem_set_ne (by omega)]
   exact h.rest i hc' hl' (by omega)
 . rw [List.map_set, h.same]
   apply List.ext_getElem
   . simp
   . intro i h1 h2
     by_cases e : n = i
     . subst e; simp [RpC.p]
     . rw [List.getElem_set_ne e]
theorem cpHeld (A : Option Addr) (cap : Nat) (l : List RpC) (hl : l.length <= 1048576) (hi : ∀ x ∈ l, x.l.length <= 1048576) (w : World) (hA : At w A l) (hE : EachP w l) :
 Calls Tryz.prog 78 #[.slice A l.length cap] w fun e w' => ∃ (a : Option Addr) (c : Nat) (hs' : List RpC), e = .returned (.slice a l.length c) /\ Below w.heap.size w w' /\ hs'.map RpC.p = l.map RpC.p /\ Own rpcP w' a hs' (fun z => w.heap.size <= z /\ z < w'.heap.size) := by
 have C1 := hidP (cpRpcs A cap l hl w hA)
 have HE := hidP hE
 have Hi := hidP hi
 clear hA hE hi
 go_enter Tryz.func78, Tryz.ntmps78
 go_wp2_with fail
 refine C1.out.mono ?_
 rintro e w1 ⟨a, c, rfl, g1, s1⟩
 rcases s1 with rfl | ⟨b, o, rfl, hS, hb, hin, hth⟩
 . have G1 := hidP g1
   go_wp2
   go_loopw [9] (fun i w' => i = .int .i64 0 /\ w' = w1) (fun _ _ => 0)
   case atStart => exact ⟨rfl, rfl⟩
   case round =>
    obtain ⟨rfl, rfl⟩ := hrel
    go_wp2
    go_ret
    exact ⟨a, c, [], rfl, G1.out, rfl, .inl rfl⟩
 . have H0 : Hid (Hq w w1 b o l 0 l (fun _ => 0) (fun _ => 0)) := ⟨g1, hb, hS.1, hin, hth, rfl, fun i h => by omega, fun i j h1 h2 => by omega, fun i h1 h2 => by omega, fun i h1 h2 h3 => rfl, rfl⟩
   clear g1 hS hb hin hth
   go_wp2
   go_loopw [9] (fun i w' => ∃ (n : Nat) (cur : List RpC) (lo hi : Nat -> Nat), i = .int .i64 (n : Int) /\ n <= l.length /\ Hid (Hq w w' b o l n cur lo hi)) (fun i _ => l.length - (intOf i).toNat)
   case atStart => exact ⟨0, l, _, _, rfl, by omega, H0⟩
   case round =>
    obtain ⟨n, cur, lo, hi, rfl, hn, HQ⟩ := hrel
    by_cases hlt : n < l.length
    . have hnc : n < cur.length := by rw [HQ.out.len]; exact hlt
      obtain ⟨d0, d1, d2, d3, d4, d5, d6, d7, d8, d9⟩ := HQ.out.lst.getRpC n hnc
      rw [HQ.out.rest n hnc hlt (Nat.le_refl _)] at d7
      obtain ⟨⟨v7, e7⟩, f7⟩ := Qad (f := 7) HQ.out.th hnc (by decide)
      have hb := HQ.out.lt
      have hat := hidP ((HE.out _ (List.getElem_mem hlt)).below HQ.out.bl)
      have hli := hidP (Hi.out _ (List.getElem_mem hlt))
      have HC := hidP (cpEnts l[n].A l[n].cap l[n].l hli.out wr hat.out)
      have hi0 : (0 : Int) <= (n : Int) := by omega
      have hi1 : (n : Int) < (l.length : Int) := by omega
      clear d0 d1 d2 d3 d4 d5 d6 d8 d9
      go_wp2_with fail
      refine HC.out.mono ?_
      rintro e w2 ⟨a', c', rfl, g2, s2⟩
      have HN := hidP (HQ.out.step hlt (c := c') g2 s2)
      obtain ⟨k1, m1⟩ := Qbf g2
      have z7 := (k1 _ (o + n * 10 + 7) hb).trans d7
      have y7 : w2.frozen? ⟨b, o + n * 10 + 7, none⟩ = false := (m1 _ (o + n * 10 + 7) hb).trans f7
      have hb2 : b < w2.heap.size := Nat.lt_of_lt_of_le hb g2.size
      clear g2 s2 d7 e7 f7 k1 m1
      go_wp2
      exact ⟨⟨n + 1, _, _, _, by go_num, by omega, HN⟩, by simp [intOf]; omega⟩
    . have e : n = l.length := by omega
      subst e
      go_wp2
      go_ret
      exact ⟨_, c, cur, rfl, HQ.out.bl, HQ.out.same, HQ.out.own⟩
end Go.Proofs.YtmdaammalacifaaGreat.Gen
namespace Go.Proofs.YtmdaammalacifaaGreat.Gen
open ChangeShapes WideShapes ChangeAt RowKit Joins Deep Base
theorem nodeOf_any (ro wi le ke id te vo base bt role com su size : Int) (A vA nA pA dA hA0 : Option Addr) (cap vn vc nn nc pn pc dc hc : Nat) (l : List En) (db : List UInt8) (hs : List RpC) (x y : KC) (w : World) :
 Calls Tryz.prog 31 #[.agg #[.int .i64 ro, .int .i64 wi, .int .i64 le, .int .i64 ke], .agg #[.int .i64 id, .int .i64 te, .int .i64 vo, .int .i64 base, .int .i64 bt, .slice A l.length cap, .slice x.rA x.rs.length x.rc, .slice x.mA x.ms.length x.mc, .slice x.gA x.gs.length x.gc, .int .i64 x.time, .slice x.dA x.ds.length x.dc, .slice x.lA x.ls.length x.lc, .int .i64 role, .slice vA vn vc, .slice nA nn nc, .slice pA pn pc, .int .i64 com, .slice y.rA y.rs.length y.rc, .slice y.mA y.ms.length y.mc, .slice y.gA y.gs.length y.gc, .int .i64 y.time, .slice y.dA y.ds.length y.dc, .slice y.lA y.ls.length y.lc, .slice dA db.length dc, .int .i64 su, .slice hA0 hs.length hc], .int .i64 size] w fun e w' => e = .returned (.agg #[.int .i64 te, .int .i64 vo, .int .i64 base, .int .i64 bt, .slice A l.length cap, .slice x.rA x.rs.length x.rc, .slice x.mA x.ms.length x.mc, .slice x.gA x.gs.length x.gc, .int .i64 x.time, .slice x.dA x.ds.length x.dc, .slice x.lA x.ls.length x.lc, .int .i64 ro, .int .i64 wi, .int .i64 le, .int .i64 ke, .int .i64 size, .int .i64 id, .int .i64 role, .slice vA vn vc, .slice nA nn nc, .slice pA pn pc, .int .i64 com, .slice y.rA y.rs.length y.rc, .slice y.mA y.ms.length y.mc, .slice y.gA y.gs.length y.gc, .int .i64 y.time, .slice y.dA y.ds.length y.dc, .slice y.lA y.ls.length y.lc, .slice dA db.length dc, .int .i64 su, .slice hA0 hs.length hc]) /\ Below w.heap.size w w' := by
 have P1 : Blk (((w.alloc (.cells #[.int .i64 ro, .int .i64 wi, .int .i64 le, .int .i64 ke] 88)).alloc (.cells #[.int .i64 id, .int .i64 te, .int .i64 vo, .int .i64 base, .int .i64 bt, .slice A l.length cap, .slice x.rA x.rs.length x.rc, .slice x.mA x.ms.length x.mc, .slice x.gA x.gs.length x.gc, .int .i64 x.time, .slice x.dA x.ds.length x.dc, .slice x.lA x.ls.length x.lc, .int .i64 role, .slice vA vn vc, .slice nA nn nc, .slice pA pn pc, .int .i64 com, .slice y.rA y.rs.length y.rc, .slice y.mA y.ms.length y.mc, .slice y.gA y.gs.length y.gc, .int .i64 y.time, .slice y.dA y.ds.length y.dc, .slice y.lA y.ls.length y.lc, .slice dA db.length dc, .int .i64 su, .slice hA0 hs.length hc] 59)).alloc (.cells #[.int .i64 0, .int .i64 0, .int .i64 0, .int .i64 0, .slice none 0 0, .slice none 0 0, .slice none 0 0, .slice none 0 0, .int .i64 0, .slice none 0 0, .slice none 0 0, .int .i64 0, .int .i64 0, .int .i64 0, .int .i64 0, .int .i64 0, .int .i64 0, .int .i64 0, .slice none 0 0, .slice none 0 0, .slice none 0 0, .int .i64 0, .slice none 0 0, .slice none 0 0, .slice none 0 0, .int .i64 0, .slice none 0 0, .slice none 0 0, .slice none 0 0, .int .i64 0, .slice none 0 0] 90)) w.heap.size 88 #[.int .i64 ro, .int .i64 wi, .int .i64 le, .int .i64 ke] := ((Blk.new w _ _).alloc _).alloc _
 have P3 : Blk (((w.alloc (.cells #[.int .i64 ro, .int .i64 wi, .int .i64 le, .int .i64 ke] 88)).alloc (.cells #[.int .i64 id, .int .i64 te, .int .i64 vo, .int .i64 base, .int .i64 bt, .slice A l.length cap, .slice x.rA x.rs.length x.rc, .slice x.mA x.ms.length x.mc, .slice x.gA x.gs.length x.gc, .int .i64 x.time, .slice x.dA x.ds.length x.dc, .slice x.lA x.ls.length x.lc, .int .i64 role, .slice vA vn vc, .slice nA nn nc, .slice pA pn pc, .int .i64 com, .slice y.rA y.rs.length y.rc, .slice y.mA y.ms.length y.mc, .slice y.gA y.gs.length y.gc, .int .i64 y.time, .slice y.dA y.ds.length y.dc, .slice y.lA y.ls.length y.lc, .slice dA db.length dc, .int .i64 su, .slice hA0 hs.length hc] 59)).alloc (.cells #[.int .i64 0, .int .i64 0, .int .i64 0, .int .i64 0, .slice none 0 0, .slice none 0 0, .slice none 0 0, .slice none 0 0, .int .i64 0, .slice none 0 0, .slice none 0 0, .int .i64 0, .int .i64 0, .int .i64 0, .int .i64 0, .int .i64 0, .int .i64 0, .int .i64 0, .slice none 0 0, .slice none 0 0, .slice none 0 0, .int .i64 0, .slice none 0 0, .slice none 0 0, .slice none 0 0, .int .i64 0, .slice none 0 0, .slice none 0 0, .slice none 0 0, .int .i64 0, .slice none 0 0] 90)) (w.heap.size + 1 + 1) 90 #[.int .i64 0, .int .i64 0, .int .i64 0, .int .i64 0, .slice none 0 0, .slice none 0 0, .slice none 0 0, .slice none 0 0, .int .i64 0, .slice none 0 0, .slice none 0 0, .int .i64 0, .int .i64 0, .int .i64 0, .int .i64 0, .int .i64 0, .int .i64 0, .int .i64 0, .slice none 0 0, .slice none 0 0, .slice none 0 0, .int .i64 0, .slice none 0 0, .slice none 0 0, .slice none 0 0, .int .i64 0, .slice none 0 0, .slice none 0 0, .slice none 0 0, .int .i64 0, .slice none 0 0] := by have := Blk.new ((w.alloc (.cells #[.int .i64 ro, .int .i64 wi, .int .i64 le, .int .i64 ke] 88)).alloc (.cells #[.int .i64 id, .int .i64 te, .int .i64 vo, .int .i64 base, .int .i64 bt, .slice A l.length cap, .slice x.rA x.rs.length x.rc, .slice x.mA x.ms.length x.mc, .slice x.gA x.gs.length x.gc, .int .i64 x.time, .slice x.dA x.ds.length x.dc, .slice x.lA x.ls.length x.lc, .int .i64 role, .slice vA vn vc, .slice nA nn nc, .slice pA pn pc, .int .i64 com, .slice y.rA y.rs.length y.rc, .slice y.mA y.ms.length y.mc, .slice y.gA y.gs.length y.gc, .int .i64 y.time, .slice y.dA y.ds.length y.dc, .slice y.lA y.ls.length y.lc, .slice dA db.length dc, .int .i64 su, .slice hA0 hs.length hc] 59)) 90 #[.int .i64 0, .int .i64 0, .int .i64 0, .int .i64 0, .slice none 0 0, .slice none 0 0, .slice none 0 0, .slice none 0 0, .int .i64 0, .slice none 0 0, .slice none 0 0, .int .i64 0, .int .i64 0, .int .i64 0, .int .i64 0, .int .i64 0, .int .i64 0, .int .i64 0, .slice none 0 0, .slice none 0 0, .slice none 0 0, .int .i64 0, .slice none 0 0, .slice none 0 0, .slice none 0 0, .int .i64 0, .slice none 0 0, .slice none 0 0, .slice none 0 0, .int .i64 0, .slice none 0 0]; rwa [World.size_alloc, World.size_alloc] at this
 go_enter Tryz.func31, Tryz.ntmps31
 go_upto_region 1 with fail
 refine wp_region_lit ?_
 iterate 69 go_step
 refine Qam rfl 90 _ _ rfl (g := w.heap.size + 1 + 1) (cells := #[.int .i64 te, .int .i64 vo, .int .i64 base, .int .i64 bt, .slice A l.length cap, .slice x.rA x.rs.length x.rc, .slice x.mA x.ms.length x.mc, .slice x.gA x.gs.length x.gc, .int .i64 x.time, .slice x.dA x.ds.length x.dc, .slice x.lA x.ls.length x.lc, .int .i64 ro, .int .i64 wi, .int .i64 le, .int .i64 ke, .int .i64 size, .int .i64 id, .int .i64 role, .slice vA vn vc, .slice nA nn nc, .slice pA pn pc, .int .i64 com, .slice y.rA y.rs.length y.rc, .slice y.mA y.ms.length y.mc, .slice y.gA y.gs.length y.gc, .int .i64 y.time, .slice y.dA y.ds.length y.dc, .slice y.lA y.ls.length y.lc, .slice dA db.length dc, .int .i64 su, .slice hA0 hs.length hc]) rfl rfl P3 (by kernel_rfl) rfl (by simp [Value.oneCell']) ?_
 refine wpList_nil ?_
 have HB := hidP (P3.row #[.int .i64 te, .int .i64 vo, .int .i64 base, .int .i64 bt, .slice A l.length cap, .slice x.rA x.rs.length x.rc, .slice x.mA x.ms.length x.mc, .slice x.gA x.gs.length x.gc, .int .i64 x.time, .slice x.dA x.ds.length x.dc, .slice x.lA x.ls.length x.lc, .int .i64 ro, .int .i64 wi, .int .i64 le, .int .i64 ke, .int .i64 size, .int .i64 id, .int .i64 role, .slice vA vn vc, .slice nA nn nc, .slice pA pn pc, .int .i64 com, .slice y.rA y.rs.length y.rc, .slice y.mA y.ms.length y.mc, .slice y.gA y.gs.length y.gc, .int .i64 y.time, .slice y.dA y.ds.length y.dc, .slice y.lA y.ls.length y.lc, .slice dA db.length dc, .int .i64 su, .slice hA0 hs.length hc])
 have B0 := hidP (show Below w.heap.size w (((w.alloc (.cells #[.int .i64 ro, .int .i64 wi, .int .i64 le, .int .i64 ke] 88)).alloc (.cells #[.int .i64 id, .int .i64 te, .int .i64 vo, .int .i64 base, .int .i64 bt, .slice A l.length cap, .slice x.rA x.rs.length x.rc, .slice x.mA x.ms.length x.mc, .slice x.gA x.gs.length x.gc, .int .i64 x.time, .slice x.dA x.ds.length x.dc, .slice x.lA x.ls.length x.lc, .int .i64 role, .slice vA vn vc, .slice nA nn nc, .slice pA pn pc, .int .i64 com, .slice y.rA y.rs.length y.rc, .slice y.mA y.ms.length y.mc, .slice y.gA y.gs.length y.gc, .int .i64 y.time, .slice y.dA y.ds.length y.dc, .slice y.lA y.ls.length y.lc, .slice dA db.length dc, .int .i64 su, .slice hA0 hs.length hc] 59)).alloc (.cells #[.int .i64 0, .int .i64 0, .int .i64 0, .int .i64 0, .slice none 0 0, .slice none 0 0, .slice none 0 0, .slice none 0 0, .int .i64 0, .slice none 0 0, .slice none 0 0, .int .i64 0, .int .i64 0, .int .i64 0, .int .i64 0, .int .i64 0, .int .i64 0, .int .i64 0, .slice none 0 0, .slice none 0 0, .slice none 0 0, .int .i64 0, .slice none 0 0, .slice none 0 0, .slice none 0 0, .int .i64 0, .slice none 0 0, .slice none 0 0, .slice none 0 0, .int .i64 0, .slice none 0 0] 90)) from Qab (Qab (Qab (Below.refl _ _) _) _) _)
 clear P1 P3
 go_wp2
 exact bodyPost_ret (v := .agg #[.int .i64 te, .int .i64 vo, .int .i64 base, .int .i64 bt, .slice A l.length cap, .slice x.rA x.rs.length x.rc, .slice x.mA x.ms.length x.mc, .slice x.gA x.gs.length x.gc, .int .i64 x.time, .slice x.dA x.ds.length x.dc, .slice x.lA x.ls.length x.lc, .int .i64 ro, .int .i64 wi, .int .i64 le, .int .i64 ke, .int .i64 size, .int .i64 id, .int .i64 role, .slice vA vn vc, .slice nA nn nc, .slice pA pn pc, .int .i64 com, .slice y.rA y.rs.length y.rc, .slice y.mA y.ms.length y.mc, .slice y.gA y.gs.length y.gc, .int .i64 y.time, .slice y.dA y.ds.length y.dc, .slice y.lA y.ls.length y.lc, .slice dA db.length dc, .int .i64 su, .slice hA0 hs.length hc]) (Qbm (by rfl) rfl HB.out Tryz.underlying90 (by kernel_rfl)) rfl ⟨rfl, Qbx B0.out (by omega) _⟩
theorem told_node (ro wi le ke id te vo base bt role com su size : Int) (A vA nA pA dA hA0 : Option Addr) (cap vn vc nn nc pn pc dc hc : Nat) (l : List En) (db : List UInt8) (hs : List RpC) (x y : KC) (w : World) :
 Calls Tryz.prog 34 #[.agg #[.int .i64 te, .int .i64 vo, .int .i64 base, .int .i64 bt, .slice A l.length cap, .slice x.rA x.rs.length x.rc, .slice x.mA x.ms.length x.mc, .slice x.gA x.gs.length x.gc, .int .i64 x.time, .slice x.dA x.ds.length x.dc, .slice x.lA x.ls.length x.lc, .int .i64 ro, .int .i64 wi, .int .i64 le, .int .i64 ke, .int .i64 size, .int .i64 id, .int .i64 role, .slice vA vn vc, .slice nA nn nc, .slice pA pn pc, .int .i64 com, .slice y.rA y.rs.length y.rc, .slice y.mA y.ms.length y.mc, .slice y.gA y.gs.length y.gc, .int .i64 y.time, .slice y.dA y.ds.length y.dc, .slice y.lA y.ls.length y.lc, .slice dA db.length dc, .int .i64 su, .slice hA0 hs.length hc]] w fun e w' => e = .returned (.agg #[.int .i64 id, .int .i64 te, .int .i64 vo, .int .i64 base, .int .i64 bt, .slice A l.length cap, .slice x.rA x.rs.length x.rc, .slice x.mA x.ms.length x.mc, .slice x.gA x.gs.length x.gc, .int .i64 x.time, .slice x.dA x.ds.length x.dc, .slice x.lA x.ls.length x.lc, .int .i64 role, .slice vA vn vc, .slice nA nn nc, .slice pA pn pc, .int .i64 com, .slice y.rA y.rs.length y.rc, .slice y.mA y.ms.length y.mc, .slice y.gA y.gs.length y.gc, .int .i64 y.time, .slice y.dA y.ds.length y.dc, .slice y.lA y.ls.length y.lc, .slice dA db.length dc, .int .i64 su, .slice hA0 hs.length hc]) /\ Below w.heap.size w w' := by
 have P3 : Blk ((w.alloc (.cells #[.int .i64 te, .int .i64 vo, .int .i64 base, .int .i64 bt, .slice A l.length cap, .slice x.rA x.rs.length x.rc, .slice x.mA x.ms.length x.mc, .slice x.gA x.gs.length x.gc, .int .i64 x.time, .slice x.dA x.ds.length x.dc, .slice x.lA x.ls.length x.lc, .int .i64 ro, .int .i64 wi, .int .i64 le, .int .i64 ke, .int .i64 size, .int .i64 id, .int .i64 role, .slice vA vn vc, .slice nA nn nc, .slice pA pn pc, .int .i64 com, .slice y.rA y.rs.length y.rc, .slice y.mA y.ms.length y.mc, .slice y.gA y.gs.length y.gc, .int .i64 y.time, .slice y.dA y.ds.length y.dc, .slice y.lA y.ls.length y.lc, .slice dA db.length dc, .int .i64 su, .slice hA0 hs.length hc] 90)).alloc (.cells #[.int .i64 0, .int .i64 0, .int .i64 0, .int .i64 0, .int .i64 0, .slice none 0 0, .slice none 0 0, .slice none 0 0, .slice none 0 0, .int .i64 0, .slice none 0 0, .slice none 0 0, .int .i64 0, .slice none 0 0, .slice none 0 0, .slice none 0 0, .int .i64 0, .slice none 0 0, .slice none 0 0, .slice none 0 0, .int .i64 0, .slice none 0 0, .slice none 0 0, .slice none 0 0, .int .i64 0, .slice none 0 0] 59)) (w.heap.size + 1) 59 #[.int .i64 0, .int .i64 0, .int .i64 0, .int .i64 0, .int .i64 0, .slice none 0 0, .slice none 0 0, .slice none 0 0, .slice none 0 0, .int .i64 0, .slice none 0 0, .slice none 0 0, .int .i64 0, .slice none 0 0, .slice none 0 0, .slice none 0 0, .int .i64 0, .slice none 0 0, .slice none 0 0, .slice none 0 0, .int .i64 0, .slice none 0 0, .slice none 0 0, .slice none 0 0, .int .i64 0, .slice none 0 0] := by have := Blk.new (w.alloc (.cells #[.int .i64 te, .int .i64 vo, .int .i64 base, .int .i64 bt, .slice A l.length cap, .slice x.rA x.rs.length x.rc, .slice x.mA x.ms.length x.mc, .slice x.gA x.gs.length x.gc, .int .i64 x.time, .slice x.dA x.ds.length x.dc, .slice x.lA x.ls.length x.lc, .int .i64 ro, .int .i64 wi, .int .i64 le, .int .i64 ke, .int .i64 size, .int .i64 id, .int .i64 role, .slice vA vn vc, .slice nA nn nc, .slice pA pn pc, .int .i64 com, .slice y.rA y.rs.length y.rc, .slice y.mA y.ms.length y.mc, .slice y.gA y.gs.length y.gc, .int .i64 y.time, .slice y.dA y.ds.length y.dc, .slice y.lA y.ls.length y.lc, .slice dA db.length dc, .int .i64 su, .slice hA0 hs.length hc] 90)) 59 #[.int .i64 0, .int .i64 0, .int .i64 0, .int .i64 0, .int .i64 0, .slice none 0 0, .slice none 0 0, .slice none 0 0, .slice none 0 0, .int .i64 0, .slice none 0 0, .slice none 0 0, .int .i64 0, .slice none 0 0, .slice none 0 0, .slice none 0 0, .int .i64 0, .slice none 0 0, .slice none 0 0, .slice none 0 0, .int .i64 0, .slice none 0 0, .slice none 0 0, .slice none 0 0, .int .i64 0, .slice none 0 0]; rwa [World.size_alloc] at this
 go_enter Tryz.func34, Tryz.ntmps34
 go_upto_region 1 with fail
 refine wp_region_lit ?_
 iterate 63 go_step
 refine Qam rfl 59 _ _ rfl (g := w.heap.size + 1) (cells := #[.int .i64 id, .int .i64 te, .int .i64 vo, .int .i64 base, .int .i64 bt, .slice A l.length cap, .slice x.rA x.rs.length x.rc, .slice x.mA x.ms.length x.mc, .slice x.gA x.gs.length x.gc, .int .i64 x.time, .slice x.dA x.ds.length x.dc, .slice x.lA x.ls.length x.lc, .int .i64 role, .slice vA vn vc, .slice nA nn nc, .slice pA pn pc, .int .i64 com, .slice y.rA y.rs.length y.rc, .slice y.mA y.ms.length y.mc, .slice y.gA y.gs.length y.gc, .int .i64 y.time, .slice y.dA y.ds.length y.dc, .slice y.lA y.ls.length y.lc, .slice dA db.length dc, .int .i64 su, .slice hA0 hs.length hc]) rfl rfl P3 (by kernel_rfl) rfl (by simp [Value.oneCell']) ?_
 refine wpList_nil ?_
 have HB := hidP (P3.row #[.int .i64 id, .int .i64 te, .int .i64 vo, .int .i64 base, .int .i64 bt, .slice A l.length cap, .slice x.rA x.rs.length x.rc, .slice x.mA x.ms.length x.mc, .slice x.gA x.gs.length x.gc, .int .i64 x.time, .slice x.dA x.ds.length x.dc, .slice x.lA x.ls.length x.lc, .int .i64 role, .slice vA vn vc, .slice nA nn nc, .slice pA pn pc, .int .i64 com, .slice y.rA y.rs.length y.rc, .slice y.mA y.ms.length y.mc, .slice y.gA y.gs.length y.gc, .int .i64 y.time, .slice y.dA y.ds.length y.dc, .slice y.lA y.ls.length y.lc, .slice dA db.length dc, .int .i64 su, .slice hA0 hs.length hc])
 have B0 := hidP (show Below w.heap.size w ((w.alloc (.cells #[.int .i64 te, .int .i64 vo, .int .i64 base, .int .i64 bt, .slice A l.length cap, .slice x.rA x.rs.length x.rc, .slice x.mA x.ms.length x.mc, .slice x.gA x.gs.length x.gc, .int .i64 x.time, .slice x.dA x.ds.length x.dc, .slice x.lA x.ls.length x.lc, .int .i64 ro, .int .i64 wi, .int .i64 le, .int .i64 ke, .int .i64 size, .int .i64 id, .int .i64 role, .slice vA vn vc, .slice nA nn nc, .slice pA pn pc, .int .i64 com, .slice y.rA y.rs.length y.rc, .slice y.mA y.ms.length y.mc, .slice y.gA y.gs.length y.gc, .int .i64 y.time, .slice y.dA y.ds.length y.dc, .slice y.lA y.ls.length y.lc, .slice dA db.length dc, .int .i64 su, .slice hA0 hs.length hc] 90)).alloc (.cells #[.int .i64 0, .int .i64 0, .int .i64 0, .int .i64 0, .int .i64 0, .slice none 0 0, .slice none 0 0, .slice none 0 0, .slice none 0 0, .int .i64 0, .slice none 0 0, .slice none 0 0, .int .i64 0, .slice none 0 0, .slice none 0 0, .slice none 0 0, .int .i64 0, .slice none 0 0, .slice none 0 0, .slice none 0 0, .int .i64 0, .slice none 0 0, .slice none 0 0, .slice none 0 0, .int .i64 0, .slice none 0 0] 59)) from Qab (Qab (Below.refl _ _) _) _)
 clear P3
 go_wp2
 exact bodyPost_ret (v := .agg #[.int .i64 id, .int .i64 te, .int .i64 vo, .int .i64 base, .int .i64 bt, .slice A l.length cap, .slice x.rA x.rs.length x.rc, .slice x.mA x.ms.length x.mc, .slice x.gA x.gs.length x.gc, .int .i64 x.time, .slice x.dA x.ds.length x.dc, .slice x.lA x.ls.length x.lc, .int .i64 role, .slice vA vn vc, .slice nA nn nc, .slice pA pn pc, .int .i64 com, .slice y.rA y.rs.length y.rc, .slice y.mA y.ms.length y.mc, .slice y.gA y.gs.length y.gc, .int .i64 y.time, .slice y.dA y.ds.length y.dc, .slice y.lA y.ls.length y.lc, .slice dA db.length dc, .int .i64 su, .slice hA0 hs.length hc]) (Qbm (by rfl) rfl HB.out Tryz.underlying59 (by kernel_rfl)) rfl ⟨rfl, Qbx B0.out (by omega) _⟩
end Go.Proofs.YtmdaammalacifaaGreat.Gen
