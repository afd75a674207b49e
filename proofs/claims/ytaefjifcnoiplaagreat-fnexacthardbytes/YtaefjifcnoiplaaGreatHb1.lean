/-
  The program's notes of a log's entries. No condition but that the log's numbers are within their limits.
-/
import Derived.Test.YtaefjifcnoiplaaGreatHb0
namespace Go.Proofs.YtaefjifcnoiplaaGreat.Gen
open Go.ChangeShapes Go.WideShapes Go.ChangeAt Go.RowKit Go.Joins Go.Deep Base
set_option linter.unusedVariables false
set_option linter.unusedSimpArgs false
structure JH (w W : World) (a : Option Addr) (c : Nat) (ps : List HN) : Prop where
  bl : Below w.heap.size w W
  own : W.ownsRow w.heap.size 67 6 (.slice a ps.length c) ps.length (flat ps)
theorem JH.below {w W W1 : World} {a : Option Addr} {c : Nat} {ps : List HN} (h : JH w W a c ps) (g : Below W.heap.size W W1) : JH w W1 a c ps := ⟨via0 g h.bl, owns_below h.own g⟩
theorem JH.apps {w W : World} {a a1 : Option Addr} {c c1 : Nat} {ps qs : List HN} (h : JH w W a c ps) (hq : At W a1 qs) (hx : ps.length + qs.length <= 100000) :
    ∃ a2 c2 W2, (Builtin.append_ #[64, 64] 64 #[.slice a ps.length c, .slice a1 qs.length c1]).run Tryz.prog W = .ok (.slice a2 (ps ++ qs).length c2) W2 /\ JH w W2 a2 c2 (ps ++ qs) := by
  obtain ⟨v', W2, hr, hown, hgrow, hob⟩ := append_els (P := Tryz.prog) (α := HN) Tryz.underlying64 infoHN rfl (by decide) (by decide) w.heap.size (.slice a ps.length c) ps qs a1 c1 W h.bl.size h.own hq (by omega)
  rw [← List.length_append] at hown
  obtain ⟨a2, c2, rfl, _⟩ := owns_form hown
  exact ⟨a2, c2, W2, hr, h.bl.grown hgrow h.bl.size (fun j e => Nat.le_of_not_lt fun q => owns_far h.own q e.symm), hown⟩
theorem JH.app {w W : World} {a : Option Addr} {c : Nat} {ps : List HN} (h : JH w W a c ps) (x : HN) (cs : Array Value) (hcs : cs.toList = Cel.cs x) (hx : ps.length <= 1000) :
    ∃ a2 c2 W2, (Builtin.append_ #[64, 64] 64 #[.slice a ps.length c, .slice (some ⟨W.heap.size, 0, none⟩) 1 1]).run Tryz.prog (W.alloc (.cells cs 67)) = .ok (.slice a2 (ps ++ [x]).length c2) W2 /\ JH w W2 a2 c2 (ps ++ [x]) := by
  have hX : At (W.alloc (.cells cs 67)) (some ⟨W.heap.size, 0, none⟩) [x] := by
    refine .inr ⟨_, 0, rfl, by simp, fun j u hu => ?_⟩
    rw [flat_one, ← hcs] at hu
    rw [Nat.zero_add]
    exact (Blk.new W 67 cs).cell (by simpa using hu)
  have h1 := (h.below (alloc0 (Below.refl _ W) (.cells cs 67))).apps (c1 := 1) hX (by simp; omega)
  rw [List.length_singleton] at h1
  exact h1
theorem pu_nums {base : Int} {n len : Nat} (h0 : 0 <= base) (h1 : base <= 300) (hl : (len : Int) <= 300 - base) (hlt : n < len) : ∃ t, min (n + 40) len = t /\ n <= t /\ t <= len /\ wrap64 (base + (n : Int)) = base + (n : Int) /\ wrap64 ((n : Int) + 40) = (n : Int) + 40 /\ (if (len : Int) < (n : Int) + 40 then (len : Int) else (n : Int) + 40) = (t : Int) /\ (I64 base /\ I64 (base + (n : Int))) /\ len <= 3000000 := by
  refine ⟨_, rfl, by omega, by omega, by unfold wrap64; omega, by unfold wrap64; omega, ?_, ⟨by unfold I64; omega, by unfold I64; omega⟩, by omega⟩
  split<;>omega
structure Pu (w0 w W : World) (base bt : Int) (A : Option Addr) (cap : Nat) (l : List En) (f n : Nat) (a : Option Addr) (c : Nat) (ps : List HN) : Prop where
  j : JH (w.alloc (.cells #[.int .i64 base, .int .i64 bt, .slice A l.length cap] 43)) W a c ps
  ea : EachH w0 ps
  m : ps.map HN.p ++ restN base bt l f n = restN base bt l l.length 0
  f : l.length <= f + n
  le : ps.length <= n
set_option maxRecDepth 100000 in
set_option maxHeartbeats 1000000 in
theorem puts_any (base bt : Int) (A : Option Addr) (cap : Nat) (l : List En) (hb : 0 <= base /\ base <= 300) (hl : (l.length : Int) <= 300 - base) (hc : l.length <= cap /\ cap <= maxLen) (w0 w : World) (hA : At w0 A l) (hw : Below w0.heap.size w0 w) :
    Calls Tryz.prog 52 #[.agg #[.int .i64 base, .int .i64 bt, .slice A l.length cap]] w fun e w' => ∃ a c ps, e = .returned (.slice a (List.length ps) c) /\ JH w w' a c ps /\ EachH w0 ps /\ ps.map HN.p = restN base bt l l.length 0 := by
  have P0 := hidP (Blk.new w 43 #[.int .i64 base, .int .i64 bt, .slice A l.length cap])
  have B0 : Below w.heap.size w (w.alloc (.cells #[.int .i64 base, .int .i64 bt, .slice A l.length cap] 43)) := alloc0 (Below.refl _ w) _
  have HA := hidP ((hA.below hw).below B0)
  have HA0 := hidP hA
  have HB := hidP B0
  have J0 : Pu w0 w (w.alloc (.cells #[.int .i64 base, .int .i64 bt, .slice A l.length cap] 43)) base bt A cap l l.length 0 none 0 [] := ⟨⟨Below.refl _ _, World.ownsRow_nil _ _ _ _⟩, fun x hx => (by cases hx), (by simp), (by omega), (by simp)⟩
  have HJ := hidP J0
  have Hhl := hidP hl
  clear hA J0 B0 hl hw
  obtain ⟨hb0, hb1⟩ := hb
  go_enter Tryz.func52, Tryz.ntmps52
  go_wp2
  go_loopw [3, 4] (fun v i W => ∃ (n f : Nat) (a : Option Addr) (c : Nat) (ps : List HN), i = .int .i64 (n : Int) /\ v = .slice a (List.length ps) c /\ n <= l.length + 40 /\ Hid (Pu w0 w W base bt A cap l f n a c ps)) (fun _ i _ => l.length + 40 - (intOf i).toNat)
  case atStart => exact ⟨0, l.length, none, 0, [], rfl, rfl, by omega, HJ⟩
  case round =>
    obtain ⟨n, f, a, c, ps, rfl, rfl, hn, H⟩ := hrel
    have P1 := P0.out.below H.out.j.bl P0.out.lt
    obtain ⟨u0, u1, u2⟩ := P1.row3
    have q1 := P1.lt
    clear P1
    have hli : (l.length : Int) <= 300 := by have := Hhl.out; omega
    by_cases hlt : n < l.length
    . obtain ⟨g, hf, hg, hR⟩ := restN_step base bt l f n hlt H.out.f
      have hi1 : (n : Int) < (l.length : Int) := by omega
      obtain ⟨t, ht, ht0, ht1, hw1, hw2, hm, hi64, hl3⟩ := pu_nums hb0 hb1 Hhl.out hlt
      have hcl : chL l n = (l.take t).drop n := by unfold chL; rw [ht]
      have hlc : (chL l n).length = t - n := by rw [chL_len, ht]
      have HC := hidP (cutOf_any A l.length cap n t ht0 (Nat.le_trans ht1 hc.1) hc.2)
      have HT := hidP (implTermAt_any base bt (base + (n : Int)) hi64 A cap l hl3)
      have HAc := hidP (HA0.out.cut t n)
      rw [← hcl] at HAc
      have Hn := hidP hn
      have Hlen := hidP hlc
      have Hf := hidP (And.intro hg hR)
      clear hcl ht hn hlc hf hg hR hi64 hl3 ht0 ht1
      go_wp2_with fail
      refine (HC.out _).mono ?_
      rintro e w1 ⟨rfl, rfl⟩
      go_wp2_with fail
      refine (HT.out _ (HA.out.below H.out.j.bl)).mono ?_
      rintro e w1 ⟨rfl, g1⟩
      have J1 := H.out.j.below g1
      obtain ⟨a2, c2, W2, hr, J2⟩ := J1.app ⟨2, termAt base bt (base + (n : Int)) l, 0, base + (n : Int), cutA A t n, t - n, chL l n, ⟨#[]⟩⟩ #[.int .i64 2, .int .i64 (termAt base bt (base + (n : Int)) l), .int .i64 0, .int .i64 (base + (n : Int)), .slice (cutA A t n) (t - n) (t - n), .string ⟨#[]⟩] (by simp only [Cel.cs]; rw [Hlen.out]) (by have := H.out.le; omega)
      have K : Hid (Pu w0 w W2 base bt A cap l g (n + 40) a2 c2 (ps ++ [⟨2, termAt base bt (base + (n : Int)) l, 0, base + (n : Int), cutA A t n, t - n, chL l n, ⟨#[]⟩⟩])) := by
        refine ⟨J2, ?_, ?_, Hf.out.1, ?_⟩
        . intro x hx
          rcases List.mem_append.1 hx with h | h
          . exact H.out.ea x h
          . rw [List.mem_singleton] at h
            subst h
            exact HAc.out
        . have h9 := H.out.m
          rw [Hf.out.2] at h9
          rw [List.map_append, List.append_assoc]
          exact h9
        . have h9 := H.out.le
          rw [List.length_append, List.length_singleton]
          omega
      clear J1 J2 g1 H
      generalize ps ++ [(⟨2, termAt base bt (base + (n : Int)) l, 0, base + (n : Int), cutA A t n, t - n, chL l n, ⟨#[]⟩⟩ : HN)] = qs at *
      go_wp2_with (at_builtin; refine wpList_append_is rfl _ _ _ rfl _ _ _ rfl rfl hr ?_)
      exact ⟨⟨n + 40, g, a2, c2, qs, by go_num, rfl, by omega, K⟩, by simp [intOf]; omega⟩
    . have hM := H.out.m
      rw [restN_done base bt l f n hlt, List.append_nil] at hM
      have HM := hidP hM
      clear hM
      go_wp2
      go_ret
      exact ⟨a, c, ps, rfl, ⟨via0 H.out.j.bl HB.out, owns_mono H.out.j.own HB.out.size⟩, H.out.ea, HM.out⟩
end Go.Proofs.YtaefjifcnoiplaaGreat.Gen
