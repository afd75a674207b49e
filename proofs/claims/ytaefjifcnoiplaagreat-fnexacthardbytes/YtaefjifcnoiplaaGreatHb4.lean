/-
  The specification's bytes of what a node must keep. No condition but the sizes of its lists and texts.
-/
import Derived.Test.YtaefjifcnoiplaaGreatHb3
import Derived.Test.YtaefjifcnoiplaaGreatKS2
import Derived.Test.YtaefjifcnoiplaaGreatGpList
import Derived.Deep.CutBlock
namespace Go.Proofs.YtaefjifcnoiplaaGreat.Gen
open Go.ChangeShapes Go.WideShapes Go.ChangeAt Go.RowKit Go.Joins Go.Deep Base
set_option linter.unusedVariables false
set_option linter.unusedSimpArgs false
theorem min11_any (a b : Int) (w : World) : Calls Tryz.prog 39 #[.int .i64 a, .int .i64 b] w fun e w' => e = .returned (.int .i64 (min a b)) /\ w' = w := by
  by_cases h : a < b
  . rw [show min a b = a by omega]
    go_enter Tryz.func39, Tryz.ntmps39
    go_wp2
    go_ret
    exact ⟨rfl, rfl⟩
  . rw [show min a b = b by omega]
    go_enter Tryz.func39, Tryz.ntmps39
    go_wp2
    go_ret
    exact ⟨rfl, rfl⟩
theorem cut_two (A : Option Addr) (n c i j : Nat) (h1 : i <= j) (h2 : j <= c) (hc : c <= maxLen) (w : World) :
    (Instr.slice 41 (.slice A n c) (some (.int .i64 (i : Int))) (some (.int .i64 (j : Int))) none).run Tryz.prog w = .ok (.slice (cutA A c i) (j - i) (c - i)) w := by
  have hc' : c <= 9223372036854775807 := hc
  by_cases h : c = i
  . simp [Instr.slice, run_underlying Tryz.underlying41, Instr.sliceBounds, Instr.sliceBound, asIntOf, cut_size, cutA, h, h1, h2]
    omega
  . simp [Instr.slice, run_underlying Tryz.underlying41, Instr.sliceBounds, Instr.sliceBound, asIntOf, cut_size, cutA, h, h1, h2]
theorem At.cut2 {w : World} {A : Option Addr} {l : List En} (h : At w A l) {m t n : Nat} (hm : l.length <= m) (ht : min (n + 40) l.length = t) : At w (cutA A m n) (chL l n) := by
  have h1 := (h.cutFrom n hm).take (t - n)
  have e : chL l n = (l.drop n).take (t - n) := by unfold chL; rw [ht, List.drop_take]
  rw [e]; exact h1
structure Sb (w W : World) (te vo base bt : Int) (A : Option Addr) (cap : Nat) (l : List En) (x : KC) (f n : Nat) (T : List UInt8) (tm : Int) (a : Option Addr) (c : Nat) (xs : List UInt8) : Prop where
  j : Jo (w.alloc (.cells #[.int .i64 te, .int .i64 vo, .int .i64 base, .int .i64 bt, .slice A l.length cap, .slice x.rA x.rs.length x.rc, .slice x.mA x.ms.length x.mc, .slice x.gA x.gs.length x.gc, .int .i64 x.time, .slice x.dA x.ds.length x.dc, .slice x.lA x.ls.length x.lc] 51)) W a c xs
  m : xs ++ (restN base bt l f n).flatMap HP.b = T
  f : l.length <= f + n
  t : n < l.length -> tm = termAt base bt (base + (n : Int)) l
theorem sb_nums {base : Int} {n len : Nat} (h0 : 0 <= base) (h1 : base <= 300) (hl : (len : Int) <= 300 - base) (hlt : n < len) : ∃ t s : Nat, min (n + 40) len = t /\ n <= t /\ t <= len /\ t = s + 1 /\ s < len /\ IntKind.i64.wrap (base + (n : Int)) = base + (n : Int) /\ wrap64 ((n : Int) + 40) = (n : Int) + 40 /\ min ((n : Int) + 40) (len : Int) = (t : Int) /\ wrap64 ((t : Int) - 1) = (s : Int) /\ (t - n <= 3000000 /\ (n : Int) < (len : Int) /\ (0 : Int) <= (s : Int) /\ (s : Int) < (len : Int)) := by
  refine ⟨_, min (n + 40) len - 1, rfl, by omega, by omega, by omega, by omega, by rw [IntKind.wrap_i64]; omega, by unfold wrap64; omega, by omega, ?_, by omega⟩
  unfold wrap64
  omega
theorem sb_round {w W : World} {te vo base bt : Int} {A : Option Addr} {cap : Nat} {l : List En} {x : KC} {T : List UInt8} (hr : ∀ y ∈ l, y.fit) (hc : l.length <= cap /\ cap <= maxLen) (hb0 : 0 <= base) (hb1 : base <= 300) (hl : (l.length : Int) <= 300 - base) (hA : At w A l) (hTL : T.length <= 20000000)
    (n f : Nat) (tm : Int) (a : Option Addr) (c : Nat) (xs : List UInt8) (H : Sb w W te vo base bt A cap l x f n T tm a c xs) (hlt : n < l.length) :
    ∃ (t s g : Nat) (tq : Int) (ys : List UInt8) (b o : Nat), A = some ⟨b, o, none⟩ /\ tm = termAt base bt (base + (n : Int)) l /\ (n : Int) < (l.length : Int) /\ (0 : Int) <= (s : Int) /\ (s : Int) < (l.length : Int) /\ IntKind.i64.wrap (base + (n : Int)) = base + (n : Int) /\ wrap64 ((n : Int) + 40) = (n : Int) + 40 /\ wrap64 ((t : Int) - 1) = (s : Int) /\
      (∀ V : World, (Instr.slice 41 (.slice (some ⟨b, o, none⟩) l.length cap) (some (.int .i64 (n : Int))) (some (.int .i64 (t : Int))) none).run Tryz.prog V = .ok (.slice (cutA (some ⟨b, o, none⟩) cap n) (t - n) (cap - n)) V) /\
      Hid (∀ V : World, Calls Tryz.prog 39 #[.int .i64 ((n : Int) + 40), .int .i64 (l.length : Int)] V fun e w' => e = .returned (.int .i64 (t : Int)) /\ w' = V) /\
      Hid (∀ V : World, Below (w.alloc (.cells #[.int .i64 te, .int .i64 vo, .int .i64 base, .int .i64 bt, .slice (some ⟨b, o, none⟩) l.length cap, .slice x.rA x.rs.length x.rc, .slice x.mA x.ms.length x.mc, .slice x.gA x.gs.length x.gc, .int .i64 x.time, .slice x.dA x.ds.length x.dc, .slice x.lA x.ls.length x.lc] 51)).heap.size (w.alloc (.cells #[.int .i64 te, .int .i64 vo, .int .i64 base, .int .i64 bt, .slice (some ⟨b, o, none⟩) l.length cap, .slice x.rA x.rs.length x.rc, .slice x.mA x.ms.length x.mc, .slice x.gA x.gs.length x.gc, .int .i64 x.time, .slice x.dA x.ds.length x.dc, .slice x.lA x.ls.length x.lc] 51)) V -> Calls Tryz.prog 37 #[.agg #[.int .i64 2, .int .i64 (termAt base bt (base + (n : Int)) l), .int .i64 0, .int .i64 (base + (n : Int)), .slice (cutA (some ⟨b, o, none⟩) cap n) (t - n) (cap - n), .string ⟨#[]⟩]] V fun e w' => ∃ a' c', e = .returned (.slice a' ys.length c') /\ Below V.heap.size V w' /\ w'.ownsRow V.heap.size 5 1 (.slice a' ys.length c') ys.length (flat ys)) /\
      Hid (ys.length <= 41000) /\ Hid (xs.length <= 20000000) /\ Hid ((xs ++ ys) ++ (restN base bt l g (n + 40)).flatMap HP.b = T) /\ Hid (n + 40 < l.length -> tq = termAt base bt (base + ((n + 40 : Nat) : Int)) l) /\
      Hid (∀ V : World, Below (w.alloc (.cells #[.int .i64 te, .int .i64 vo, .int .i64 base, .int .i64 bt, .slice (some ⟨b, o, none⟩) l.length cap, .slice x.rA x.rs.length x.rc, .slice x.mA x.ms.length x.mc, .slice x.gA x.gs.length x.gc, .int .i64 x.time, .slice x.dA x.ds.length x.dc, .slice x.lA x.ls.length x.lc] 51)).heap.size (w.alloc (.cells #[.int .i64 te, .int .i64 vo, .int .i64 base, .int .i64 bt, .slice (some ⟨b, o, none⟩) l.length cap, .slice x.rA x.rs.length x.rc, .slice x.mA x.ms.length x.mc, .slice x.gA x.gs.length x.gc, .int .i64 x.time, .slice x.dA x.ds.length x.dc, .slice x.lA x.ls.length x.lc] 51)) V -> V.cell? ⟨b, o + s * 9, none⟩ = some (.int .i64 tq) /\ b < V.heap.size) /\ Hid (l.length <= g + (n + 40)) := by
  obtain ⟨g, hf, hg, hR⟩ := restN_step base bt l f n hlt H.f
  obtain ⟨t, s, ht, ht0, ht1, hts, hs1, hw1, hw2, hm, hw3, hl3, hi1, hs0, hs2⟩ := sb_nums hb0 hb1 hl hlt
  obtain ⟨b, o, rfl, hbs, hin⟩ : ∃ b o, A = some ⟨b, o, none⟩ /\ b < w.heap.size /\ In w b o l := by
    rcases hA with h | h
    . subst h; simp at hlt
    . exact h
  have B0 : Below w.heap.size w (w.alloc (.cells #[.int .i64 te, .int .i64 vo, .int .i64 base, .int .i64 bt, .slice (some ⟨b, o, none⟩) l.length cap, .slice x.rA x.rs.length x.rc, .slice x.mA x.ms.length x.mc, .slice x.gA x.gs.length x.gc, .int .i64 x.time, .slice x.dA x.ds.length x.dc, .slice x.lA x.ls.length x.lc] 51)) := alloc0 (Below.refl _ w) _
  have hcl : (chL l n).length = t - n := by rw [chL_len, ht]
  have hMin : Hid (∀ V : World, Calls Tryz.prog 39 #[.int .i64 ((n : Int) + 40), .int .i64 (l.length : Int)] V fun e w' => e = .returned (.int .i64 (t : Int)) /\ w' = V) := fun V => by have h := min11_any ((n : Int) + 40) (l.length : Int) V; rw [hm] at h; exact h
  refine ⟨t, s, g, (l[s]'hs1).term, noteO 2 (termAt base bt (base + (n : Int)) l) 0 (base + (n : Int)) (chL l n) ⟨#[]⟩, b, o, rfl, H.t hlt, hi1, hs0, hs2, hw1, hw2, hw3, cut_two (some ⟨b, o, none⟩) l.length cap n t ht0 (Nat.le_trans ht1 hc.1) hc.2, hMin, fun V g' => ?_, noteO_le _ _ _ _ _ _, ?_, ?_, fun h => ?_, fun V g' => ?_, hg⟩
  . have h := specNoteBytes_any 2 (termAt base bt (base + (n : Int)) l) 0 (base + (n : Int)) ⟨#[]⟩ (by decide) (cutA (some ⟨b, o, none⟩) cap n) (cap - n) (chL l n) (by rw [hcl]; exact hl3) (fun y hy => hr y (List.mem_of_mem_take (List.mem_of_mem_drop hy))) V (((hA.cut2 hc.1 ht).below B0).below g')
    rw [hcl] at h
    exact h
  . show _ <= _
    clear hw1 hw2 hw3
    have h9 := congrArg List.length H.m
    rw [List.length_append] at h9
    omega
  . show _ = _
    have h9 := H.m
    rw [hR, List.flatMap_cons] at h9
    rw [List.append_assoc]
    exact h9
  . rw [term_next hb0 hl h]
    have e : s = n + 39 := by clear hw1 hw2 hw3 hm; omega
    subst e; rfl
  . exact ⟨(((hin.below hbs B0).below (Nat.lt_of_lt_of_le hbs B0.size) g').getEn s hs1).1, Nat.lt_of_lt_of_le hbs (Nat.le_trans B0.size g'.size)⟩
set_option maxRecDepth 100000 in
set_option maxHeartbeats 2000000 in
theorem l11_any (te vo base bt : Int) (A : Option Addr) (cap : Nat) (l : List En) (hr : ∀ y ∈ l, y.fit) (hc : l.length <= cap /\ cap <= maxLen) (hb : 0 <= base /\ base <= 300) (hl : (l.length : Int) <= 300 - base) (x : KC) (hkc : KcR x) (hkl : (kB x).length <= 400000000) (w : World) (hA : At w A l) (hX : KAt w x)
    (hTL : ((hardN te vo base bt l ⟨(kB x).toArray⟩).flatMap HP.b).length <= 20000000) :
    Calls Tryz.prog 17 #[.agg #[.int .i64 te, .int .i64 vo, .int .i64 base, .int .i64 bt, .slice A l.length cap, .slice x.rA x.rs.length x.rc, .slice x.mA x.ms.length x.mc, .slice x.gA x.gs.length x.gc, .int .i64 x.time, .slice x.dA x.ds.length x.dc, .slice x.lA x.ls.length x.lc]] w fun e w' => ∃ a' c', e = .returned (.slice a' ((hardN te vo base bt l ⟨(kB x).toArray⟩).flatMap HP.b).length c') /\ Jo w w' a' c' ((hardN te vo base bt l ⟨(kB x).toArray⟩).flatMap HP.b) := by
  have P0 : Blk (w.alloc (.cells #[.int .i64 te, .int .i64 vo, .int .i64 base, .int .i64 bt, .slice A l.length cap, .slice x.rA x.rs.length x.rc, .slice x.mA x.ms.length x.mc, .slice x.gA x.gs.length x.gc, .int .i64 x.time, .slice x.dA x.ds.length x.dc, .slice x.lA x.ls.length x.lc] 51)) w.heap.size 51 #[.int .i64 te, .int .i64 vo, .int .i64 base, .int .i64 bt, .slice A l.length cap, .slice x.rA x.rs.length x.rc, .slice x.mA x.ms.length x.mc, .slice x.gA x.gs.length x.gc, .int .i64 x.time, .slice x.dA x.ds.length x.dc, .slice x.lA x.ls.length x.lc] := Blk.new w _ _
  have B0 : Hid (Below w.heap.size w (w.alloc (.cells #[.int .i64 te, .int .i64 vo, .int .i64 base, .int .i64 bt, .slice A l.length cap, .slice x.rA x.rs.length x.rc, .slice x.mA x.ms.length x.mc, .slice x.gA x.gs.length x.gc, .int .i64 x.time, .slice x.dA x.ds.length x.dc, .slice x.lA x.ls.length x.lc] 51))) := alloc0 (Below.refl _ w) _
  obtain ⟨X1, hX1⟩ : ∃ X1, noteO 1 te vo 0 [] ⟨#[]⟩ = X1 := ⟨_, rfl⟩
  obtain ⟨X3, hX3⟩ : ∃ X3, noteO 3 bt 0 base [] ⟨(kB x).toArray⟩ = X3 := ⟨_, rfl⟩
  have HX1 : Hid (X1.length <= 41000) := by show _ <= _; rw [← hX1]; exact noteO_le _ _ _ _ _ _
  have HX3 : Hid (X3.length <= 41000) := by show _ <= _; rw [← hX3]; exact noteO_le _ _ _ _ _ _
  have H1 : Hid (∀ W : World, Calls Tryz.prog 37 #[.agg #[.int .i64 1, .int .i64 te, .int .i64 vo, .int .i64 0, .slice none 0 0, .string ⟨#[]⟩]] W fun e w' => ∃ a' c', e = .returned (.slice a' X1.length c') /\ Below W.heap.size W w' /\ w'.ownsRow W.heap.size 5 1 (.slice a' X1.length c') X1.length (flat X1)) := fun W => by
    have h := specNoteBytes_any 1 te vo 0 ⟨#[]⟩ (by decide) none 0 [] (by simp) (fun y hy => (by cases hy)) W (.inl rfl)
    rw [hX1] at h
    exact h
  have H3 : Hid (∀ W : World, Calls Tryz.prog 37 #[.agg #[.int .i64 3, .int .i64 bt, .int .i64 0, .int .i64 base, .slice none 0 0, .string ⟨(kB x).toArray⟩]] W fun e w' => ∃ a' c', e = .returned (.slice a' X3.length c') /\ Below W.heap.size W w' /\ w'.ownsRow W.heap.size 5 1 (.slice a' X3.length c') X3.length (flat X3)) := fun W => by
    have h := specNoteBytes_any 3 bt 0 base ⟨(kB x).toArray⟩ (by show (kB x).toArray.size <= _; rw [List.size_toArray]; omega) none 0 [] (by simp) (fun y hy => (by cases hy)) W (.inl rfl)
    rw [hX3] at h
    exact h
  have HK : Hid (∀ W : World, Below (w.alloc (.cells #[.int .i64 te, .int .i64 vo, .int .i64 base, .int .i64 bt, .slice A l.length cap, .slice x.rA x.rs.length x.rc, .slice x.mA x.ms.length x.mc, .slice x.gA x.gs.length x.gc, .int .i64 x.time, .slice x.dA x.ds.length x.dc, .slice x.lA x.ls.length x.lc] 51)).heap.size (w.alloc (.cells #[.int .i64 te, .int .i64 vo, .int .i64 base, .int .i64 bt, .slice A l.length cap, .slice x.rA x.rs.length x.rc, .slice x.mA x.ms.length x.mc, .slice x.gA x.gs.length x.gc, .int .i64 x.time, .slice x.dA x.ds.length x.dc, .slice x.lA x.ls.length x.lc] 51)) W -> Calls Tryz.prog 38 #[.agg #[.slice x.rA x.rs.length x.rc, .slice x.mA x.ms.length x.mc, .slice x.gA x.gs.length x.gc, .int .i64 x.time, .slice x.dA x.ds.length x.dc, .slice x.lA x.ls.length x.lc]] W fun e w' => ∃ a' c', e = .returned (.slice a' (kB x).length c') /\ Below W.heap.size W w' /\ w'.ownsRow W.heap.size 5 1 (.slice a' (kB x).length c') (kB x).length (flat (kB x))) := fun W g => specL7_any x hkc hkl W ((hX.below B0.out).below g)
  have ET : Hid ((if 0 < base then X1 ++ X3 else X1) ++ (restN base bt l l.length 0).flatMap HP.b = (hardN te vo base bt l ⟨(kB x).toArray⟩).flatMap HP.b) := by
    show _ = _
    unfold hardN
    rw [← hX1, ← hX3]
    split<;>simp [HP.b, List.append_assoc]
  have HTL := hidP hTL
  generalize (hardN te vo base bt l ⟨(kB x).toArray⟩).flatMap HP.b = T at *
  have mkS : ∀ V : World, Below (w.alloc (.cells #[.int .i64 te, .int .i64 vo, .int .i64 base, .int .i64 bt, .slice A l.length cap, .slice x.rA x.rs.length x.rc, .slice x.mA x.ms.length x.mc, .slice x.gA x.gs.length x.gc, .int .i64 x.time, .slice x.dA x.ds.length x.dc, .slice x.lA x.ls.length x.lc] 51)).heap.size (w.alloc (.cells #[.int .i64 te, .int .i64 vo, .int .i64 base, .int .i64 bt, .slice A l.length cap, .slice x.rA x.rs.length x.rc, .slice x.mA x.ms.length x.mc, .slice x.gA x.gs.length x.gc, .int .i64 x.time, .slice x.dA x.ds.length x.dc, .slice x.lA x.ls.length x.lc] 51)) V -> (fun (V : World) => V.cell? ⟨w.heap.size, 2, none⟩ = some (.int .i64 base) /\ V.cell? ⟨w.heap.size, 2 + 1, none⟩ = some (.int .i64 bt) /\ V.cell? ⟨w.heap.size, 5, none⟩ = some (.slice x.rA x.rs.length x.rc) /\ V.cell? ⟨w.heap.size, 5 + 1, none⟩ = some (.slice x.mA x.ms.length x.mc) /\ V.cell? ⟨w.heap.size, 5 + 2, none⟩ = some (.slice x.gA x.gs.length x.gc) /\ V.cell? ⟨w.heap.size, 5 + 3, none⟩ = some (.int .i64 x.time) /\ V.cell? ⟨w.heap.size, 5 + 4, none⟩ = some (.slice x.dA x.ds.length x.dc) /\ V.cell? ⟨w.heap.size, 5 + 5, none⟩ = some (.slice x.lA x.ls.length x.lc)) V := fun V g => by
    obtain ⟨u0, u1, u2, u3, u4, u5, u6, u7, u8, u9, u10⟩ := (P0.below g P0.lt).row11
    exact ⟨u2, u3, u5, u6, u7, u8, u9, u10⟩
  have mkS9 : ∀ V : World, Below (w.alloc (.cells #[.int .i64 te, .int .i64 vo, .int .i64 base, .int .i64 bt, .slice A l.length cap, .slice x.rA x.rs.length x.rc, .slice x.mA x.ms.length x.mc, .slice x.gA x.gs.length x.gc, .int .i64 x.time, .slice x.dA x.ds.length x.dc, .slice x.lA x.ls.length x.lc] 51)).heap.size (w.alloc (.cells #[.int .i64 te, .int .i64 vo, .int .i64 base, .int .i64 bt, .slice A l.length cap, .slice x.rA x.rs.length x.rc, .slice x.mA x.ms.length x.mc, .slice x.gA x.gs.length x.gc, .int .i64 x.time, .slice x.dA x.ds.length x.dc, .slice x.lA x.ls.length x.lc] 51)) V -> (fun (V : World) => V.cell? ⟨w.heap.size, 2, none⟩ = some (.int .i64 base) /\ V.cell? ⟨w.heap.size, 2 + 2, none⟩ = some (.slice A l.length cap)) V := fun V g => by
    obtain ⟨u0, u1, u2, u3, u4, u5, u6, u7, u8, u9, u10⟩ := (P0.below g P0.lt).row11
    exact ⟨u2, u4⟩
  have HL : Hid (∀ V : World, Below (w.alloc (.cells #[.int .i64 te, .int .i64 vo, .int .i64 base, .int .i64 bt, .slice A l.length cap, .slice x.rA x.rs.length x.rc, .slice x.mA x.ms.length x.mc, .slice x.gA x.gs.length x.gc, .int .i64 x.time, .slice x.dA x.ds.length x.dc, .slice x.lA x.ls.length x.lc] 51)).heap.size (w.alloc (.cells #[.int .i64 te, .int .i64 vo, .int .i64 base, .int .i64 bt, .slice A l.length cap, .slice x.rA x.rs.length x.rc, .slice x.mA x.ms.length x.mc, .slice x.gA x.gs.length x.gc, .int .i64 x.time, .slice x.dA x.ds.length x.dc, .slice x.lA x.ls.length x.lc] 51)) V -> (V.cell? ⟨w.heap.size, 0, none⟩ = some (.int .i64 te) /\ V.cell? ⟨w.heap.size, 1, none⟩ = some (.int .i64 vo) /\ V.cell? ⟨w.heap.size, 2, none⟩ = some (.int .i64 base) /\ V.cell? ⟨w.heap.size, 2 + 1, none⟩ = some (.int .i64 bt) /\ V.cell? ⟨w.heap.size, 2 + 2, none⟩ = some (.slice A l.length cap)) /\ w.heap.size < V.heap.size) := fun V g => by
    obtain ⟨u0, u1, u2, u3, u4, u5, u6, u7, u8, u9, u10⟩ := (P0.below g P0.lt).row11
    exact ⟨⟨u0, u1, u2, u3, u4⟩, (P0.below g P0.lt).lt⟩
  have Hhl := hidP hl
  obtain ⟨hb0, hb1⟩ := hb
  have HRD : Hid (∀ (n f : Nat) (tm : Int) (a : Option Addr) (c : Nat) (xs : List UInt8) (W : World), Sb w W te vo base bt A cap l x f n T tm a c xs -> n < l.length -> _) := fun n f tm a c xs W h hlt => sb_round hr hc hb0 hb1 hl hA hTL n f tm a c xs h hlt
  have HS9 := hidP mkS9
  clear P0 hA hr hX hkc hl hTL hX1 hX3 hkl hc mkS9
  rcases Classical.em (0 < base) with hpos | hpos
  focus
    rw [if_pos hpos] at ET
    go_enter Tryz.func17, Tryz.ntmps17
    obtain ⟨⟨u0, u1, u2, u3, u4⟩, q0⟩ := HL.out _ (Below.refl _ _)
    go_wp2_with fail
    refine (H1.out _).mono ?_
    rintro e w1 ⟨a1, c1, rfl, g1, o1⟩
    have J1 : Hid (Jo (w.alloc (.cells #[.int .i64 te, .int .i64 vo, .int .i64 base, .int .i64 bt, .slice A l.length cap, .slice x.rA x.rs.length x.rc, .slice x.mA x.ms.length x.mc, .slice x.gA x.gs.length x.gc, .int .i64 x.time, .slice x.dA x.ds.length x.dc, .slice x.lA x.ls.length x.lc] 51)) w1 a1 c1 X1) := ⟨g1, o1⟩
    clear g1 o1 u0 u1 u2 u3 u4 q0
    obtain ⟨⟨u0, u1, u2, u3, u4⟩, q0⟩ := HL.out _ J1.out.bl
    go_upto_region 3 with fail
    clear u0 u1 u2 u3 u4 q0
    refine wp_region_noPanic ?_
    refine wp_region_held_drew (S := (fun (V : World) => V.cell? ⟨w.heap.size, 2, none⟩ = some (.int .i64 base) /\ V.cell? ⟨w.heap.size, 2 + 1, none⟩ = some (.int .i64 bt) /\ V.cell? ⟨w.heap.size, 5, none⟩ = some (.slice x.rA x.rs.length x.rc) /\ V.cell? ⟨w.heap.size, 5 + 1, none⟩ = some (.slice x.mA x.ms.length x.mc) /\ V.cell? ⟨w.heap.size, 5 + 2, none⟩ = some (.slice x.gA x.gs.length x.gc) /\ V.cell? ⟨w.heap.size, 5 + 3, none⟩ = some (.int .i64 x.time) /\ V.cell? ⟨w.heap.size, 5 + 4, none⟩ = some (.slice x.dA x.ds.length x.dc) /\ V.cell? ⟨w.heap.size, 5 + 5, none⟩ = some (.slice x.lA x.ls.length x.lc))) (by kernel_rfl) ?_ (fun hH => ?_)
    . exact mkS _ (J1.out.bl.drew)
    refine ztk [0,1,2,3,4,5,6,7,8] ?_; repeat (refine ztn (h := ?_); try simp only [zX,zY])
    refine zte ?_
    refine zR1 9 (fun K hK => ?_)
    simp only [zG]
    go_simp
    refine (HK.out _ (J1.out.bl.drew)).mono ?_; rintro e w2 ⟨a2, c2, rfl, g2, o2⟩; have hv := conv_bytes (cap := c2) (fresh_owns o2).at; have J2 := hidP ((J1.out.below (Below.refl _ _).drew).below g2); clear g2 o2
    refine hK.out _ _ ?_ (fun hH => ?_)
    . exact mkS _ J2.out.bl
    clear hK K
    try simp only [zX,zY]
    refine zR1 10 (fun K hK => ?_)
    simp only [zG]
    go_simp
    skip
    refine hK.out _ _ ?_ (fun hH => ?_)
    . exact mkS _ J2.out.bl
    clear hK K
    try simp only [zX,zY]
    refine zt1 11 ?_; refine ztn (h := ?_); try simp only [zX,zY]
    refine zte ?_
    refine zR1 12 (fun K hK => ?_)
    simp only [zG]
    go_simp
    refine (H3.out _).mono ?_; rintro e w3 ⟨a3, c3, rfl, g3, o3⟩; obtain ⟨a4, c4, w4, hr, J4, -⟩ := J2.out.app (c1 := c3) g3 (fresh_owns o3).at (by have := HX1.out; have := HX3.out; omega); have J3 := hidP (J2.out.below g3); have J5 := hidP J4; generalize hXX : X1 ++ X3 = X at hr J5; clear J4 g3 o3
    refine hK.out _ _ ?_ (fun hH => ?_)
    . exact mkS _ J3.out.bl
    clear hK K
    try simp only [zX,zY]
    refine zR1 13 (fun K hK => ?_)
    simp only [zG]
    rw [if_pos (by rfl)]; refine wp_append_is _ _ _ (by rfl) _ _ _ (by rfl) (by rfl) hr ?_
    refine hK.out _ _ ?_ (fun hH => ?_)
    . exact mkS _ J5.out.bl
    clear hK K
    try simp only [zX,zY]
    refine zt1 14 ?_; refine ztn (h := ?_); try simp only [zX,zY]
    refine zte ?_
    refine zdn ?_
    rw [hXX] at ET
    clear hr hv J1 J2 J3 mkS hXX
  rotate_left
  focus
    rw [if_neg hpos] at ET
    go_enter Tryz.func17, Tryz.ntmps17
    obtain ⟨⟨u0, u1, u2, u3, u4⟩, q0⟩ := HL.out _ (Below.refl _ _)
    go_wp2_with fail
    refine (H1.out _).mono ?_
    rintro e w4 ⟨a4, c4, rfl, g1, o1⟩
    have J5 : Hid (Jo (w.alloc (.cells #[.int .i64 te, .int .i64 vo, .int .i64 base, .int .i64 bt, .slice A l.length cap, .slice x.rA x.rs.length x.rc, .slice x.mA x.ms.length x.mc, .slice x.gA x.gs.length x.gc, .int .i64 x.time, .slice x.dA x.ds.length x.dc, .slice x.lA x.ls.length x.lc] 51)) w4 a4 c4 X1) := ⟨g1, o1⟩
    obtain ⟨X, hXX⟩ : ∃ X, X = X1 := ⟨_, rfl⟩
    subst hXX
    clear g1 o1 u0 u1 u2 u3 u4 q0 mkS
  all_goals
    obtain ⟨⟨u0, u1, u2, u3, u4⟩, q0⟩ := HL.out _ J5.out.bl
    have HJ : Hid (Sb w w4 te vo base bt A cap l x l.length 0 T bt a4 c4 X) := ⟨J5.out, ET.out, by omega, fun _ => by rw [Int.natCast_zero, Int.add_zero, term_first]⟩
    go_wp2
    clear u0 u1 u2 u3 u4 q0 J5 ET
    go_loopw [3, 4, 5] (fun v tv i W => ∃ (n f : Nat) (tm : Int) (a : Option Addr) (c : Nat) (xs : List UInt8), i = .int .i64 (n : Int) /\ tv = .int .i64 tm /\ v = .slice a (List.length xs) c /\ n <= l.length + 40 /\ Hid (Sb w W te vo base bt A cap l x f n T tm a c xs)) (fun _ _ i _ => l.length + 40 - (intOf i).toNat)
    case atStart => exact ⟨0, l.length, bt, a4, c4, X, rfl, rfl, rfl, by omega, HJ⟩
    case round =>
      obtain ⟨n, f, tm, a, c, xs, rfl, rfl, rfl, hn, H⟩ := hrel
      obtain ⟨⟨u0, u1, u2, u3, u4⟩, q0⟩ := HL.out _ H.out.j.bl
      have hli : (l.length : Int) <= 300 := by have := Hhl.out; omega
      by_cases hlt : n < l.length
      . obtain ⟨t, s, g, tq, ys, b, o, rfl, rfl, hi1, hs0, hs2, hw1, hw2, hw3, hcut, HM, HNB, hYL, hbd, HEM, HTM, HEN, Hg⟩ := HRD.out n f tm a c xs _ H.out hlt
        have hJ := hidP H.out.j
        have hle : n + 40 <= l.length + 40 := Nat.add_le_add_right (Nat.le_of_lt hlt) 40
        clear H HRD
        go_wp2_with fail
        refine (HM.out _).mono ?_
        rintro e w1 ⟨rfl, rfl⟩
        go_upto_region 9 with fail
        clear u0 u1 u2 u3 u4 q0
        have mkS9 := HS9.out
        refine wp_region_noPanic ?_
        refine wp_region_held_drew (S := (fun (V : World) => V.cell? ⟨w.heap.size, 2, none⟩ = some (.int .i64 base) /\ V.cell? ⟨w.heap.size, 2 + 2, none⟩ = some (.slice (some ⟨b, o, none⟩) l.length cap))) (by kernel_rfl) ?_ (fun hH => ?_)
        . exact mkS9 _ (hJ.out.bl.drew)
        refine ztk [0,1,2,3,4,5,6,7,8,9,10,11,12,13] ?_; repeat (refine ztn (h := ?_); try simp only [zX,zY])
        refine zte ?_
        refine zR1 14 (fun K hK => ?_)
        simp only [zG]
        go_simp
        refine (HNB.out _ (hJ.out.bl.drew)).mono ?_; rintro e w3 ⟨a3, c3, rfl, g3, o3⟩; obtain ⟨a4, c4, w4, hr, K4, -⟩ := hJ.out.app (c1 := c3) (via0 g3 (Below.refl _ _).drew) (fresh_owns o3).at (by have := hbd.out; have := hYL.out; omega); have J3 := hidP ((hJ.out.below (Below.refl _ _).drew).below g3); have J4 := hidP K4; generalize hZZ : xs ++ ys = zz at hr J4; clear K4 g3 o3
        refine hK.out _ _ ?_ (fun hH => ?_)
        . exact mkS9 _ J3.out.bl
        clear hK K
        try simp only [zX,zY]
        refine zR1 15 (fun K hK => ?_)
        simp only [zG]
        rw [if_pos (by rfl)]; refine wp_append_is _ _ _ (by rfl) _ _ _ (by rfl) (by rfl) hr ?_
        refine hK.out _ _ ?_ (fun hH => ?_)
        . exact mkS9 _ J4.out.bl
        clear hK K
        try simp only [zX,zY]
        refine zt1 16 ?_; refine ztn (h := ?_); try simp only [zX,zY]
        refine zte ?_
        refine zdn ?_
        obtain ⟨⟨u0, u1, u2, u3, u4⟩, q0⟩ := HL.out _ J4.out.bl
        obtain ⟨ce, qb⟩ := HEN.out _ J4.out.bl
        have K9 : Hid (Sb w w4 te vo base bt (some ⟨b, o, none⟩) cap l x g (n + 40) T tq a4 c4 zz) := ⟨J4.out, by rw [← hZZ]; exact HEM.out, Hg.out, HTM.out⟩
        clear hr hZZ J3 J4 hJ HEM HEN HTM Hg HNB HM mkS9
        go_wp2
        clear hw1 hw2 hw3 hcut
        exact ⟨⟨n + 40, g, tq, a4, c4, zz, by go_num, rfl, rfl, hle, K9⟩, by simp [intOf]; omega⟩
      . have hX9 : Hid (xs = T) := by
          show _ = _
          have h9 := H.out.m
          rw [restN_done base bt l f n hlt] at h9
          simpa using h9
        have HJ9 := hidP H.out.j
        clear H
        go_wp2
        go_ret
        rw [← hX9.out]
        exact ⟨a, c, rfl, via0 HJ9.out.bl B0.out, owns_mono HJ9.out.own B0.out.size⟩
set_option maxRecDepth 100000 in
set_option maxHeartbeats 1000000 in
theorem specHardBytes_any (ro wi le ke te vo base bt : Int) (A : Option Addr) (cap : Nat) (l : List En) (hl : l.length <= 1048576) (hr : ∀ y ∈ l, y.fit) (hc : l.length <= cap /\ cap <= maxLen) (x : KC) (ha : KAsk x) (w : World) (hA : At w A l) (hX : KAt w x) :
    Calls Tryz.prog 5 #[.agg #[.int .i64 ro, .int .i64 wi, .int .i64 le, .int .i64 ke], .agg #[.int .i64 te, .int .i64 vo, .int .i64 base, .int .i64 bt, .slice A l.length cap, .slice x.rA x.rs.length x.rc, .slice x.mA x.ms.length x.mc, .slice x.gA x.gs.length x.gc, .int .i64 x.time, .slice x.dA x.ds.length x.dc, .slice x.lA x.ls.length x.lc]] w fun e w' => ∃ a' c', e = .returned (.slice a' (hardO ro wi le ke te vo base bt l x).length c') /\ Jo w w' a' c' (hardO ro wi le ke te vo base bt l x) := by
  have HO : Hid (∀ W : World, Below w.heap.size w W -> Calls Tryz.prog 16 #[.agg #[.int .i64 ro, .int .i64 wi, .int .i64 le, .int .i64 ke], .agg #[.int .i64 te, .int .i64 vo, .int .i64 base, .int .i64 bt, .slice A l.length cap, .slice x.rA x.rs.length x.rc, .slice x.mA x.ms.length x.mc, .slice x.gA x.gs.length x.gc, .int .i64 x.time, .slice x.dA x.ds.length x.dc, .slice x.lA x.ls.length x.lc]] W fun e w' => e = .returned (.bool (hardB ro wi le ke te vo base bt l x)) /\ Below W.heap.size W w') := fun W g => specHardOk_any ro wi le ke te vo base bt A cap l hl hr x ha W (hA.below g) (hX.below g)
  have P1 : Blk ((w.alloc (.cells #[.int .i64 ro, .int .i64 wi, .int .i64 le, .int .i64 ke] 39)).alloc (.cells #[.int .i64 te, .int .i64 vo, .int .i64 base, .int .i64 bt, .slice A l.length cap, .slice x.rA x.rs.length x.rc, .slice x.mA x.ms.length x.mc, .slice x.gA x.gs.length x.gc, .int .i64 x.time, .slice x.dA x.ds.length x.dc, .slice x.lA x.ls.length x.lc] 51)) (w.heap.size + 1) 51 #[.int .i64 te, .int .i64 vo, .int .i64 base, .int .i64 bt, .slice A l.length cap, .slice x.rA x.rs.length x.rc, .slice x.mA x.ms.length x.mc, .slice x.gA x.gs.length x.gc, .int .i64 x.time, .slice x.dA x.ds.length x.dc, .slice x.lA x.ls.length x.lc] := by have := Blk.new (w.alloc (.cells #[.int .i64 ro, .int .i64 wi, .int .i64 le, .int .i64 ke] 39)) 51 #[.int .i64 te, .int .i64 vo, .int .i64 base, .int .i64 bt, .slice A l.length cap, .slice x.rA x.rs.length x.rc, .slice x.mA x.ms.length x.mc, .slice x.gA x.gs.length x.gc, .int .i64 x.time, .slice x.dA x.ds.length x.dc, .slice x.lA x.ls.length x.lc]; rwa [World.size_alloc] at this
  have B0 : Below w.heap.size w ((w.alloc (.cells #[.int .i64 ro, .int .i64 wi, .int .i64 le, .int .i64 ke] 39)).alloc (.cells #[.int .i64 te, .int .i64 vo, .int .i64 base, .int .i64 bt, .slice A l.length cap, .slice x.rA x.rs.length x.rc, .slice x.mA x.ms.length x.mc, .slice x.gA x.gs.length x.gc, .int .i64 x.time, .slice x.dA x.ds.length x.dc, .slice x.lA x.ls.length x.lc] 51)) := alloc0 (alloc0 (Below.refl _ w) _) _
  have H0 := hidP (And.intro B0 P1)
  cases hok : hardB ro wi le ke te vo base bt l x with
  | false =>
    have hO : Hid (hardO ro wi le ke te vo base bt l x = []) := by show _ = _; unfold hardO; rw [hok]; rfl
    rw [hok] at HO
    clear P1 B0 hok hA hX ha hr
    go_enter Tryz.func5, Tryz.ntmps5
    go_wp2_with fail
    refine (HO.out _ H0.out.1).mono ?_
    rintro e w1 ⟨rfl, g1⟩
    have B1 := via0 g1 H0.out.1
    go_wp2
    go_ret
    rw [hO.out]
    exact ⟨_, _, rfl, alloc0 B1 _, ⟨by simp [flat], .inr ⟨w1.heap.size, 0, #[], rfl, B1.size, Blk.new w1 5 #[], Nat.le_refl _, by simp [maxLen], rfl, rfl⟩⟩⟩
  | true =>
    obtain ⟨_, _, h3, _, h5, h6⟩ := hard_parts hok
    obtain ⟨hkc, hkl⟩ := kb_ranges ha.fit h6
    have hO : Hid (hardO ro wi le ke te vo base bt l x = (hardN te vo base bt l ⟨(kB x).toArray⟩).flatMap HP.b) := by show _ = _; unfold hardO; rw [if_pos hok]
    have hlen := hardO_le ro wi le ke te vo base bt l x
    rw [hO.out] at hlen
    have HL : Hid (∀ W : World, Below w.heap.size w W -> Calls Tryz.prog 17 #[.agg #[.int .i64 te, .int .i64 vo, .int .i64 base, .int .i64 bt, .slice A l.length cap, .slice x.rA x.rs.length x.rc, .slice x.mA x.ms.length x.mc, .slice x.gA x.gs.length x.gc, .int .i64 x.time, .slice x.dA x.ds.length x.dc, .slice x.lA x.ls.length x.lc]] W fun e w' => ∃ a' c', e = .returned (.slice a' ((hardN te vo base bt l ⟨(kB x).toArray⟩).flatMap HP.b).length c') /\ Jo W w' a' c' ((hardN te vo base bt l ⟨(kB x).toArray⟩).flatMap HP.b)) := fun W g => l11_any te vo base bt A cap l hr hc h3 h5 x hkc hkl W (hA.below g) (hX.below g) hlen
    rw [hok] at HO
    generalize (hardN te vo base bt l ⟨(kB x).toArray⟩).flatMap HP.b = T at *
    clear P1 B0 hok hA hX ha hr h3 h5 h6 hkc hkl hl hc hlen
    go_enter Tryz.func5, Tryz.ntmps5
    go_wp2_with fail
    refine (HO.out _ H0.out.1).mono ?_
    rintro e w1 ⟨rfl, g1⟩
    have P1 := H0.out.2.below g1 H0.out.2.lt
    have B1 := via0 g1 H0.out.1
    obtain ⟨u0, u1, u2, u3, u4, u5, u6, u7, u8, u9, u10⟩ := P1.row11
    have q1 := P1.lt
    clear P1 H0 g1
    go_wp2_with fail
    refine (HL.out _ B1).mono ?_
    rintro e w2 ⟨a2, c2, rfl, j2⟩
    have H2 := hidP (And.intro B1 j2)
    clear u0 u1 u2 u3 u4 u5 u6 u7 u8 u9 u10 q1 j2 B1
    go_wp2
    go_ret
    rw [hO.out]
    exact ⟨a2, c2, rfl, via0 H2.out.2.bl H2.out.1, owns_mono H2.out.2.own H2.out.1.size⟩
end Go.Proofs.YtaefjifcnoiplaaGreat.Gen
