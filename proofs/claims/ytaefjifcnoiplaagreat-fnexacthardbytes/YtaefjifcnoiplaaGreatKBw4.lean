/-
  The program's writer of a keeper. Condition: at most 500000000 bytes.
-/
import Derived.Test.YtaefjifcnoiplaaGreatKBw3
namespace Go.Proofs.YtaefjifcnoiplaaGreat.Gen
open Go.ChangeShapes Go.WideShapes Go.ChangeAt Go.RowKit Go.Joins Go.Deep Base
open Items (It)
set_option linter.unusedVariables false
set_option linter.unusedSimpArgs false
structure KcR (x : KC) : Prop where
  rs : ∀ y ∈ x.rs, RcR y
  ms : ∀ y ∈ x.ms, McR y
  gs : ∀ y ∈ x.gs, GcR y
  time : 0 <= x.time /\ x.time <= 2147483647
  ds : ∀ y ∈ x.ds, 0 <= y /\ y <= 2147483647
  ls : ∀ y ∈ x.ls, AnR y
  rl : x.rs.length <= 1048576
  ml : x.ms.length <= 1048576
  gl : x.gs.length <= 1048576
  dl : x.ds.length <= 1048576
  same : x.ls.length = x.ds.length
structure Kp (P : Nat -> Prop) (w : World) (x : KC) : Prop where
  r : Pt P w x.rA x.rs
  re : ∀ y ∈ x.rs, Pt P w y.A y.its
  m : Pt P w x.mA x.ms
  me : ∀ y ∈ x.ms, Pt P w y.A y.ms
  g : Pt P w x.gA x.gs
  ge : ∀ y ∈ x.gs, Pt P w y.a1 y.m /\ Pt P w y.a2 y.b /\ Pt P w y.a3 y.o
  d : Pt P w x.dA x.ds
  l : Pt P w x.lA x.ls
theorem Kp.turn {P : Nat -> Prop} {w w' : World} {x : KC} (h : Kp P w x) (t : Turn P w w') : Kp P w' x :=
  ⟨h.r.turn t, fun y hy => (h.re y hy).turn t, h.m.turn t, fun y hy => (h.me y hy).turn t, h.g.turn t, fun y hy => ⟨(h.ge y hy).1.turn t, (h.ge y hy).2.1.turn t, (h.ge y hy).2.2.turn t⟩, h.d.turn t, h.l.turn t⟩
theorem Kp.mono {P Q : Nat -> Prop} {w : World} {x : KC} (h : Kp P w x) (s : ∀ k, P k -> Q k) : Kp Q w x :=
  ⟨h.r.mono s, fun y hy => (h.re y hy).mono s, h.m.mono s, fun y hy => (h.me y hy).mono s, h.g.mono s, fun y hy => ⟨(h.ge y hy).1.mono s, (h.ge y hy).2.1.mono s, (h.ge y hy).2.2.mono s⟩, h.d.mono s, h.l.mono s⟩
theorem zip_atA {m : List Int} {b : List An} {n : Nat} (h1 : n < m.length) (h2 : n < b.length) : (List.zip m b)[n]'(by rw [List.length_zip]; omega) = (m[n], b[n]) := by simp
set_option maxRecDepth 100000 in
set_option maxHeartbeats 4000000 in
theorem keep_core (P : Nat -> Prop) (z : Nat) (rA : Option Addr) (rc : Nat) (rs : List RC) (mA : Option Addr) (mc : Nat) (ms : List MC) (gA : Option Addr) (gc : Nat) (gs : List GC) (time : Int) (dA : Option Addr) (dc : Nat) (ds : List Int) (lA : Option Addr) (lc : Nat) (ls : List An)
    (hR : KcR ⟨rA, rc, rs, mA, mc, ms, gA, gc, gs, time, dA, dc, ds, lA, lc, ls⟩) (xs : List UInt8) (hx : xs.length + ((rcsB rs).length + ((mcsB ms).length + ((gcsB gs).length + (5 + (lastB ds ls).length)))) <= 500000000) (w : World) (hN : Kp P w ⟨rA, rc, rs, mA, mc, ms, gA, gc, gs, time, dA, dc, ds, lA, lc, ls⟩) (hW : Wr P z w xs) :
    Calls Tryz.prog 111 #[.pointer (some ⟨z, 0, none⟩), .agg #[.slice rA rs.length rc, .slice mA ms.length mc, .slice gA gs.length gc, .int .i64 time, .slice dA ds.length dc, .slice lA ls.length lc]] w fun e w' => e = .returned (.tuple #[]) /\ Turn P w w' /\ Wr P z w' (xs ++ (rcsB rs ++ (mcsB ms ++ (gcsB gs ++ (numI time ++ lastB ds ls))))) := by
  have hmf : ∀ (fn : Fn) (first cap : Array Value) (w : World), (Instr.makeFunc fn first cap).run Tryz.prog w = .ok (.func fn first cap) w := fun _ _ _ _ => rfl
  have tw : Turn P w (w.alloc (.cells #[.slice rA rs.length rc, .slice mA ms.length mc, .slice gA gs.length gc, .int .i64 time, .slice dA ds.length dc, .slice lA ls.length lc] 49)) := Turn.of_below (alloc0 (Below.refl _ w) _) hW.lt
  have H0 := hidP (hW.keep (.cells #[.slice rA rs.length rc, .slice mA ms.length mc, .slice gA gs.length gc, .int .i64 time, .slice dA ds.length dc, .slice lA ls.length lc] 49))
  have Hp := hidP (Blk.new w 49 #[.slice rA rs.length rc, .slice mA ms.length mc, .slice gA gs.length gc, .int .i64 time, .slice dA ds.length dc, .slice lA ls.length lc])
  have HN := hidP ((hN.turn tw).mono (Q := (fun k => P k ∨ k = w.heap.size)) (fun k hk => .inl hk))
  have HT : Hid (Turn (fun k => P k ∨ k = w.heap.size) (w.alloc (.cells #[.slice rA rs.length rc, .slice mA ms.length mc, .slice gA gs.length gc, .int .i64 time, .slice dA ds.length dc, .slice lA ls.length lc] 49)) (w.alloc (.cells #[.slice rA rs.length rc, .slice mA ms.length mc, .slice gA gs.length gc, .int .i64 time, .slice dA ds.length dc, .slice lA ls.length lc] 49))) := hidP (Turn.refl _ _)
  have Htw := hidP tw
  have Hx := hidP hx
  have HR := hidP hR
  have hrl : rs.length <= 1048576 := hR.rl
  have hml : ms.length <= 1048576 := hR.ml
  have hgl : gs.length <= 1048576 := hR.gl
  have hdl : ds.length <= 1048576 := hR.dl
  have Hsame := hidP (show ls.length = ds.length from hR.same)
  clear tw hN hx hW hR
  have d0 : (w.alloc (.cells #[.slice rA rs.length rc, .slice mA ms.length mc, .slice gA gs.length gc, .int .i64 time, .slice dA ds.length dc, .slice lA ls.length lc] 49)).cell? ⟨w.heap.size, 0, none⟩ = some (.slice rA rs.length rc) := Hp.out.cell (i := 0) rfl
  have d1 : (w.alloc (.cells #[.slice rA rs.length rc, .slice mA ms.length mc, .slice gA gs.length gc, .int .i64 time, .slice dA ds.length dc, .slice lA ls.length lc] 49)).cell? ⟨w.heap.size, 1, none⟩ = some (.slice mA ms.length mc) := Hp.out.cell (i := 1) rfl
  have d2 : (w.alloc (.cells #[.slice rA rs.length rc, .slice mA ms.length mc, .slice gA gs.length gc, .int .i64 time, .slice dA ds.length dc, .slice lA ls.length lc] 49)).cell? ⟨w.heap.size, 2, none⟩ = some (.slice gA gs.length gc) := Hp.out.cell (i := 2) rfl
  have d3 : (w.alloc (.cells #[.slice rA rs.length rc, .slice mA ms.length mc, .slice gA gs.length gc, .int .i64 time, .slice dA ds.length dc, .slice lA ls.length lc] 49)).cell? ⟨w.heap.size, 3, none⟩ = some (.int .i64 time) := Hp.out.cell (i := 3) rfl
  have d4 : (w.alloc (.cells #[.slice rA rs.length rc, .slice mA ms.length mc, .slice gA gs.length gc, .int .i64 time, .slice dA ds.length dc, .slice lA ls.length lc] 49)).cell? ⟨w.heap.size, 4, none⟩ = some (.slice dA ds.length dc) := Hp.out.cell (i := 4) rfl
  have d5 : (w.alloc (.cells #[.slice rA rs.length rc, .slice mA ms.length mc, .slice gA gs.length gc, .int .i64 time, .slice dA ds.length dc, .slice lA ls.length lc] 49)).cell? ⟨w.heap.size, 5, none⟩ = some (.slice lA ls.length lc) := Hp.out.cell (i := 5) rfl
  have dq := Hp.out.lt
  go_enter Tryz.func111, Tryz.ntmps111
  go_wp2_with fail
  refine (writeRows_any (fun k => P k ∨ k = w.heap.size) z rA rc rs hrl HR.out.rs xs (by have := Hx.out; omega) _ (HN.out.turn HT.out).r (HN.out.turn HT.out).re H0.out).mono ?_
  rintro e w1 ⟨rfl, t_, h_⟩
  replace HT := hidP (HT.out.trans t_)
  replace Hp := hidP (Hp.out.turn t_ (.inr rfl))
  have H1 := hidP h_
  clear t_ h_ d0 d1 d2 d3 d4 d5 dq H0
  have d0 : w1.cell? ⟨w.heap.size, 0, none⟩ = some (.slice rA rs.length rc) := Hp.out.cell (i := 0) rfl
  have d1 : w1.cell? ⟨w.heap.size, 1, none⟩ = some (.slice mA ms.length mc) := Hp.out.cell (i := 1) rfl
  have d2 : w1.cell? ⟨w.heap.size, 2, none⟩ = some (.slice gA gs.length gc) := Hp.out.cell (i := 2) rfl
  have d3 : w1.cell? ⟨w.heap.size, 3, none⟩ = some (.int .i64 time) := Hp.out.cell (i := 3) rfl
  have d4 : w1.cell? ⟨w.heap.size, 4, none⟩ = some (.slice dA ds.length dc) := Hp.out.cell (i := 4) rfl
  have d5 : w1.cell? ⟨w.heap.size, 5, none⟩ = some (.slice lA ls.length lc) := Hp.out.cell (i := 5) rfl
  have dq := Hp.out.lt
  go_wp2_with fail
  refine (writeMakers_any (fun k => P k ∨ k = w.heap.size) z mA mc ms hml HR.out.ms _ (by have := Hx.out; simp only [List.length_append]; omega) _ (HN.out.turn HT.out).m (HN.out.turn HT.out).me H1.out).mono ?_
  rintro e w2 ⟨rfl, t_, h_⟩
  replace HT := hidP (HT.out.trans t_)
  replace Hp := hidP (Hp.out.turn t_ (.inr rfl))
  have H2 := hidP h_
  clear t_ h_ d0 d1 d2 d3 d4 d5 dq H1
  have d0 : w2.cell? ⟨w.heap.size, 0, none⟩ = some (.slice rA rs.length rc) := Hp.out.cell (i := 0) rfl
  have d1 : w2.cell? ⟨w.heap.size, 1, none⟩ = some (.slice mA ms.length mc) := Hp.out.cell (i := 1) rfl
  have d2 : w2.cell? ⟨w.heap.size, 2, none⟩ = some (.slice gA gs.length gc) := Hp.out.cell (i := 2) rfl
  have d3 : w2.cell? ⟨w.heap.size, 3, none⟩ = some (.int .i64 time) := Hp.out.cell (i := 3) rfl
  have d4 : w2.cell? ⟨w.heap.size, 4, none⟩ = some (.slice dA ds.length dc) := Hp.out.cell (i := 4) rfl
  have d5 : w2.cell? ⟨w.heap.size, 5, none⟩ = some (.slice lA ls.length lc) := Hp.out.cell (i := 5) rfl
  have dq := Hp.out.lt
  go_wp2_with fail
  refine (writeGroups_any (fun k => P k ∨ k = w.heap.size) z gA gc gs hgl HR.out.gs _ (by have := Hx.out; simp only [List.length_append]; omega) _ (HN.out.turn HT.out).g (HN.out.turn HT.out).ge H2.out).mono ?_
  rintro e w3 ⟨rfl, t_, h_⟩
  replace HT := hidP (HT.out.trans t_)
  replace Hp := hidP (Hp.out.turn t_ (.inr rfl))
  have H3 := hidP h_
  clear t_ h_ d0 d1 d2 d3 d4 d5 dq H2
  have d0 : w3.cell? ⟨w.heap.size, 0, none⟩ = some (.slice rA rs.length rc) := Hp.out.cell (i := 0) rfl
  have d1 : w3.cell? ⟨w.heap.size, 1, none⟩ = some (.slice mA ms.length mc) := Hp.out.cell (i := 1) rfl
  have d2 : w3.cell? ⟨w.heap.size, 2, none⟩ = some (.slice gA gs.length gc) := Hp.out.cell (i := 2) rfl
  have d3 : w3.cell? ⟨w.heap.size, 3, none⟩ = some (.int .i64 time) := Hp.out.cell (i := 3) rfl
  have d4 : w3.cell? ⟨w.heap.size, 4, none⟩ = some (.slice dA ds.length dc) := Hp.out.cell (i := 4) rfl
  have d5 : w3.cell? ⟨w.heap.size, 5, none⟩ = some (.slice lA ls.length lc) := Hp.out.cell (i := 5) rfl
  have dq := Hp.out.lt
  go_wp2_with fail
  refine (numberI_any (fun k => P k ∨ k = w.heap.size) z time HR.out.time _ (by have := Hx.out; simp only [List.length_append]; omega) _ H3.out).mono ?_
  rintro e w4 ⟨rfl, t_, h_⟩
  replace HT := hidP (HT.out.trans t_)
  replace Hp := hidP (Hp.out.turn t_ (.inr rfl))
  have H4 := hidP h_
  clear t_ h_ d0 d1 d2 d3 d4 d5 dq H3
  have d0 : w4.cell? ⟨w.heap.size, 0, none⟩ = some (.slice rA rs.length rc) := Hp.out.cell (i := 0) rfl
  have d1 : w4.cell? ⟨w.heap.size, 1, none⟩ = some (.slice mA ms.length mc) := Hp.out.cell (i := 1) rfl
  have d2 : w4.cell? ⟨w.heap.size, 2, none⟩ = some (.slice gA gs.length gc) := Hp.out.cell (i := 2) rfl
  have d3 : w4.cell? ⟨w.heap.size, 3, none⟩ = some (.int .i64 time) := Hp.out.cell (i := 3) rfl
  have d4 : w4.cell? ⟨w.heap.size, 4, none⟩ = some (.slice dA ds.length dc) := Hp.out.cell (i := 4) rfl
  have d5 : w4.cell? ⟨w.heap.size, 5, none⟩ = some (.slice lA ls.length lc) := Hp.out.cell (i := 5) rfl
  have dq := Hp.out.lt
  have Hb : Hid ((xs ++ rcsB rs ++ mcsB ms ++ gcsB gs ++ numI time).length + (lastB ds ls).length <= 500000000) := by show _ <= _; have := Hx.out; have := numI_le time; simp only [List.length_append]; omega
  have hxs : Hid (xs ++ rcsB rs ++ mcsB ms ++ gcsB gs ++ numI time ++ lastB ds ls = xs ++ (rcsB rs ++ (mcsB ms ++ (gcsB gs ++ (numI time ++ lastB ds ls))))) := by show _ = _; simp only [List.append_assoc]
  generalize xs ++ rcsB rs ++ mcsB ms ++ gcsB gs ++ numI time = zs at *
  have HD := hidP (HN.out.turn HT.out).d
  have HL := hidP (HN.out.turn HT.out).l
  clear HN
  go_wp2
  go_loopw [25] (fun i W => ∃ (n : Nat), i = .int .i64 (n : Int) /\ n <= ds.length /\ Hid (Turn (fun k => P k ∨ k = w.heap.size) w4 W) /\ Hid (Wr (fun k => P k ∨ k = w.heap.size) z W (zs ++ ((List.zip ds ls).take n).flatMap (fun p : Int × An => numI p.1 ++ anB p.2)))) (fun i _ => ds.length - (intOf i).toNat)
  case atStart => exact ⟨0, rfl, by omega, Turn.refl _ _, by simpa using H4⟩
  case round =>
    obtain ⟨n, rfl, hn, hT, hO⟩ := hrel
    have pw := Hp.out.turn hT.out (.inr rfl)
    have e0 : wr.cell? ⟨w.heap.size, 0, none⟩ = some (.slice rA rs.length rc) := pw.cell (i := 0) rfl
    have e1 : wr.cell? ⟨w.heap.size, 1, none⟩ = some (.slice mA ms.length mc) := pw.cell (i := 1) rfl
    have e2 : wr.cell? ⟨w.heap.size, 2, none⟩ = some (.slice gA gs.length gc) := pw.cell (i := 2) rfl
    have e3 : wr.cell? ⟨w.heap.size, 3, none⟩ = some (.int .i64 time) := pw.cell (i := 3) rfl
    have e4 : wr.cell? ⟨w.heap.size, 4, none⟩ = some (.slice dA ds.length dc) := pw.cell (i := 4) rfl
    have e5 : wr.cell? ⟨w.heap.size, 5, none⟩ = some (.slice lA ls.length lc) := pw.cell (i := 5) rfl
    have eq := pw.lt
    by_cases hlt : n < ds.length
    . have hltl : n < ls.length := by have := Hsame.out; omega
      have hzl : n < (List.zip ds ls).length := by rw [List.length_zip]; omega
      obtain ⟨b1, o1, rfl, hb1, hi1'⟩ : ∃ b o, dA = some ⟨b, o, none⟩ /\ b < w4.heap.size /\ In w4 b o ds := by
        rcases HD.out.1 with h | h
        . subst h; simp at hlt
        . exact h
      obtain ⟨b2, o2, rfl, hb2, hi2'⟩ : ∃ b o, lA = some ⟨b, o, none⟩ /\ b < w4.heap.size /\ In w4 b o ls := by
        rcases HL.out.1 with h | h
        . subst h; simp at hltl
        . exact h
      have hP1 : (fun k => P k ∨ k = w.heap.size) b1 := by
        rcases HD.out.2 with h | h
        . subst h; simp at hlt
        . exact h b1 o1 rfl
      have hP2 : (fun k => P k ∨ k = w.heap.size) b2 := by
        rcases HL.out.2 with h | h
        . subst h; simp at hltl
        . exact h b2 o2 rfl
      have k1 := (hi1'.turn hT.out hP1).getInt n hlt
      have hto := hidP (flat_take (fun p : Int × An => numI p.1 ++ anB p.2) hzl)
      rw [zip_atA hlt hltl] at hto
      have hbd : Hid ((zs ++ ((List.zip ds ls).take n).flatMap (fun p : Int × An => numI p.1 ++ anB p.2)).length + ((numI ds[n]).length + (anB ls[n]).length) <= 500000000) := by
        show _ <= _
        have h1 := Hb.out
        have h2 := flat_take_le (fun p : Int × An => numI p.1 ++ anB p.2) (List.zip ds ls) (n + 1)
        rw [hto.out] at h2
        unfold lastB at h1
        simp only [List.length_append] at h2 ⊢
        omega
      have hd0 := HR.out.ds ds[n] (List.getElem_mem hlt)
      have hRx := HR.out.ls ls[n] (List.getElem_mem hltl)
      have hi0 : (0 : Int) <= (n : Int) := by omega
      have hi1 : (n : Int) < (ds.length : Int) := by omega
      have hi2 : (n : Int) < (ls.length : Int) := by omega
      have hin2 := hi2'
      have Hin2 := hidP hin2
      clear hi1' hi2' hP1 hin2
      have hLn : Hid (∀ W, Turn (fun k => P k ∨ k = w.heap.size) w4 W -> In W b2 o2 ls) := hidP (fun W t => Hin2.out.turn t hP2)
      generalize ds[n] = dv at *
      go_wp2_with fail
      refine (numberI_any (fun k => P k ∨ k = w.heap.size) z dv hd0 _ (by have := hbd.out; omega) _ hO.out).mono ?_
      rintro e w5 ⟨rfl, t5, h5⟩
      have HT5 := hidP (hT.out.trans t5)
      have p5 := pw.turn t5 (.inr rfl)
      have hin := hLn.out _ HT5.out
      have s0 : w5.cell? ⟨b2, o2 + n * 4, none⟩ = some (.int .i64 ls[n].code) := hin.cell n hltl (f := 0) rfl
      have s1 : w5.cell? ⟨b2, o2 + n * 4 + 1, none⟩ = some (.int .i64 ls[n].n) := hin.cell n hltl (f := 1) rfl
      have s2 : w5.cell? ⟨b2, o2 + n * 4 + 2, none⟩ = some (.string ls[n].key) := hin.cell n hltl (f := 2) rfl
      have s3 : w5.cell? ⟨b2, o2 + n * 4 + 3, none⟩ = some (.string ls[n].text) := hin.cell n hltl (f := 3) rfl
      have H5 := hidP h5
      clear hO t5 h5 hT e0 e1 e2 e3 e4 e5 eq k1 hin pw Hin2 hLn
      have e0 : w5.cell? ⟨w.heap.size, 0, none⟩ = some (.slice rA rs.length rc) := p5.cell (i := 0) rfl
      have e1 : w5.cell? ⟨w.heap.size, 1, none⟩ = some (.slice mA ms.length mc) := p5.cell (i := 1) rfl
      have e2 : w5.cell? ⟨w.heap.size, 2, none⟩ = some (.slice gA gs.length gc) := p5.cell (i := 2) rfl
      have e3 : w5.cell? ⟨w.heap.size, 3, none⟩ = some (.int .i64 time) := p5.cell (i := 3) rfl
      have e4 : w5.cell? ⟨w.heap.size, 4, none⟩ = some (.slice (some ⟨b1, o1, none⟩) ds.length dc) := p5.cell (i := 4) rfl
      have e5 : w5.cell? ⟨w.heap.size, 5, none⟩ = some (.slice (some ⟨b2, o2, none⟩) ls.length lc) := p5.cell (i := 5) rfl
      have eq := p5.lt
      generalize ls[n] = y at *
      generalize ((List.zip ds ls).take n).flatMap (fun p : Int × An => numI p.1 ++ anB p.2) = ys at *
      go_wp2_with fail
      refine (answer_any (fun k => P k ∨ k = w.heap.size) z y hRx _ (by have := hbd.out; simp only [List.length_append] at this ⊢; omega) _ H5.out).mono ?_
      rintro e w6 ⟨rfl, t6, h6⟩
      have HT6 := hidP (HT5.out.trans t6)
      rw [List.append_assoc, List.append_assoc, ← hto.out] at h6
      have H6 := hidP h6
      clear t6 h6 HT5 H5
      go_wp2
      exact ⟨⟨n + 1, by go_num, by omega, HT6, H6⟩, by simp [intOf]; omega⟩
    . obtain rfl : n = ds.length := by omega
      have hzt : (List.zip ds ls).take ds.length = List.zip ds ls := List.take_of_length_le (by rw [List.length_zip]; omega)
      rw [hzt] at hO
      have HT9 := hidP (Htw.out.trans ((HT.out.trans hT.out).mono (fun k hk => .inl hk)))
      have H9 := hidP (hO.out.mono (Q := P) (fun k hk => .inl hk))
      go_wp2
      go_end0
      refine ⟨rfl, HT9.out, ?_⟩
      rw [← hxs.out]
      exact H9.out
end Go.Proofs.YtaefjifcnoiplaaGreat.Gen
