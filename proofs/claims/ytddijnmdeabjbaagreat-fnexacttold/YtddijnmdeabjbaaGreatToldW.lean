/-
  Told, on both sides: some Heard is of that client and number. No condition but that a list is no longer than a list can be.
-/
import Derived.Test.YtddijnmdeabjbaaGreatWoV
set_option linter.unusedVariables false
set_option linter.unusedSimpArgs false
set_option maxRecDepth 100000
set_option maxHeartbeats 8000000
namespace Go.Proofs.YtddijnmdeabjbaaGreat.Gen
open ChangeShapes WideShapes ChangeAt RowKit Joins Deep Base
def Qa7 (l : List He) (who seq : Int) : Bool := l.any (fun h => decide (h.who = who) && decide (h.seq = seq))
theorem Qcm (l : List He) (who seq : Int) (n : Nat) (h : n < l.length) : Qa7 (l.drop n) who seq = ((decide (l[n].who = who) && decide (l[n].seq = seq)) || Qa7 (l.drop (n + 1)) who seq) := by
 rw [List.drop_eq_getElem_cons h]; rfl
theorem Qcu (p : WC) (hl : p.hs.length <= 9223372036854775807) (who seq : Int) (w : World) (hp : At w p.hA p.hs) :
 Calls Tryz.prog 10 #[.agg (Qaj p), .int .i64 who, .int .i64 seq] w fun e w' => e = .returned (.bool (Qa7 p.hs who seq)) /\ Below w.heap.size w w' := by
 have HA := hidP hp
 clear hp
 have P0 := hidP (Blk.new w 39 (Qaj p))
 have B0 := hidP (show Below w.heap.size w (w.alloc (.cells (Qaj p) 39)) from Qaa (Below.refl _ _) _)
 have u0 := P0.out.cell (i := 10 - 1) (v := .slice p.hA p.hs.length p.hc) rfl
 go_enter Tryz.func10, Tryz.ntmps10
 go_wp2
 go_loopw [7] (fun i w' => ∃ (n : Nat), i = .int .i64 (n : Int) /\ n <= p.hs.length /\ Hid (Qa7 p.hs who seq = Qa7 (p.hs.drop n) who seq) /\ Below w.heap.size w w' /\ Blk w' w.heap.size 39 (Qaj p)) (fun i _ => p.hs.length - (intOf i).toNat)
 case atStart => exact ⟨0, rfl, by omega, rfl, B0.out, P0.out⟩
 case round =>
  obtain ⟨n, rfl, hn, hz, hbl, hbx⟩ := hrel
  have x0 := hbx.cell (i := 9) (v := .slice p.hA p.hs.length p.hc) rfl
  have q0 := hbx.lt
  by_cases hlt : n < p.hs.length
  . obtain ⟨b, o, hAe, hbs, hIn⟩ : ∃ b o, p.hA = some ⟨b, o, none⟩ /\ b < w.heap.size /\ In w b o p.hs := by
     rcases HA.out with h | h
     . rw [h] at hlt; simp at hlt
     . exact h
    rw [hAe] at x0
    obtain ⟨c0, c1, c2, c3, c4, c5, c6, c7⟩ := (hIn.below hbs hbl).getHe n hlt
    have hd := hidP (hz.out.trans (Qcm p.hs who seq n hlt))
    have HX := hidP hbx
    clear hz hbx c2 c3 c4 c5 c6 c7
    by_cases h1 : p.hs[n].who = who
    . by_cases h2 : p.hs[n].seq = seq
      . have hr : Qa7 p.hs who seq = true := by rw [hd.out]; simp [h1, h2]
        clear hd
        rw [h1] at c0
        rw [h2] at c1
        go_wp2
        go_ret
        exact ⟨by rw [hr]; rfl, hbl⟩
      . have hr := hidP (show Qa7 p.hs who seq = Qa7 (p.hs.drop (n + 1)) who seq by rw [hd.out]; simp [h2])
        clear hd
        rw [h1] at c0
        go_wp2
        exact ⟨⟨n + 1, by go_num, by omega, hr.out, hbl, HX.out⟩, by simp [intOf]; omega⟩
    . have hr := hidP (show Qa7 p.hs who seq = Qa7 (p.hs.drop (n + 1)) who seq by rw [hd.out]; simp [h1])
      clear hd
      go_wp2
      exact ⟨⟨n + 1, by go_num, by omega, hr.out, hbl, HX.out⟩, by simp [intOf]; omega⟩
  . have e : p.hs.drop n = [] := List.drop_of_length_le (by omega)
    have h := hz.out
    rw [e] at h
    have hr : Qa7 p.hs who seq = false := h
    clear hz h
    go_wp2
    go_ret
    exact ⟨by rw [hr]; rfl, hbl⟩
theorem told1_any (h : He) (Bw Bs : Nat) (who seq : Int) (w : World) (hw : Bw < w.heap.size) (hs : Bs < w.heap.size) (cw : w.cell? ⟨Bw, 0, none⟩ = some (.int .i64 who)) (cs : w.cell? ⟨Bs, 0, none⟩ = some (.int .i64 seq)) :
 Calls Tryz.prog 49 #[.agg #[.int .i64 h.who, .int .i64 h.seq, .int .i64 h.code, .int .i64 h.n, .string h.key, .string h.text, .int .i64 h.frm, .int .i64 h.at_], .pointer (some ⟨Bw, 0, none⟩), .pointer (some ⟨Bs, 0, none⟩)] w fun e w' => e = .returned (.bool (decide (h.who = who) && decide (h.seq = seq))) /\ Below w.heap.size w w' := by
 by_cases h1 : h.who = who
 . by_cases h2 : h.seq = seq
   . rw [h1, h2]
     go_enter Tryz.func49, Tryz.ntmps49
     go_wp2
     go_ret
     exact ⟨by simp, by repeat (first | exact Below.refl _ _ | assumption | refine via0 (by assumption) ?_ | refine Below.drew ?_ | refine Qaa ?_ _)⟩
   . rw [h1]
     go_enter Tryz.func49, Tryz.ntmps49
     go_wp2
     go_ret
     exact ⟨by simp [h2], by repeat (first | exact Below.refl _ _ | assumption | refine via0 (by assumption) ?_ | refine Below.drew ?_ | refine Qaa ?_ _)⟩
 . go_enter Tryz.func49, Tryz.ntmps49
   go_wp2
   go_ret
   exact ⟨by simp [h1], by repeat (first | exact Below.refl _ _ | assumption | refine via0 (by assumption) ?_ | refine Below.drew ?_ | refine Qaa ?_ _)⟩
theorem Qch (A : Option Addr) (cap : Nat) (l : List He) (hl : l.length <= 9223372036854775807) (Bw Bs : Nat) (who seq : Int) (w : World) (hA : At w A l) (hw : Bw < w.heap.size) (hs : Bs < w.heap.size) (cw : w.cell? ⟨Bw, 0, none⟩ = some (.int .i64 who)) (cs : w.cell? ⟨Bs, 0, none⟩ = some (.int .i64 seq)) :
 Calls Tryz.prog 80 #[.slice A l.length cap, .func (.func 49) #[] #[.pointer (some ⟨Bw, 0, none⟩), .pointer (some ⟨Bs, 0, none⟩)]] w fun e w' => (∃ r : Int, e = .returned (.int .i64 r) /\ Qa7 l who seq = decide (0 <= r)) /\ Below w.heap.size w w' := by
 have HA := hidP hA
 have HB : Hid (∀ (h : He) (W : World), Below w.heap.size w W -> Calls Tryz.prog 49 #[.agg #[.int .i64 h.who, .int .i64 h.seq, .int .i64 h.code, .int .i64 h.n, .string h.key, .string h.text, .int .i64 h.frm, .int .i64 h.at_], .pointer (some ⟨Bw, 0, none⟩), .pointer (some ⟨Bs, 0, none⟩)] W fun e w' => e = .returned (.bool (decide (h.who = who) && decide (h.seq = seq))) /\ Below W.heap.size W w') := fun h W g => told1_any h Bw Bs who seq W (Nat.lt_of_lt_of_le hw g.size) (Nat.lt_of_lt_of_le hs g.size) (((Qap g).1 _ _ hw).trans cw) (((Qap g).1 _ _ hs).trans cs)
 clear hA hw hs cw cs
 go_enter Tryz.func80, Tryz.ntmps80
 go_wp2
 go_loopw [8] (fun i w' => ∃ (n : Nat), i = .int .i64 (n : Int) /\ n <= l.length /\ Hid (Qa7 l who seq = Qa7 (l.drop n) who seq) /\ Below w.heap.size w w') (fun i _ => l.length - (intOf i).toNat)
 case atStart => exact ⟨0, rfl, by omega, rfl, Below.refl _ _⟩
 case round =>
  obtain ⟨n, rfl, hn, hz, hbl⟩ := hrel
  by_cases hlt : n < l.length
  . obtain ⟨b, o, rfl, hbs, hIn⟩ : ∃ b o, A = some ⟨b, o, none⟩ /\ b < w.heap.size /\ In w b o l := by
     rcases HA.out with h | h
     . subst h; simp at hlt
     . exact h
    obtain ⟨c0, c1, c2, c3, c4, c5, c6, c7⟩ := (hIn.below hbs hbl).getHe n hlt
    have hd := hidP (hz.out.trans (Qcm l who seq n hlt))
    have HC := hidP (HB.out l[n] wr hbl)
    have hi0 : (0 : Int) <= (n : Int) := by omega
    have hi1 : (n : Int) < (l.length : Int) := by omega
    clear hz
    generalize hb : (decide (l[n].who = who) && decide (l[n].seq = seq)) = bb at hd HC
    clear hb
    cases bb
    . go_wp2_with fail
      refine HC.out.mono ?_
      rintro e w1 ⟨rfl, g1⟩
      go_wp2
      exact ⟨⟨n + 1, by go_num, by omega, by show _ = _; rw [hd.out]; rfl, via0 g1 hbl⟩, by simp [intOf]; omega⟩
    . go_wp2_with fail
      refine HC.out.mono ?_
      rintro e w1 ⟨rfl, g1⟩
      go_wp2
      go_ret
      exact ⟨⟨n, rfl, by rw [hd.out]; simp⟩, via0 g1 hbl⟩
  . have e : l.drop n = [] := List.drop_of_length_le (by omega)
    have h := hz.out
    rw [e] at h
    have hr := hidP (show Qa7 l who seq = false from h)
    clear hz h
    go_wp2
    go_ret
    exact ⟨⟨-1, rfl, by rw [hr.out]; rfl⟩, hbl⟩
theorem Qbq (A : Option Addr) (cap : Nat) (l : List He) (hl : l.length <= 9223372036854775807) (Bw Bs : Nat) (who seq : Int) (w : World) (hA : At w A l) (hw : Bw < w.heap.size) (hs : Bs < w.heap.size) (cw : w.cell? ⟨Bw, 0, none⟩ = some (.int .i64 who)) (cs : w.cell? ⟨Bs, 0, none⟩ = some (.int .i64 seq)) :
 Calls Tryz.prog 48 #[.slice A l.length cap, .func (.func 49) #[] #[.pointer (some ⟨Bw, 0, none⟩), .pointer (some ⟨Bs, 0, none⟩)]] w fun e w' => e = .returned (.bool (Qa7 l who seq)) /\ Below w.heap.size w w' := by
 have HC := hidP (Qch A cap l hl Bw Bs who seq w hA hw hs cw cs)
 clear hA hw hs cw cs
 go_enter Tryz.func48, Tryz.ntmps48
 go_wp2_with fail
 refine HC.out.mono ?_
 rintro e w1 ⟨⟨r, rfl, hr⟩, g1⟩
 go_wp2
 go_ret
 exact ⟨by rw [hr]; rfl, g1⟩
theorem Qcw (p : WC) (hl : p.hs.length <= 9223372036854775807) (who seq : Int) (w : World) (hp : At w p.hA p.hs) :
 Calls Tryz.prog 11 #[.agg (Qaj p), .int .i64 who, .int .i64 seq] w fun e w' => e = .returned (.bool (Qa7 p.hs who seq)) /\ Below w.heap.size w w' := by
 have HC : Hid (∀ (W : World) (Bw Bs : Nat), Below w.heap.size w W -> Bw < W.heap.size -> Bs < W.heap.size -> W.cell? ⟨Bw, 0, none⟩ = some (.int .i64 who) -> W.cell? ⟨Bs, 0, none⟩ = some (.int .i64 seq) -> Calls Tryz.prog 48 #[.slice p.hA p.hs.length p.hc, .func (.func 49) #[] #[.pointer (some ⟨Bw, 0, none⟩), .pointer (some ⟨Bs, 0, none⟩)]] W fun e w' => e = .returned (.bool (Qa7 p.hs who seq)) /\ Below W.heap.size W w') := fun W Bw Bs g h1 h2 h3 h4 => Qbq p.hA p.hc p.hs hl Bw Bs who seq W (hp.below g) h1 h2 h3 h4
 have P0 : Blk (((w.alloc (.cells (Qaj p) 39)).alloc (.cells #[.int .i64 who] 3)).alloc (.cells #[.int .i64 seq] 3)) w.heap.size 39 (Qaj p) := ((Blk.new w _ _).alloc _).alloc _
 have x0 := P0.cell (i := 9) (v := .slice p.hA p.hs.length p.hc) rfl
 have q0 := P0.lt
 have P1 : Blk (((w.alloc (.cells (Qaj p) 39)).alloc (.cells #[.int .i64 who] 3)).alloc (.cells #[.int .i64 seq] 3)) (w.heap.size + 1) 3 #[.int .i64 who] := by have := (Blk.new (w.alloc (.cells (Qaj p) 39)) 3 #[.int .i64 who]).alloc (.cells #[.int .i64 seq] 3); rwa [World.size_alloc] at this
 have P2 : Blk (((w.alloc (.cells (Qaj p) 39)).alloc (.cells #[.int .i64 who] 3)).alloc (.cells #[.int .i64 seq] 3)) (w.heap.size + 1 + 1) 3 #[.int .i64 seq] := by have := Blk.new ((w.alloc (.cells (Qaj p) 39)).alloc (.cells #[.int .i64 who] 3)) 3 #[.int .i64 seq]; rwa [World.size_alloc, World.size_alloc] at this
 have HP := hidP (And.intro P1 P2)
 clear hp P0 P1 P2
 go_enter Tryz.func11, Tryz.ntmps11
 go_wp2_with fail
 refine (HC.out _ _ _ (Qaa (Qaa (Qaa (Below.refl _ _) _) _) _) HP.out.1.lt HP.out.2.lt (HP.out.1.cell rfl) (HP.out.2.cell rfl)).mono ?_
 rintro e w1 ⟨rfl, g1⟩
 go_wp2
 go_ret
 exact ⟨rfl, via0 g1 (Qaa (Qaa (Qaa (Below.refl _ _) _) _) _)⟩
end Go.Proofs.YtddijnmdeabjbaaGreat.Gen
