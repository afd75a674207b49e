/-
  Which messages are right: by the program and by the specification, the same. No condition but the length that every text has, and that there are at most 3000000 entries.
-/
import Derived.Test.YtkmkldjipihceaaGreatLOk
import Derived.Test.YtkmkldjipihceaaGreatRpcV
set_option linter.unusedVariables false
set_option linter.unusedSimpArgs false
set_option maxRecDepth 100000
set_option maxHeartbeats 8000000
set_option maxRecDepth 100000
set_option maxHeartbeats 8000000
namespace Go.Proofs.YtkmkldjipihceaaGreat.Gen
open ChangeShapes WideShapes ChangeAt RowKit Joins Deep Base
def entR (t : Int) (x : En) : Bool := decide (x.term <= t) && (inB x.term 0 300 && enF x)
def rpcB (size kind frm too term index iterm commit : Int) (l : List En) (snap : ByteArray) : Bool :=
  inB kind 1 5 && inB size 1 5 && inB frm 0 (size - 1) && inB too 0 (size - 1) && (frm != too) && (inB term 0 300 && inB index 0 300 && inB iterm 0 300 && inB commit 0 300) && decide ((l.length : Int) <= 40) && l.all (entR term) && decide ((snap.size : Int) <= 30000)
theorem rp_succ {α : Type} (f : α -> Bool) {l : List α} {n : Nat} (h : n < l.length) : (l.take (n + 1)).all f = ((l.take n).all f && f l[n]) := by
 rw [List.take_succ_eq_append_getElem h, List.all_append]; simp
theorem rp_no {α : Type} (f : α -> Bool) {l : List α} {n : Nat} (h : n < l.length) (hx : f l[n] = false) : l.all f = false := by
 rw [List.all_eq_false]; exact ⟨l[n], List.getElem_mem h, by simp [hx]⟩
theorem rp_all {t : Int} {l : List En} (h : inB t 0 300 = true) : l.all (entR t) = l.all (fun x => inB x.term 0 t && enF x) := by
 have h' : 0 <= t /\ t <= 300 := in_le h
 congr 1
 funext x
 unfold entR inB
 by_cases a : x.term <= t
 . by_cases b : 0 <= x.term
   . have : x.term <= 300 := by omega
     simp [a, b, this]
   . simp [b]
 . simp [a]
theorem rpNew {α : Type} [Cel α] (W : World) (L : List α) (cs : Array Value) (tt : TypeId) (h : cs.toList = flat L) : At (W.alloc (.cells cs tt)) (some ⟨W.heap.size, 0, none⟩) L := by
 refine .inr ⟨_, _, rfl, by simp, ?_⟩
 intro j v hv
 rw [← h] at hv
 exact (Blk.new W tt cs).cell (i := 0 + j) (by simpa using hv)
theorem Qdt (size : Int) (w : World) : Calls Tryz.prog 49 #[.int .i64 size] w fun e w' => e = .returned (.bool (inB size 1 5)) /\ w' = w := by
 go_enter Tryz.func49, Tryz.ntmps49
 go_wp2_with (go_at_call 89; refine (within_any _ _ _ _).mono ?_; rintro e w' ⟨rfl, rfl⟩)
 go_ret
 exact ⟨rfl, rfl⟩
theorem Qcl (id size : Int) (w : World) : Calls Tryz.prog 91 #[.int .i64 id, .int .i64 size] w fun e w' => e = .returned (.bool (inB id 0 (size - 1))) /\ Below w.heap.size w w' := by
 by_cases h1 : 0 <= id
 . by_cases h2 : id < size
   . have hF : Hid (inB id 0 (size - 1) = true) := decide_eq_true (by omega)
     go_enter Tryz.func91, Tryz.ntmps91
     go_wp2
     go_ret
     exact ⟨by rw [hF.out]; rfl, by repeat (first | exact Below.refl _ _ | refine Below.drew ?_)⟩
   . have hF : Hid (inB id 0 (size - 1) = false) := decide_eq_false (by omega)
     go_enter Tryz.func91, Tryz.ntmps91
     go_wp2
     go_ret
     exact ⟨by rw [hF.out]; rfl, by repeat (first | exact Below.refl _ _ | refine Below.drew ?_)⟩
 . have hF : Hid (inB id 0 (size - 1) = false) := decide_eq_false (by omega)
   go_enter Tryz.func91, Tryz.ntmps91
   go_wp2
   go_ret
   exact ⟨by rw [hF.out]; rfl, by repeat (first | exact Below.refl _ _ | refine Below.drew ?_)⟩
theorem Qdn (A : Option Addr) (cap : Nat) (l : List Int) (hl : l.length <= 1048576) (w : World) (hA : At w A l) :
 Calls Tryz.prog 55 #[.slice A l.length cap, .func (.func 56) #[] #[]] w fun e w' => e = .returned (.bool (l.all (fun z => inB z 0 300))) /\ Below w.heap.size w w' := by
 have HA := hidP hA
 clear hA
 go_enter Tryz.func55, Tryz.ntmps55
 go_wp2
 go_loopw [9] (fun i w' => ∃ (n : Nat), i = .int .i64 (n : Int) /\ n <= l.length /\ Hid ((l.take n).all (fun z => inB z 0 300) = true) /\ Below w.heap.size w w') (fun i _ => l.length - (intOf i).toNat)
 case atStart => exact ⟨0, rfl, by omega, rfl, Below.refl _ _⟩
 case round =>
  obtain ⟨n, rfl, hn, hall, hbl⟩ := hrel
  by_cases hlt : n < l.length
  . obtain ⟨b, o, rfl, hbs, hIn⟩ : ∃ b o, A = some ⟨b, o, none⟩ /\ b < w.heap.size /\ In w b o l := by
     rcases HA.out with h | h
     . subst h; simp at hlt
     . exact h
    have c0 := (hIn.below hbs hbl).getInt n hlt
    have HC : ∀ W : World, Calls Tryz.prog 56 #[.int .i64 l[n]] W fun e w' => e = .returned (.bool (inB l[n] 0 300)) /\ w' = W := fun W => Qbj l[n] W
    have hsu := rp_succ (fun z => inB z 0 300) hlt
    have hno := rp_no (fun z => inB z 0 300) hlt
    generalize hb : inB l[n] 0 300 = bb at HC hsu hno
    have HC := hidP HC
    have Hsu := hidP hsu
    have Hno := hidP hno
    clear hb hsu hno
    cases bb
    . have HN := hidP (Hno.out rfl)
      clear Hno Hsu
      go_wp2_with fail
      refine (HC.out _).mono ?_
      rintro e w1 ⟨rfl, rfl⟩
      go_wp2
      go_ret
      exact ⟨by rw [HN.out]; rfl, by first | exact hbl | exact Qab hbl _⟩
    . clear Hno
      go_wp2_with fail
      refine (HC.out _).mono ?_
      rintro e w1 ⟨rfl, rfl⟩
      go_wp2
      exact ⟨⟨n + 1, by go_num, by omega, by show _ = _; rw [Hsu.out, hall.out]; rfl, by first | exact hbl | exact Qab hbl _⟩, by simp [intOf]; omega⟩
  . have e : l.take n = l := List.take_of_length_le (by omega)
    go_wp2
    go_ret
    have h := hall.out
    rw [e] at h
    exact ⟨by rw [h]; rfl, hbl⟩
theorem rightE_any (x : En) (hx : x.fit) (w : World) :
 Calls Tryz.prog 94 #[.agg (Qav x.term x.who x.seq x.op x.a x.b x.c x.key x.text)] w fun e w' => e = .returned (.bool (inB x.term 0 300 && enF x)) /\ Below w.heap.size w w' := by
 have E1 : Hid (∀ W : World, Calls Tryz.prog 56 #[.int .i64 x.term] W fun e w' => e = .returned (.bool (inB x.term 0 300)) /\ w' = W) := fun W => Qbj _ W
 have HX := hidP hx
 clear hx
 generalize inB x.term 0 300 = b1 at E1 ⊢
 cases b1
 . go_enter Tryz.func94, Tryz.ntmps94
   go_wp2_with fail
   refine (E1.out _).mono ?_
   rintro e w1 ⟨rfl, rfl⟩
   go_wp2
   go_ret
   exact ⟨rfl, Qab (Below.refl _ _) _⟩
 . go_enter Tryz.func94, Tryz.ntmps94
   go_wp2_with fail
   refine (E1.out _).mono ?_
   rintro e w1 ⟨rfl, rfl⟩
   go_wp2_with fail
   refine (CmdOk.impl_any _ _ _ _ _ _ _ _ HX.out.1 HX.out.2 _).mono ?_
   rintro e w1 ⟨rfl, g1⟩
   go_wp2
   go_ret
   exact ⟨rfl, via0 g1 (Qab (Below.refl _ _) _)⟩
theorem rpE_any (x : En) (hx : x.fit) (t : Int) (Bn : Nat) (w : World) (hn : Bn < w.heap.size) (hB : w.cell? ⟨Bn, 3, none⟩ = some (.int .i64 t)) :
 Calls Tryz.prog 93 #[.agg (Qav x.term x.who x.seq x.op x.a x.b x.c x.key x.text), .pointer (some ⟨Bn, 0, none⟩)] w fun e w' => e = .returned (.bool (entR t x)) /\ Below w.heap.size w w' := by
 have HX := hidP (rightE_any x hx)
 have hB' : (w.alloc (.cells (Qav x.term x.who x.seq x.op x.a x.b x.c x.key x.text) 161)).cell? ⟨Bn, 3, none⟩ = some (.int .i64 t) := ((Qax (Qab (Below.refl _ w) _)).1 _ _ hn).trans hB
 clear hx hB
 by_cases h : x.term <= t
 . have hF : Hid (entR t x = (inB x.term 0 300 && enF x)) := by show _ = _; unfold entR; rw [decide_eq_true h]; rfl
   generalize (inB x.term 0 300 && enF x) = bb at HX hF
   cases bb
   all_goals
    go_enter Tryz.func93, Tryz.ntmps93
    go_wp2_with fail
    refine (HX.out _).mono ?_
    rintro e w1 ⟨rfl, g1⟩
    go_wp2
    go_ret
    exact ⟨by rw [hF.out]; rfl, via0 g1 (by repeat (first | exact Below.refl _ _ | refine Below.drew ?_ | refine Qab ?_ _))⟩
 . have hF : Hid (entR t x = false) := by show _ = _; unfold entR; rw [decide_eq_false h]; rfl
   go_enter Tryz.func93, Tryz.ntmps93
   go_wp2
   go_ret
   exact ⟨by rw [hF.out]; rfl, by repeat (first | exact Below.refl _ _ | refine Below.drew ?_ | refine Qab ?_ _)⟩
theorem Qig (t : Int) (Bn : Nat) (A : Option Addr) (cap : Nat) (l : List En) (hl : l.length <= 3000000) (hr : ∀ x ∈ l, x.fit) (w : World) (hn : Bn < w.heap.size) (hB : w.cell? ⟨Bn, 3, none⟩ = some (.int .i64 t)) (hA : At w A l) :
 Calls Tryz.prog 92 #[.slice A l.length cap, .func (.func 93) #[] #[.pointer (some ⟨Bn, 0, none⟩)]] w fun e w' => e = .returned (.bool (l.all (entR t))) /\ Below w.heap.size w w' := by
 have HA := hidP hA
 have Hr := hidP hr
 have HB : Hid (∀ W : World, Below w.heap.size w W -> Bn < W.heap.size /\ W.cell? ⟨Bn, 3, none⟩ = some (.int .i64 t)) := fun W g => ⟨Nat.lt_of_lt_of_le hn g.size, ((Qax g).1 _ _ hn).trans hB⟩
 clear hA hr hB hn
 go_enter Tryz.func92, Tryz.ntmps92
 go_wp2
 go_loopw [9] (fun i w' => ∃ (n : Nat), i = .int .i64 (n : Int) /\ n <= l.length /\ Hid (l.all (entR t) = (l.drop n).all (entR t)) /\ Below w.heap.size w w') (fun i _ => l.length - (intOf i).toNat)
 case atStart => exact ⟨0, rfl, by omega, rfl, Below.refl _ _⟩
 case round =>
  obtain ⟨n, rfl, hn, hz, hbl⟩ := hrel
  by_cases hlt : n < l.length
  . obtain ⟨b, o, rfl, hbs, hIn⟩ : ∃ b o, A = some ⟨b, o, none⟩ /\ b < w.heap.size /\ In w b o l := by
     rcases HA.out with h | h
     . subst h; simp at hlt
     . exact h
    obtain ⟨c0, c1, c2, c3, c4, c5, c6, c7, c8⟩ := (hIn.below hbs hbl).getEn n hlt
    have hd := hidP (hz.out.trans (Qd7 (entR t) l n hlt))
    have HC : Hid (∀ W : World, Below wr.heap.size wr W -> Calls Tryz.prog 93 #[.agg (Qav l[n].term l[n].who l[n].seq l[n].op l[n].a l[n].b l[n].c l[n].key l[n].text), .pointer (some ⟨Bn, 0, none⟩)] W fun e w' => e = .returned (.bool (entR t l[n])) /\ Below W.heap.size W w') := fun W g => rpE_any l[n] (Hr.out _ (List.getElem_mem hlt)) t Bn W (HB.out W (via0 g hbl)).1 (HB.out W (via0 g hbl)).2
    clear hz
    generalize hb : entR t l[n] = bb at hd HC
    clear hb
    cases bb
    . go_wp2_with fail
      refine (HC.out _ (by first | exact Below.refl _ _ | exact Qab (Below.refl _ _) _)).mono ?_
      rintro e w1 ⟨rfl, g1⟩
      go_wp2
      go_ret
      exact ⟨by rw [hd.out]; rfl, via0 g1 (Qab hbl _)⟩
    . go_wp2_with fail
      refine (HC.out _ (by first | exact Below.refl _ _ | exact Qab (Below.refl _ _) _)).mono ?_
      rintro e w1 ⟨rfl, g1⟩
      go_wp2
      exact ⟨⟨n + 1, by go_num, by omega, by show _ = _; rw [hd.out]; rfl, via0 g1 (Qab hbl _)⟩, by simp [intOf]; omega⟩
  . have e : l.drop n = [] := List.drop_of_length_le (by omega)
    go_wp2
    go_ret
    have h := hz.out
    rw [e] at h
    exact ⟨by rw [h]; rfl, hbl⟩
theorem Qdk (size kind frm too term index iterm commit : Int) (ok : Bool) (snap : ByteArray) (hs : snap.size <= 9223372036854775807) (A : Option Addr) (cap : Nat) (l : List En) (hl : l.length <= 3000000) (hr : ∀ x ∈ l, x.fit) (w : World) (hA : At w A l) :
 Calls Tryz.prog 53 #[.agg (Qaf kind frm too term index iterm commit A l.length cap ok snap), .int .i64 size] w fun e w' => e = .returned (.bool (rpcB size kind frm too term index iterm commit l snap)) /\ Below w.heap.size w w' := by
 obtain ⟨b1, h1⟩ : ∃ b, inB kind 1 5 = b := ⟨_, rfl⟩
 obtain ⟨b2, h2⟩ : ∃ b, inB size 1 5 = b := ⟨_, rfl⟩
 obtain ⟨b3, h3⟩ : ∃ b, inB frm 0 (size - 1) = b := ⟨_, rfl⟩
 obtain ⟨b4, h4⟩ : ∃ b, inB too 0 (size - 1) = b := ⟨_, rfl⟩
 obtain ⟨b5, h5⟩ : ∃ b, (frm != too) = b := ⟨_, rfl⟩
 obtain ⟨b6, h6⟩ : ∃ b, (inB term 0 300 && inB index 0 300 && inB iterm 0 300 && inB commit 0 300) = b := ⟨_, rfl⟩
 obtain ⟨b8, h8⟩ : ∃ b, l.all (entR term) = b := ⟨_, rfl⟩
 have hF : Hid (rpcB size kind frm too term index iterm commit l snap = (b1 && b2 && b3 && b4 && b5 && b6 && decide ((l.length : Int) <= 40) && b8 && decide ((snap.size : Int) <= 30000))) := by show _ = _; rw [rpcB, h1, h2, h3, h4, h5, h6, h8]
 have E1 : Hid (∀ W : World, Calls Tryz.prog 89 (Qa4 kind 1 5) W fun e w' => e = .returned (.bool b1) /\ w' = W) := fun W => h1 ▸ within_any _ _ _ W
 have E2 : Hid (∀ W : World, Calls Tryz.prog 49 #[.int .i64 size] W fun e w' => e = .returned (.bool b2) /\ w' = W) := fun W => h2 ▸ Qdt _ W
 have E3 : Hid (∀ W : World, Calls Tryz.prog 91 #[.int .i64 frm, .int .i64 size] W fun e w' => e = .returned (.bool b3) /\ Below W.heap.size W w') := fun W => h3 ▸ Qcl _ _ W
 have E4 : Hid (∀ W : World, Calls Tryz.prog 91 #[.int .i64 too, .int .i64 size] W fun e w' => e = .returned (.bool b4) /\ Below W.heap.size W w') := fun W => h4 ▸ Qcl _ _ W
 have E6 : Hid (∀ (W : World) (a : Option Addr) (c : Nat), At W a [term, index, iterm, commit] -> Calls Tryz.prog 55 #[.slice a 4 c, .func (.func 56) #[] #[]] W fun e w' => e = .returned (.bool b6) /\ Below W.heap.size W w') := fun W a c g => by have h := Qdn a c [term, index, iterm, commit] (by simp) W g; rw [show [term, index, iterm, commit].all (fun z => inB z 0 300) = b6 by rw [← h6]; simp [Bool.and_assoc]] at h; exact h
 have E8 : Hid (∀ W : World, Below w.heap.size w W -> Blk W w.heap.size 113 (Qaf kind frm too term index iterm commit A l.length cap ok snap) -> Calls Tryz.prog 92 #[.slice A l.length cap, .func (.func 93) #[] #[.pointer (some ⟨w.heap.size, 0, none⟩)]] W fun e w' => e = .returned (.bool b8) /\ Below W.heap.size W w') := fun W g p => h8 ▸ Qig term w.heap.size A cap l hl hr W p.lt (p.cell rfl) (hA.below g)
 have hmf : ∀ (fn : Fn) (first cap : Array Value) (w : World), (Instr.makeFunc fn first cap).run Tryz.prog w = .ok (.func fn first cap) w := fun _ _ _ _ => rfl
 have B0 := hidP (show Below w.heap.size w (w.alloc (.cells (Qaf kind frm too term index iterm commit A l.length cap ok snap) 113)) from Qab (Below.refl _ _) _)
 have P0 := hidP (show Blk (w.alloc (.cells (Qaf kind frm too term index iterm commit A l.length cap ok snap) 113)) w.heap.size 113 (Qaf kind frm too term index iterm commit A l.length cap ok snap) from Blk.new w 113 (Qaf kind frm too term index iterm commit A l.length cap ok snap))
 clear h1 h2 h3 h4 h6 h8 hA hr
 go_enter Tryz.func53, Tryz.ntmps53
 go_wp2_with fail
 obtain ⟨u0, u1, u2, u3, u4, u5, u6, u7, u8, u9⟩ := P0.out.row10
 have q0 := P0.out.lt
 go_wp2_with fail
 refine (E1.out _).mono ?_
 rintro e w1 ⟨rfl, hw1⟩; subst w1
 cases b1
 . go_wp2
   go_ret
   exact ⟨by rw [hF.out]; first | rfl | simp [*], B0.out⟩
 go_wp2_with fail
 refine (E2.out _).mono ?_
 rintro e w1 ⟨rfl, hw1⟩; subst w1
 cases b2
 . go_wp2
   go_ret
   exact ⟨by rw [hF.out]; first | rfl | simp [*], B0.out⟩
 go_wp2_with fail
 refine (E3.out _).mono ?_
 rintro e w3 ⟨rfl, g⟩
 replace B0 := hidP (via0 g B0.out)
 replace P0 := hidP (P0.out.below g P0.out.lt)
 clear g u0 u1 u2 u3 u4 u5 u6 u7 u8 u9 q0
 obtain ⟨u0, u1, u2, u3, u4, u5, u6, u7, u8, u9⟩ := P0.out.row10
 have q0 := P0.out.lt
 cases b3
 . go_wp2
   go_ret
   exact ⟨by rw [hF.out]; first | rfl | simp [*], B0.out⟩
 go_wp2_with fail
 refine (E4.out _).mono ?_
 rintro e w4 ⟨rfl, g⟩
 replace B0 := hidP (via0 g B0.out)
 replace P0 := hidP (P0.out.below g P0.out.lt)
 clear g u0 u1 u2 u3 u4 u5 u6 u7 u8 u9 q0
 obtain ⟨u0, u1, u2, u3, u4, u5, u6, u7, u8, u9⟩ := P0.out.row10
 have q0 := P0.out.lt
 cases b4
 . go_wp2
   go_ret
   exact ⟨by rw [hF.out]; first | rfl | simp [*], B0.out⟩
 cases b5
 . go_wp2
   go_ret
   exact ⟨by rw [hF.out]; first | rfl | simp [*], B0.out⟩
 have B5 := hidP (show Below w.heap.size w (w4.alloc (.cells (Qag term index iterm commit) 3)) from Qab B0.out _)
 have P5 := hidP (P0.out.alloc (.cells (Qag term index iterm commit) 3))
 have A5 := hidP (show At (w4.alloc (.cells (Qag term index iterm commit) 3)) (some ⟨w4.heap.size, 0, none⟩) [term, index, iterm, commit] from rpNew w4 [term, index, iterm, commit] (Qag term index iterm commit) 3 rfl)
 go_wp2_with fail
 refine (E6.out _ _ _ A5.out).mono ?_
 rintro e w6 ⟨rfl, g⟩
 replace B0 := hidP (via0 g B5.out)
 replace P0 := hidP (P5.out.below g P5.out.lt)
 clear g B5 P5 A5 u0 u1 u2 u3 u4 u5 u6 u7 u8 u9 q0
 obtain ⟨u0, u1, u2, u3, u4, u5, u6, u7, u8, u9⟩ := P0.out.row10
 have q0 := P0.out.lt
 cases b6
 . go_wp2
   go_ret
   exact ⟨by rw [hF.out]; first | rfl | simp [*], B0.out⟩
 by_cases h7 : (l.length : Int) <= 40
 rotate_left
 . have hf := hidP (decide_eq_false h7)
   go_wp2
   go_ret
   exact ⟨by rw [hF.out, hf.out]; first | rfl | simp, B0.out⟩
 have hfh7 := hidP (decide_eq_true h7)
 rw [hfh7.out] at hF
 go_wp2_with fail
 refine (E8.out _ B0.out P0.out).mono ?_
 rintro e w8 ⟨rfl, g⟩
 replace B0 := hidP (via0 g B0.out)
 replace P0 := hidP (P0.out.below g P0.out.lt)
 clear g u0 u1 u2 u3 u4 u5 u6 u7 u8 u9 q0
 obtain ⟨u0, u1, u2, u3, u4, u5, u6, u7, u8, u9⟩ := P0.out.row10
 have q0 := P0.out.lt
 cases b8
 . go_wp2
   go_ret
   exact ⟨by rw [hF.out]; first | rfl | simp [*], B0.out⟩
 by_cases h9 : (snap.size : Int) <= 30000
 rotate_left
 . have hf := hidP (decide_eq_false h9)
   go_wp2
   go_ret
   exact ⟨by rw [hF.out, hf.out]; first | rfl | simp, B0.out⟩
 have hfh9 := hidP (decide_eq_true h9)
 rw [hfh9.out] at hF
 go_wp2
 go_ret
 exact ⟨by rw [hF.out]; first | rfl | simp [*], B0.out⟩
theorem rpList_any (most : Int) (A : Option Addr) (cap : Nat) (l : List En) (hl : l.length <= 3000000) (hr : ∀ x ∈ l, x.fit) (w : World) (hA : At w A l) :
 Calls Tryz.prog 81 #[.slice A l.length cap, .int .i64 most] w fun e w' => e = .returned (.bool (l.all (fun x => inB x.term 0 most && enF x) && decide ((l.length : Int) <= 40))) /\ Below w.heap.size w w' := by
 have HA := hidP hA
 have Hr := hidP hr
 clear hA hr
 obtain ⟨bz, hz⟩ : ∃ b, (l.all (fun x => inB x.term 0 most && enF x) && decide ((l.length : Int) <= 40)) = b := ⟨_, rfl⟩
 rw [hz]
 have hG : Hid (bz = ((l.drop 0).all (fun x => inB x.term 0 most && enF x) && decide ((l.length : Int) <= 40))) := hz.symm
 clear hz
 go_enter Tryz.func81, Tryz.ntmps81
 go_wp2
 go_loopw [5] (fun i w' => ∃ (n : Nat), i = .int .i64 (n : Int) /\ n <= l.length /\ Hid (bz = ((l.drop n).all (fun x => inB x.term 0 most && enF x) && decide ((l.length : Int) <= 40))) /\ Below w.heap.size w w') (fun i _ => l.length - (intOf i).toNat)
 case atStart => exact ⟨0, rfl, by omega, hG, Below.refl _ _⟩
 case round =>
  obtain ⟨n, rfl, hn, hz, hbl⟩ := hrel
  by_cases hlt : n < l.length
  . obtain ⟨b, o, rfl, hbs, hIn⟩ : ∃ b o, A = some ⟨b, o, none⟩ /\ b < w.heap.size /\ In w b o l := by
     rcases HA.out with h | h
     . subst h; simp at hlt
     . exact h
    have hb1 : b < wr.heap.size := Nat.lt_of_lt_of_le hbs hbl.size
    obtain ⟨c0, c1, c2, c3, c4, c5, c6, c7, c8⟩ := (hIn.below hbs hbl).getEn n hlt
    have hd : Hid (bz = (inB l[n].term 0 most && enF l[n] && (l.drop (n + 1)).all (fun x => inB x.term 0 most && enF x) && decide ((l.length : Int) <= 40))) := by show _ = _; rw [hz.out, Qd7 (fun x => inB x.term 0 most && enF x) l n hlt]
    have HW : Hid (∀ W : World, Calls Tryz.prog 32 (Qa4 l[n].term 0 most) W fun e w' => e = .returned (.bool (inB l[n].term 0 most)) /\ w' = W) := fun W => in_any _ _ _ W
    have HC : Hid (∀ W : World, Calls Tryz.prog 43 #[.agg (Qan l[n].who l[n].seq l[n].op l[n].a l[n].b l[n].c l[n].key l[n].text)] W fun e w' => e = .returned (.bool (enF l[n])) /\ Below W.heap.size W w') := fun W => CmdOk.spec_any _ _ _ _ _ _ _ _ (Hr.out _ (List.getElem_mem hlt)).1 (Hr.out _ (List.getElem_mem hlt)).2 W
    clear hz
    generalize hb : inB l[n].term 0 most = bb at hd HW
    clear hb
    generalize hb : enF l[n] = bc at hd HC
    clear hb
    cases bb
    . go_wp2_with fail
      refine (HW.out _).mono ?_
      rintro e w1 ⟨rfl, hw1⟩; subst w1
      go_wp2
      go_ret
      exact ⟨by rw [hd.out]; rfl, hbl⟩
    . cases bc
      . go_wp2_with fail
        refine (HW.out _).mono ?_
        rintro e w1 ⟨rfl, hw1⟩; subst w1
        go_wp2_with fail
        refine (HC.out _).mono ?_
        rintro e w1 ⟨rfl, g1⟩
        go_wp2
        go_ret
        exact ⟨by rw [hd.out]; rfl, via0 g1 hbl⟩
      . go_wp2_with fail
        refine (HW.out _).mono ?_
        rintro e w1 ⟨rfl, hw1⟩; subst w1
        go_wp2_with fail
        refine (HC.out _).mono ?_
        rintro e w1 ⟨rfl, g1⟩
        go_wp2
        exact ⟨⟨n + 1, by go_num, by omega, by show _ = _; rw [hd.out]; rfl, via0 g1 hbl⟩, by simp [intOf]; omega⟩
  . have e : l.drop n = [] := List.drop_of_length_le (by omega)
    have h := hz.out
    rw [e] at h
    have H := hidP h
    clear h hz e
    by_cases h4 : (l.length : Int) <= 40
    . have hf : Hid (decide ((l.length : Int) <= 40) = true) := decide_eq_true h4
      go_wp2
      go_ret
      exact ⟨by rw [H.out, hf.out]; rfl, hbl⟩
    . have hf : Hid (decide ((l.length : Int) <= 40) = false) := decide_eq_false h4
      go_wp2
      go_ret
      exact ⟨by rw [H.out, hf.out]; rfl, hbl⟩
theorem rpcB_spec (size kind frm too term index iterm commit : Int) (l : List En) (snap : ByteArray) : rpcB size kind frm too term index iterm commit l snap = (inB kind 1 5 && inB size 1 5 && inB frm 0 (size - 1) && inB too 0 (size - 1) && !(frm == too) && inB term 0 300 && inB index 0 300 && inB iterm 0 300 && inB commit 0 300 && (l.all (fun x => inB x.term 0 term && enF x) && decide ((l.length : Int) <= 40)) && decide ((snap.size : Int) <= 30000)) := by
 unfold rpcB
 have e : (frm != too) = !(frm == too) := rfl
 rw [e]
 cases ht : inB term 0 300
 . simp
 . rw [rp_all ht]; ac_rfl
theorem Qdf (size kind frm too term index iterm commit : Int) (ok : Bool) (snap : ByteArray) (hs : snap.size <= 9223372036854775807) (A : Option Addr) (cap : Nat) (l : List En) (hl : l.length <= 3000000) (hr : ∀ x ∈ l, x.fit) (w : World) (hA : At w A l) :
 Calls Tryz.prog 42 #[.agg (Qaf kind frm too term index iterm commit A l.length cap ok snap), .int .i64 size] w fun e w' => e = .returned (.bool (rpcB size kind frm too term index iterm commit l snap)) /\ Below w.heap.size w w' := by
 obtain ⟨b1, h1⟩ : ∃ b, inB kind 1 5 = b := ⟨_, rfl⟩
 obtain ⟨b2, h2⟩ : ∃ b, inB size 1 5 = b := ⟨_, rfl⟩
 obtain ⟨b3, h3⟩ : ∃ b, inB frm 0 (size - 1) = b := ⟨_, rfl⟩
 obtain ⟨b4, h4⟩ : ∃ b, inB too 0 (size - 1) = b := ⟨_, rfl⟩
 obtain ⟨b5, h5⟩ : ∃ b, (frm == too) = b := ⟨_, rfl⟩
 obtain ⟨t1, i1⟩ : ∃ b, inB term 0 300 = b := ⟨_, rfl⟩
 obtain ⟨t2, i2⟩ : ∃ b, inB index 0 300 = b := ⟨_, rfl⟩
 obtain ⟨t3, i3⟩ : ∃ b, inB iterm 0 300 = b := ⟨_, rfl⟩
 obtain ⟨t4, i4⟩ : ∃ b, inB commit 0 300 = b := ⟨_, rfl⟩
 obtain ⟨b8, h8⟩ : ∃ b, (l.all (fun x => inB x.term 0 term && enF x) && decide ((l.length : Int) <= 40)) = b := ⟨_, rfl⟩
 have hF : Hid (rpcB size kind frm too term index iterm commit l snap = (b1 && b2 && b3 && b4 && !b5 && t1 && t2 && t3 && t4 && b8 && decide ((snap.size : Int) <= 30000))) := by show _ = _; rw [rpcB_spec, h1, h2, h3, h4, h5, h8, i1, i2, i3, i4]
 have HZ : Hid (b2 = true -> wrap64 (size - 1) = size - 1) := by
  intro h
  rw [h] at h2
  have h3 := in_le h2
  unfold wrap64; omega
 have E1 : Hid (∀ W : World, Calls Tryz.prog 32 (Qa4 kind 1 5) W fun e w' => e = .returned (.bool b1) /\ w' = W) := fun W => h1 ▸ in_any _ _ _ W
 have E2 : Hid (∀ W : World, Calls Tryz.prog 32 (Qa4 size 1 5) W fun e w' => e = .returned (.bool b2) /\ w' = W) := fun W => h2 ▸ in_any _ _ _ W
 have E3 : Hid (∀ (W : World) (z : Int), z = size - 1 -> Calls Tryz.prog 32 (Qa4 frm 0 z) W fun e w' => e = .returned (.bool b3) /\ w' = W) := fun W z hz => by subst hz; exact h3 ▸ in_any _ _ _ W
 have E4 : Hid (∀ (W : World) (z : Int), z = size - 1 -> Calls Tryz.prog 32 (Qa4 too 0 z) W fun e w' => e = .returned (.bool b4) /\ w' = W) := fun W z hz => by subst hz; exact h4 ▸ in_any _ _ _ W
 have F1 : Hid (∀ W : World, Calls Tryz.prog 32 (Qa4 term 0 300) W fun e w' => e = .returned (.bool t1) /\ w' = W) := fun W => i1 ▸ in_any _ _ _ W
 have F2 : Hid (∀ W : World, Calls Tryz.prog 32 (Qa4 index 0 300) W fun e w' => e = .returned (.bool t2) /\ w' = W) := fun W => i2 ▸ in_any _ _ _ W
 have F3 : Hid (∀ W : World, Calls Tryz.prog 32 (Qa4 iterm 0 300) W fun e w' => e = .returned (.bool t3) /\ w' = W) := fun W => i3 ▸ in_any _ _ _ W
 have F4 : Hid (∀ W : World, Calls Tryz.prog 32 (Qa4 commit 0 300) W fun e w' => e = .returned (.bool t4) /\ w' = W) := fun W => i4 ▸ in_any _ _ _ W
 have E8 : Hid (∀ W : World, Below w.heap.size w W -> Calls Tryz.prog 81 #[.slice A l.length cap, .int .i64 term] W fun e w' => e = .returned (.bool b8) /\ Below W.heap.size W w') := fun W g => h8 ▸ rpList_any term A cap l hl hr W (hA.below g)
 have B0 := hidP (show Below w.heap.size w (w.alloc (.cells (Qaf kind frm too term index iterm commit A l.length cap ok snap) 113)) from Qab (Below.refl _ _) _)
 have P0 := hidP (show Blk (w.alloc (.cells (Qaf kind frm too term index iterm commit A l.length cap ok snap) 113)) w.heap.size 113 (Qaf kind frm too term index iterm commit A l.length cap ok snap) from Blk.new w 113 (Qaf kind frm too term index iterm commit A l.length cap ok snap))
 clear h1 h2 h3 h4 h8 i1 i2 i3 i4 hA hr
 go_enter Tryz.func42, Tryz.ntmps42
 go_wp2_with fail
 obtain ⟨u0, u1, u2, u3, u4, u5, u6, u7, u8, u9⟩ := P0.out.row10
 have q0 := P0.out.lt
 go_wp2_with fail
 refine (E1.out _).mono ?_
 rintro e w1 ⟨rfl, hw1⟩; subst w1
 cases b1
 . go_wp2
   go_ret
   exact ⟨by rw [hF.out]; first | rfl | simp [*], B0.out⟩
 go_wp2_with fail
 refine (E2.out _).mono ?_
 rintro e w1 ⟨rfl, hw1⟩; subst w1
 cases b2
 . go_wp2
   go_ret
   exact ⟨by rw [hF.out]; first | rfl | simp [*], B0.out⟩
 go_wp2_with fail
 refine (E3.out _ _ (by first | rfl | exact HZ.out (by simp))).mono ?_
 rintro e w1 ⟨rfl, hw1⟩; subst w1
 cases b3
 . go_wp2
   go_ret
   exact ⟨by rw [hF.out]; first | rfl | simp [*], B0.out⟩
 go_wp2_with fail
 refine (E4.out _ _ (by first | rfl | exact HZ.out (by simp))).mono ?_
 rintro e w1 ⟨rfl, hw1⟩; subst w1
 cases b4
 . go_wp2
   go_ret
   exact ⟨by rw [hF.out]; first | rfl | simp [*], B0.out⟩
 cases b5
 rotate_left
 . go_wp2
   go_ret
   exact ⟨by rw [hF.out]; first | rfl | simp [*], B0.out⟩
 go_wp2_with fail
 refine (F1.out _).mono ?_
 rintro e w1 ⟨rfl, hw1⟩; subst w1
 cases t1
 . go_wp2
   go_ret
   exact ⟨by rw [hF.out]; first | rfl | simp [*], B0.out⟩
 go_wp2_with fail
 refine (F2.out _).mono ?_
 rintro e w1 ⟨rfl, hw1⟩; subst w1
 cases t2
 . go_wp2
   go_ret
   exact ⟨by rw [hF.out]; first | rfl | simp [*], B0.out⟩
 go_wp2_with fail
 refine (F3.out _).mono ?_
 rintro e w1 ⟨rfl, hw1⟩; subst w1
 cases t3
 . go_wp2
   go_ret
   exact ⟨by rw [hF.out]; first | rfl | simp [*], B0.out⟩
 go_wp2_with fail
 refine (F4.out _).mono ?_
 rintro e w1 ⟨rfl, hw1⟩; subst w1
 cases t4
 . go_wp2
   go_ret
   exact ⟨by rw [hF.out]; first | rfl | simp [*], B0.out⟩
 go_wp2_with fail
 refine (E8.out _ B0.out).mono ?_
 rintro e w8 ⟨rfl, g⟩
 replace B0 := hidP (via0 g B0.out)
 replace P0 := hidP (P0.out.below g P0.out.lt)
 clear g u0 u1 u2 u3 u4 u5 u6 u7 u8 u9 q0
 obtain ⟨u0, u1, u2, u3, u4, u5, u6, u7, u8, u9⟩ := P0.out.row10
 have q0 := P0.out.lt
 cases b8
 . go_wp2
   go_ret
   exact ⟨by rw [hF.out]; first | rfl | simp [*], B0.out⟩
 by_cases h9 : (snap.size : Int) <= 30000
 rotate_left
 . have hf := hidP (decide_eq_false h9)
   go_wp2
   go_ret
   exact ⟨by rw [hF.out, hf.out]; first | rfl | simp, B0.out⟩
 have hfh9 := hidP (decide_eq_true h9)
 rw [hfh9.out] at hF
 go_wp2
 go_ret
 exact ⟨by rw [hF.out]; first | rfl | simp [*], B0.out⟩
end Go.Proofs.YtkmkldjipihceaaGreat.Gen
