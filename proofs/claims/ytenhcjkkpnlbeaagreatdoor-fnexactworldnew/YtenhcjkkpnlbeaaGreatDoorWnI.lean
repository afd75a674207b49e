/-
  A new world, as the program makes it. Condition: the library's variable errors.errorType holds what the program's text lays.
-/
import Derived.Test.YtenhcjkkpnlbeaaGreatDoorWoI
set_option linter.unusedVariables false
set_option linter.unusedSimpArgs false
set_option maxRecDepth 100000
set_option maxHeartbeats 8000000
namespace Go.Proofs.YtenhcjkkpnlbeaaGreatDoor.Gen
open ChangeShapes WideShapes ChangeAt RowKit Joins Deep Base
def StWi (w : World) (ro wi le ke sz : Int) (zw : Array Value) (m : Nat -> Bool) (a : Act) (W : World) : Prop := ∃ v : Nat -> Value,
  a = { tmps := #[.agg (Qag ro wi le ke), .int .i64 sz, .pointer (some ⟨w.heap.size, 0, none⟩), undef, .pointer (some ⟨w.heap.size + 1, 0, none⟩), .bool false, sl m v 5, undef, undef, undef, .agg (Qag ro wi le ke), .int .i64 sz, sl m v 2, sl m v 3, sl m v 4, undef, undef, undef, undef, undef, undef, undef, undef, undef, undef, undef, undef, undef, undef, undef, undef, undef, undef, undef, undef, undef, undef, undef, undef, undef, undef], defers := [] } /\ Wn2 w W (Qag ro wi le ke) zw /\ Lt (w.heap.size + 2) W PtW m v /\ (m 4 = true -> v 4 = Ql2 ro wi le ke sz (v 2) (v 3))
theorem Qkp {f : PC -> Bool} : ∀ (i : Int) (l : List PC), (∀ (k : Nat) (h : k < l.length), l[k].id = i + (k : Int) /\ f l[k] = true) -> Qec f i l = true
 | _, [], _ => rfl
 | i, x :: l, h => by
  have h0 := h 0 (by simp)
  simp only [List.getElem_cons_zero] at h0
  have ht : Qec f (i + 1) l = true := Qkp (i + 1) l (fun k hk => by
   have := h (k + 1) (by simpa using hk)
   simp only [List.getElem_cons_succ] at this
   exact ⟨by rw [this.1]; push_cast; omega, this.2⟩)
  have e0 : x.id = i := by have := h0.1; simpa using this
  simp [Qec, e0, h0.2, ht]
theorem wC_ask {ro wi le ke sz : Int} {n sA fA : Nat} {a : Option Addr} {cp : Nat} {xs : List PC} (hz : I64 sz) (hr : ro <= 4) (hn : n <= 5) (hx : xs.length <= 5) (nw : ∀ (i : Nat) (h : i < xs.length), Nw xs[i] true ro (i : Int) n) : WAsk (wC ro wi le ke sz a cp xs sA fA) := by
 have hf : ∀ x ∈ xs, PFit x /\ QAsk x := fun x hx => by
  obtain ⟨i, hi, rfl⟩ := List.getElem_of_mem hx
  have h := nw i hi
  have f := h.fit (fun _ => hr) hn
  exact ⟨f, f, by rw [h.l]; simp, Qew (fun _ => hr) h.x, Qew (fun _ => hr) h.y, by rw [h.hs]; simp⟩
 refine ⟨⟨by show xs.length <= _; omega, fun x hx => (hf x hx).1, by simp [wC], by simp [wC], by simp [wC], by simp [wC], by simp [wC], by simp [wC]⟩, fun x hx => (hf x hx).2, by simp [wC], fun x hx => ?_, by simp [wC], by simp [wC], hz⟩
 have e : x = zCo := (List.mem_replicate.1 hx).2
 subst e
 exact ⟨by simp [zCo, ByteArray.size], by simp [zCo, ByteArray.size]⟩
theorem wC_ok {ro wi le ke : Int} {n sA fA : Nat} {a : Option Addr} {cp : Nat} {xs : List PC} (hg : setB ro wi le ke = true) (hi : inB (n : Int) 1 5 = true) (hl : xs.length = n) (nw : ∀ (i : Nat) (h : i < xs.length), Nw xs[i] true ro (i : Int) n) (ok : ∀ (i : Nat) (h : i < xs.length), okQ ro wi le ke (n : Int) xs[i] = true) : Qcs (wC ro wi le ke (n : Int) a cp xs sA fA) = true := by
 have h1 : Qga (wC ro wi le ke (n : Int) a cp xs sA fA) = true := by
  have e : Qec (fun x => okQ ro wi le ke (n : Int) x) 0 xs = true := Qkp 0 xs (fun k h => ⟨by rw [(nw k h).id]; omega, ok k h⟩)
  show (Qec (fun x => okQ ro wi le ke (n : Int) x) 0 xs && decide ((xs.length : Int) = (n : Int))) = true
  rw [e, hl]; simp
 have h2 : Qf8 (wC ro wi le ke (n : Int) a cp xs sA fA) = true := by
  show (Qiz 0 (List.replicate 4 zCo) && decide (((List.replicate 4 zCo).length : Int) = 4)) = true
  simp [Qiz, saidB, Qhl, zCo, List.replicate]
 unfold Qcs
 rw [h1, h2]
 show (setB ro wi le ke && inB (n : Int) 1 5 && true && decide ((([] : List RpC).length : Int) <= 40) && _ && true && _ && _ && _ && _ && _ && _) = true
 rw [hg, hi]
 simp [wC, idxB, inB]
theorem wC_bad {ro wi le ke sz : Int} {sA fA : Nat} {a : Option Addr} {cp : Nat} {xs : List PC} (hi : (setB ro wi le ke && inB sz 1 5) = false) : Qcs (wC ro wi le ke sz a cp xs sA fA) = false := by
 unfold Qcs
 show ((setB ro wi le ke && inB sz 1 5) && _ && _ && _ && _ && _ && _ && _ && _ && _ && _) = false
 rw [hi]
 simp
theorem Qgl (ro wi le ke size : Int) (hsz : I64 size) (bb : Nat -> Bool) (hbb : ∀ (k : Nat) (q : PC), Nw q true ro (k : Int) size.toNat -> okQ ro wi le ke (size.toNat : Int) q = bb k) (w : World) (hgl : Glo w) :
 Calls Tryz.prog 6 #[.agg (Qag ro wi le ke), .int .i64 size] w fun e w' => Ql7 w w' e (setB ro wi le ke && inB size 1 5 && allB bb size.toNat) ro wi le ke size.toNat := by
 obtain ⟨gd, hgd⟩ : ∃ x, (setB ro wi le ke && inB size 1 5) = x := ⟨_, rfl⟩
 obtain ⟨n, hn⟩ : ∃ n, size.toNat = n := ⟨_, rfl⟩
 rw [hgd, hn]
 rw [hn] at hbb
 have HMC : Hid (∀ W : World, (Instr.makeSlice 27 (.int .i64 4) (.int .i64 4)).run Tryz.prog W = .ok (.slice (some ⟨W.heap.size, 0, none⟩) 4 4) (W.alloc (.cells (madeCells (Value.agg Qba).cells (4 * 8)) 95))) := Qby (P := Tryz.prog) Tryz.underlying27 infoCo (by decide) 4 (by omega)
 have HMI : Hid (∀ W : World, (Instr.makeSlice 28 (.int .i64 4) (.int .i64 4)).run Tryz.prog W = .ok (.slice (some ⟨W.heap.size, 0, none⟩) 4 4) (W.alloc (.cells (madeCells #[.int .i64 0] (4 * 1)) 3))) := Qby (P := Tryz.prog) Tryz.underlying28 Qdf (by decide) 4 (by omega)
 have CP : Hid (∀ (k : Nat) (W : World), Glo W -> Calls Tryz.prog 13 #[.agg (Qag ro wi le ke), .int .i64 (k : Int), .int .i64 size] W fun e w' => ∃ q : PC, e = .returned (.tuple #[.agg (Qam q), .bool (gd && bb k)]) /\ ((gd && bb k) = true -> Nw q true ro (k : Int) n) /\ POwn w' q (fun z => W.heap.size <= z /\ z < w'.heap.size) /\ Below W.heap.size W w') := fun k W hW => by
  have h := Qhb ro wi le ke (k : Int) size hsz (bb k) (fun q hq => by rw [hn] at hq ⊢; exact hbb k q hq) W hW
  rw [hgd, hn] at h
  exact h.mono fun e w' ⟨q, h1, h2, h3, h4⟩ => ⟨q, h1, fun e => by rw [e] at h2; exact h2, h3, h4⟩
 have FA : Hid (∀ (sA fA : Nat) (a : Option Addr) (cp : Nat) (xs : List PC), (xs.length : Int) = size ∨ (xs = [] /\ size <= 0) -> (∀ k, k < xs.length -> (gd && bb k) = true) -> (∀ (i : Nat) (h : i < xs.length), Nw xs[i] true ro (i : Int) n) -> WAsk (wC ro wi le ke size a cp xs sA fA) /\ Qcs (wC ro wi le ke size a cp xs sA fA) = (gd && allB bb n) /\ ((gd && allB bb n) = true -> size = (n : Int) /\ xs.length = n)) := by
  intro sA fA a cp xs hl hk nw
  cases gd with
  | false =>
   have hx : xs = [] := by
    cases xs with
    | nil => rfl
    | cons x l => have := hk 0 (by simp); simp at this
   subst hx
   refine ⟨⟨⟨by simp [wC], by simp [wC], by simp [wC], by simp [wC], by simp [wC], by simp [wC], by simp [wC], by simp [wC]⟩, by simp [wC], by simp [wC], fun x hx => ?_, by simp [wC], by simp [wC], hsz⟩, by rw [wC_bad hgd]; rfl, fun e => by simp at e⟩
   have e : x = zCo := (List.mem_replicate.1 hx).2
   subst e
   exact ⟨by simp [zCo, ByteArray.size], by simp [zCo, ByteArray.size]⟩
  | true =>
   obtain ⟨hB, hI⟩ : setB ro wi le ke = true /\ inB size 1 5 = true := by simpa using hgd
   have hs : 1 <= size /\ size <= 5 := by simpa [inB] using hI
   have hs2 : size = (n : Int) := by omega
   subst hs2
   have hl2 : xs.length = n := by omega
   have hy : allB bb n = true := allB_yes (fun k h => by have := hk k (by omega); simpa using this)
   refine ⟨wC_ask hsz (Qdm hB).2 (by omega) (by omega) nw, ?_, fun _ => ⟨rfl, hl2⟩⟩
   rw [wC_ok hB hI hl2 nw (fun i h => by rw [hbb i _ (nw i h)]; have := hk i h; simpa using this), hy]
   rfl
 obtain ⟨AB, hAB⟩ : ∃ x, (gd && allB bb n) = x := ⟨_, rfl⟩
 rw [hAB]
 have NO : Hid (∀ k : Nat, (k : Int) < size -> (gd && bb k) = false -> AB = false) := fun k h1 h2 => by
  rw [← hAB]
  cases gd with
  | false => rfl
  | true => exact allB_no (k := k) (by omega) (by simpa using h2)
 rw [hAB] at FA
 have G5 : Hid (gd = true -> ∀ k : Nat, (k : Int) < size -> k <= 2000000) := fun e k h => by
  rw [e] at hgd
  have hI : inB size 1 5 = true := by simp only [Bool.and_eq_true] at hgd; exact hgd.2
  have hs : 1 <= size /\ size <= 5 := by simpa [inB] using hI
  omega
 have I : Wn2 w ((w.alloc (.cells (Qag ro wi le ke) 24)).alloc (.cells Qai 31)) (Qag ro wi le ke) Qai := ⟨(Blk.new w _ _).alloc _, by have := Blk.new (w.alloc (.cells (Qag ro wi le ke) 24)) 31 Qai; rwa [World.size_alloc] at this, Qab (Qab (Below.refl _ w) _) _⟩
 have MkS : Hid (∀ W : World, Blk W w.heap.size 24 (Qag ro wi le ke) -> (fun (W : World) => W.cell? ⟨w.heap.size, 0, none⟩ = some (.int .i64 ro) /\ W.cell? ⟨w.heap.size, 1, none⟩ = some (.int .i64 wi) /\ W.cell? ⟨w.heap.size, 2, none⟩ = some (.int .i64 le) /\ W.cell? ⟨w.heap.size, 3, none⟩ = some (.int .i64 ke)) W) := hidP (fun W h => h.row4)
 have HGL := hidP hgl
 have Hsz := hidP hsz
 clear hsz hbb hAB hgd hgl hn
 go_enter Tryz.func6, Tryz.ntmps6
 go_upto_region 1 with fail
 have ZS : Hid ((Qai : Array Value).size = 11) := hidP rfl
 have Z1 : Hid ((Qai : Array Value).all (·.oneCell') = true) := hidP (by simp [Value.oneCell'])
 generalize (w.alloc (.cells (Qag ro wi le ke) 24)).alloc (.cells Qai 31) = v0 at I ⊢
 have HI := hidP I
 clear I
 go_cut [6] from 10 to 14 (fun s6 wx => ∃ (b sA fA : Nat), s6 = .pointer (some ⟨b, 0, none⟩) /\ Lw w wx ro wi le ke size n b sA fA wx.heap.size none 0 [])
 case first =>
  refine wp_region_noPanic ?_
  refine wp_region_held_drew (S := (fun (W : World) => W.cell? ⟨w.heap.size, 0, none⟩ = some (.int .i64 ro) /\ W.cell? ⟨w.heap.size, 1, none⟩ = some (.int .i64 wi) /\ W.cell? ⟨w.heap.size, 2, none⟩ = some (.int .i64 le) /\ W.cell? ⟨w.heap.size, 3, none⟩ = some (.int .i64 ke))) (by kernel_rfl) ?_ (fun hH => ?_)
  . exact MkS.out _ HI.out.b
  have I := HI.out.below (Below.refl _ _).drew
  generalize v0.drew = u0 at *
  have L0 : Lt (w.heap.size + 2) u0 PtW (fun _ => false) (fun _ => undef) := Lt.start (by have := I.r.lt; omega) _
  refine ztk [0, 1] ?_; repeat (refine ztn (h := ?_); try simp only [zX,zY])
  refine zte ?_
  refine Ql5 (n1 := 1 + 4) (l1 := lstW (fun _ => false)) (T := StWi w ro wi le ke size Qai (fun _ => false)) (fun a W hT hS => Qf5 [2, 3, 4, 5] lstW preW (StWi w ro wi le ke size Qai) ?hl ?step ?tail 4 (fun _ => false) a W (by kernel_rfl) hT hS) (by kernel_rfl) ⟨fun _ => undef, rfl, I, L0, fun e => by cases e⟩ hH
  case hl =>
   intro i hi m
   simp only [List.mem_cons, List.not_mem_nil, or_false] at hi
   rcases hi with rfl | rfl | rfl | rfl<;>rfl
  case step =>
   clear I L0 HI hH
   intro i hi m a W hp hT hS
   obtain ⟨v, rfl, I, L, hb⟩ := hT
   have F := PtW_fm
   simp only [List.mem_cons, List.not_mem_nil, or_false] at hi
   rcases hi with rfl | rfl | rfl | rfl
   . have h4 : m 4 = false := by simpa [preW] using hp
     have hmk := HMC.out W
     have g := Qab (Below.refl _ W) (.cells (madeCells (Value.agg Qba).cells (4 * 8)) 95)
     refine ⟨_, rfl, fun K hK => ?_⟩
     go_simp
     exact hK.out _ _ (MkS.out _ (I.below g).b) ⟨updv v 2 (.slice (some ⟨W.heap.size, 0, none⟩) 4 4), rfl, I.below g, L.fresh F g 2 _ (by unfold PtW; exact ⟨W.heap.size, rfl, Qd3 (Blk.new W _ _) made_cos ⟨Nat.le_refl _, (Blk.new W _ _).lt⟩, Nat.le_refl _, (Blk.new W _ _).lt⟩), fun e => by simp [updm, h4] at e⟩
   . have h4 : m 4 = false := by simpa [preW] using hp
     have hmk := HMI.out W
     have g := Qab (Below.refl _ W) (.cells (madeCells #[.int .i64 0] 4) 3)
     refine ⟨_, rfl, fun K hK => ?_⟩
     go_simp
     exact hK.out _ _ (MkS.out _ (I.below g).b) ⟨updv v 3 (.slice (some ⟨W.heap.size, 0, none⟩) 4 4), rfl, I.below g, L.fresh F g 3 _ (by unfold PtW; exact ⟨W.heap.size, rfl, Qd3 (Blk.new W _ _) (by rw [Qfk, Qea (v := .int .i64 0) rfl]) ⟨Nat.le_refl _, (Blk.new W _ _).lt⟩, Nat.le_refl _, (Blk.new W _ _).lt⟩), fun e => by simp [updm, h4] at e⟩
   . obtain ⟨h2, h3⟩ : m 2 = true /\ m 3 = true := by simpa [preW] using hp
     obtain ⟨_, col, co⟩ := L
     have p2 := co 2 h2
     have p3 := co 3 h3
     unfold PtW at p2 p3
     simp only [reduceIte, Nat.reduceEqDiff] at p2 p3
     obtain ⟨b2, e2, _⟩ := p2
     obtain ⟨b3, e3, _⟩ := p3
     have HL := hidP (show Lt (w.heap.size + 2) W PtW m v from ⟨by assumption, col, co⟩)
     clear co hb
     refine ⟨_, rfl, fun K hK => ?_⟩
     simp only [sl, h2, h3, if_true, e2, e3]
     go_simp
     refine hK.out _ _ (MkS.out _ I.b) ⟨updv v 4 (Ql2 ro wi le ke size (v 2) (v 3)), ?_, I, HL.out.plain F 4 _ (by unfold PtW; simp), fun _ => rfl⟩
     simp [sl, updm, updv, h2, h3, e2, e3, Ql2]
   . have g := Qab (Below.refl _ W) (.cells Qai 31)
     refine ⟨_, rfl, fun K hK => ?_⟩
     go_simp
     exact hK.out _ _ (MkS.out _ (I.below g).b) ⟨updv v 5 (.pointer (some ⟨W.heap.size, 0, none⟩)), rfl, I.below g, L.fresh F g 5 _ (by unfold PtW; exact ⟨W.heap.size, rfl, Blk.new W _ _, Nat.le_refl _, (Blk.new W 31 Qai).lt⟩), fun e => hb e⟩
  case tail =>
   clear I L0 HI hH
   intro m a W hm hT hS
   obtain ⟨v, rfl, I, L, hb⟩ := hT
   simp only [List.all_cons, List.all_nil, Bool.and_true, Bool.and_eq_true] at hm
   obtain ⟨h2, h3, h4, h5⟩ := hm
   obtain ⟨hw, col, co⟩ := L
   have p2 := co 2 h2
   have p3 := co 3 h3
   have p5 := co 5 h5
   unfold PtW at p2 p3 p5
   simp only [reduceIte, Nat.reduceEqDiff] at p2 p3 p5
   obtain ⟨sA, e2, o2, s2⟩ := p2
   obtain ⟨fA, e3, o3, s3⟩ := p3
   obtain ⟨b, e5, O, s5⟩ := p5
   have e4 : v 4 = .agg (Qav (wC ro wi le ke size none 0 [] sA fA)) := by
    rw [hb h4, e2, e3]
    simp [Ql2, Qav, wC]
   have hq2 := s2.1.1
   have hq3 := s3.1.1
   have hq5 := s5.1.1
   have hr2 := s2.1.2
   have hr3 := s3.1.2
   have hr5 := s5.1.2
   have n1 : b ≠ sA := fun e => by subst e; have := s2.2.symm.trans s5.2; omega
   have n2 : b ≠ fA := fun e => by subst e; have := s3.2.symm.trans s5.2; omega
   have n3 : sA ≠ fA := fun e => by subst e; have := s3.2.symm.trans s2.2; omega
   have O2 : Sub W (some ⟨sA, 0, none⟩) (List.replicate 4 zCo) (fun z => z = sA) := .inr (by
    rcases o2 with h | ⟨b', o', e, hS', r⟩
    . simp at h
    . exact ⟨b', o', e, by simp at e; exact e.1.symm, r⟩)
   have O3 : Sub W (some ⟨fA, 0, none⟩) (List.replicate 4 (0 : Int)) (fun z => z = fA) := .inr (by
    rcases o3 with h | ⟨b', o', e, hS', r⟩
    . simp at h
    . exact ⟨b', o', e, by simp at e; exact e.1.symm, r⟩)
   simp only [lstW, sl, h2, h3, h4, h5, if_true, e4, e5]
   clear hb e2 e3 e4 e5 o2 o3 h2 h3 h4 h5 co s2 s3 s5
   refine zR1 6 (fun K hK => ?_)
   simp only [zG]
   rw [if_pos (by rfl)]
   refine wp_store_row 31 _ _ rfl b (Qav (wC ro wi le ke size none 0 [] sA fA)) rfl rfl 31 Qai O (by kernel_rfl) rfl (Qc6 _) ?_
   have k := (Offp.refl (fun z => z = b) W).row (b := b) rfl (Qav (wC ro wi le ke size none 0 [] sA fA))
   have hk := k.size
   have I := I.offp (S := fun z => z = b) (fun z e => by omega) k
   refine hK.out _ _ (MkS.out _ I.b) (fun hH => ?_)
   clear hK K
   try simp only [zX,zY]
   refine zdn ?_
   go_wp2_with fail
   go_meet
   exact ⟨b, sA, fA, rfl, I, O.row _, O2.offp k (fun z e e2 => by omega), O3.offp k (fun z e e2 => by omega), ⟨⟨by omega, by omega, by omega⟩, ⟨by omega, by omega, by omega⟩, n1, n2, n3⟩, GU.start (Nat.le_refl _) (Nat.le_refl _), fun i h => by simp at h⟩
 case rest =>
  obtain ⟨b, sA, fA, rfl, L⟩ := hcut
  have HL := hidP L
  clear L HI HMC HMI MkS
  generalize hlo : wc.heap.size = lo at HL
  clear hlo
  go_upto_region 3 with fail
  go_loopw [16] (fun v7 W => ∃ (a : Option Addr) (cp : Nat) (xs : List PC), v7 = .int .i64 (xs.length : Int) /\ ((xs.length : Int) <= size ∨ xs = []) /\ (∀ k, k < xs.length -> (gd && bb k) = true) /\ Hid (Lw w W ro wi le ke size n b sA fA lo a cp xs)) (fun v7 _ => size.toNat - (intOf v7).toNat)
  case atStart => exact ⟨none, 0, [], rfl, .inr rfl, fun k h => by simp at h, HL⟩
  case round =>
   obtain ⟨a, cp, xs, rfl, hx, hbs, HK⟩ := hrel
   by_cases hlt : (xs.length : Int) < size
   . have hsz2 := Hsz.out.2
     obtain ⟨bk, hbk⟩ : ∃ x, (gd && bb xs.length) = x := ⟨_, rfl⟩
     have CQ := CP.out xs.length
     rw [hbk] at CQ
     have HQ := hidP CQ
     have Hbk := hidP hbk
     clear CQ hbk
     obtain ⟨c0, c1, c2, c3⟩ := HK.out.i2.b.row4
     have q0 := HK.out.i2.b.lt
     go_wp2_with fail
     refine (HQ.out _ (HGL.out.below HK.out.i2.bl)).mono ?_
     rintro e w1 ⟨q, rfl, hq, ho, g1⟩
     have HO := hidP (Blk.new w1 56 Qaa)
     have n1 : Below w1.heap.size w1 ((w1.alloc (.cells Qaa 56)).setRow w1.heap.size (Qam q)) := Qcf (Qab (Below.refl _ w1) _) (Nat.le_refl _) _
     have J := HO.out.row (Qam q)
     have s1 := n1.size
     have G1 : Below wr.heap.size wr ((w1.alloc (.cells Qaa 56)).setRow w1.heap.size (Qam q)) := g1.trans (n1.mono g1.size)
     have K1 := HK.out.below G1
     have HJ := hidP J
     have HK1 := hidP K1
     have HG := hidP G1
     have HW := hidP ((ho.below n1).mono (fun z hz => (⟨hz.1, by have := hz.2; omega⟩ : wr.heap.size <= z /\ z < ((w1.alloc (.cells Qaa 56)).setRow w1.heap.size (Qam q)).heap.size)))
     have Hq := hidP hq
     clear c0 c1 c2 c3 q0 g1 n1 J s1 G1 K1 ho hq
     go_upto_region 6 with (refine Qap rfl 56 _ _ rfl (g := w1.heap.size) (cells := Qam q) rfl rfl HO.out (by kernel_rfl) rfl (Qc7 _) ?_)
     clear HO
     generalize (w1.alloc (.cells Qaa 56)).setRow w1.heap.size (Qam q) = V at *
     generalize w1.heap.size = i8 at *
     cases bk with
     | false =>
      obtain rfl : AB = false := NO.out _ hlt Hbk.out
      have HR := hidP (HK1.out.i2.r.row Qai)
      have HB := hidP (Qcf HK1.out.i2.bl (show w.heap.size <= w.heap.size + 1 by omega) Qai)
      go_wp2_with (refine Qap rfl 31 _ _ rfl (g := w.heap.size + 1) (cells := Qai) rfl rfl HK1.out.i2.r (by kernel_rfl) ZS.out Z1.out ?_)
      exact bodyPost_ret (v := .tuple #[.agg Qai, .bool false]) (Qbl (fn := Tryz.f6) (p := 4) (q := 5) (by rfl) rfl rfl HR.out Tryz.underlying31 (by kernel_rfl)) rfl (Qdw HB.out)
     | true =>
      have hg5 : xs.length <= 2000000 := by
       have h1 := Hbk.out
       cases gd with
       | false => simp at h1
       | true => exact G5.out rfl _ hlt
      obtain ⟨a2, c2, W2, hr, bx, L2⟩ := HK.out.app HG.out (Hq.out rfl) HW.out hg5
      have c5 := HK1.out.bx.cell (i := 5) (v := .slice a xs.length cp) rfl
      have d5 := bx.cell (i := 5) (v := .slice a xs.length cp) rfl
      have q5 := HK1.out.bx.lt
      have e5 := bx.lt
      have f5 := bx.thaw 5
      have f6 := HK1.out.bx.thaw 5
      have HL2 := hidP L2
      clear L2
      go_upto_region 8 with fail
      have HJ2 := HJ.out
      simp only [Qam, Qb7, Qdg] at HJ2 hr
      refine wp_region_lit ?_
      iterate 6 go_step
      refine Qar rfl 56 _ rfl (b := i8) rfl HJ2 Tryz.underlying56 (by kernel_rfl) ?_
      clear HJ2
      iterate 3 go_step
      at_builtin
      refine Qa8 rfl _ _ _ rfl _ _ _ rfl rfl hr ?_
      clear hr
      go_wp2
      exact ⟨⟨a2, c2, xs ++ [q], by simp, .inl (by simp; omega), fun k hk => by
       simp at hk
       by_cases e : k < xs.length
       . exact hbs k e
       . have e2 : k = xs.length := by omega
         rw [e2]; exact Hbk.out, HL2⟩, by simp [intOf]; omega⟩
   . obtain ⟨hA, hW, hE⟩ := FA.out sA fA a cp xs (by
      rcases hx with h | h
      . exact .inl (by omega)
      . subst h
        by_cases e : size = 0
        . exact .inl (by simp; omega)
        . exact .inr ⟨rfl, by simp at hlt; omega⟩) hbs HK.out.nw
     have HC : Hid (∀ W : World, WAt W (wC ro wi le ke size a cp xs sA fA) -> Calls Tryz.prog 14 #[.agg (Qav (wC ro wi le ke size a cp xs sA fA))] W fun e w' => e = .returned (.bool AB) /\ Below W.heap.size W w') := fun W h => hW ▸ Qha _ hA W h
     have HE := hidP hE
     clear hA hW hE
     go_upto_region 10 with fail
     refine wp_region_lit ?_
     refine Qar rfl 31 _ rfl (b := b) rfl HK.out.bx Tryz.underlying31 (by kernel_rfl) ?_
     go_wp2_with fail
     refine (HC.out _ (HK.out.told (fun _ => True) (fun _ _ _ => trivial)).at).mono ?_
     rintro e w9 ⟨rfl, g9⟩
     have HK9 := hidP (HK.out.below g9)
     clear g9 HK HC
     cases AB with
     | false =>
      have HR := hidP (HK9.out.i2.r.row Qai)
      have HB := hidP (Qcf HK9.out.i2.bl (show w.heap.size <= w.heap.size + 1 by omega) Qai)
      go_wp2_with (refine Qap rfl 31 _ _ rfl (g := w.heap.size + 1) (cells := Qai) rfl rfl HK9.out.i2.r (by kernel_rfl) ZS.out Z1.out ?_)
      exact bodyPost_ret (v := .tuple #[.agg Qai, .bool false]) (Qbl (fn := Tryz.f6) (p := 4) (q := 5) (by rfl) rfl rfl HR.out Tryz.underlying31 (by kernel_rfl)) rfl (Qdw HB.out)
     | true =>
      obtain ⟨rfl, hl⟩ := HE.out rfl
      have hR := HK9.out.i2.r.row (Qav (wC ro wi le ke (n : Int) a cp xs sA fA))
      have hB := Qcf HK9.out.i2.bl (show w.heap.size <= w.heap.size + 1 by omega) (Qav (wC ro wi le ke (n : Int) a cp xs sA fA))
      have k := (Offp.refl (fun z => z = w.heap.size + 1) w9).row (b := w.heap.size + 1) rfl (Qav (wC ro wi le ke (n : Int) a cp xs sA fA))
      have hk := k.size
      have HT : Hid (WOwn (w9.setRow (w.heap.size + 1) (Qav (wC ro wi le ke (n : Int) a cp xs sA fA))) (wC ro wi le ke (n : Int) a cp xs sA fA) (fun z => w.heap.size <= z /\ z < (w9.setRow (w.heap.size + 1) (Qav (wC ro wi le ke (n : Int) a cp xs sA fA))).heap.size)) := by
       obtain ⟨col, t⟩ := HK9.out.told (fun z => w.heap.size + 1 < z /\ z < w9.heap.size) (fun z a b => ⟨a, b⟩)
       have m : ∀ (j : Nat) (z : Nat), ((w.heap.size + 1 < z /\ z < w9.heap.size) /\ col z = j) -> (w.heap.size <= z /\ z < (w9.setRow (w.heap.size + 1) (Qav (wC ro wi le ke (n : Int) a cp xs sA fA))).heap.size) /\ col z = j := fun j z h => ⟨⟨by have := h.1.1; omega, by have := h.1.2; omega⟩, h.2⟩
       have d : ∀ (j : Nat) (z : Nat), ((w.heap.size + 1 < z /\ z < w9.heap.size) /\ col z = j) -> ¬ z = w.heap.size + 1 := fun j z h e => by have := h.1.1; omega
       exact ⟨col, ⟨(t.n.offp Qcc k (d 1)).mono (m 1), (t.m.offp Qaz k (d 2)).mono (m 2), (t.s.offp k (d 3)).mono (m 3), (t.f.offp k (d 4)).mono (m 4), (t.h.offp k (d 5)).mono (m 5), (t.d.offp k (d 6)).mono (m 6)⟩⟩
      have HR := hidP hR
      have HB := hidP hB
      have HN := hidP (HK9.out.new hl)
      clear hR hB k hk
      go_upto_region 12 with fail
      refine wp_region_lit ?_
      refine Qar rfl 31 _ rfl (b := b) rfl HK9.out.bx Tryz.underlying31 (by kernel_rfl) ?_
      go_wp2_with (refine Qap rfl 31 _ _ rfl (g := w.heap.size + 1) (cells := Qav (wC ro wi le ke (n : Int) a cp xs sA fA)) rfl rfl HK9.out.i2.r (by kernel_rfl) ZS.out (Qc6 _) ?_)
      exact bodyPost_ret (v := .tuple #[.agg (Qav (wC ro wi le ke (n : Int) a cp xs sA fA)), .bool true]) (Qbl (fn := Tryz.f6) (p := 4) (q := 5) (by rfl) rfl rfl HR.out Tryz.underlying31 (by kernel_rfl)) rfl ⟨_, rfl, HN.out, HT.out, HB.out⟩
end Go.Proofs.YtenhcjkkpnlbeaaGreatDoor.Gen
namespace Go.Proofs.YtenhcjkkpnlbeaaGreatDoor.Gen
open ChangeShapes WideShapes ChangeAt RowKit Joins Deep Base
def StWs (w : World) (ro wi le ke sz : Int) (zw : Array Value) (m : Nat -> Bool) (a : Act) (W : World) : Prop := ∃ v : Nat -> Value,
  a = { tmps := #[.agg (Qag ro wi le ke), .int .i64 sz, .pointer (some ⟨w.heap.size, 0, none⟩), undef, .pointer (some ⟨w.heap.size + 1, 0, none⟩), .bool false, sl m v 5, undef, undef, undef, .agg (Qag ro wi le ke), .bool true, .bool false, .bool false, .int .i64 sz, .bool true, .bool false, .bool false, undef, .agg (Qag ro wi le ke), .int .i64 sz, sl m v 2, sl m v 3, sl m v 4, undef, undef, undef, undef, undef, undef, undef, undef, undef, undef, undef, undef, undef, undef, undef, undef, undef, undef, undef, undef, undef, undef], defers := [] } /\ Wn2 w W (Qag ro wi le ke) zw /\ Lt (w.heap.size + 2) W PtW m v /\ (m 4 = true -> v 4 = Ql2 ro wi le ke sz (v 2) (v 3))
theorem Qgk (ro wi le ke size : Int) (hsz : I64 size) (bb : Nat -> Bool) (hbb : ∀ (k : Nat) (q : PC), Nw q true ro (k : Int) size.toNat -> okQ ro wi le ke (size.toNat : Int) q = bb k) (w : World) :
 Calls Tryz.prog 4 #[.agg (Qag ro wi le ke), .int .i64 size] w fun e w' => Ql7 w w' e (setB ro wi le ke && inB size 1 5 && allB bb size.toNat) ro wi le ke size.toNat := by
 cases hb : setB ro wi le ke && inB size 1 5
 . have ZS : Hid ((Qai : Array Value).size = 11) := hidP rfl
   have Z1 : Hid ((Qai : Array Value).all (·.oneCell') = true) := hidP (by simp [Value.oneCell'])
   have CS : Hid (∀ W : World, Calls Tryz.prog 10 #[.agg (Qag ro wi le ke)] W fun e w' => e = .returned (.bool (setB ro wi le ke)) /\ Below W.heap.size W w') := fun W => Qbp ro wi le ke W
   have CI : Hid (∀ W : World, Calls Tryz.prog 11 (Qbt size 1 5) W fun e w' => e = .returned (.bool (inB size 1 5)) /\ w' = W) := fun W => in_any _ _ _ W
   have HI := hidP (show Wn2 w ((w.alloc (.cells (Qag ro wi le ke) 24)).alloc (.cells Qai 31)) (Qag ro wi le ke) Qai from ⟨(Blk.new w _ _).alloc _, by have := Blk.new (w.alloc (.cells (Qag ro wi le ke) 24)) 31 Qai; rwa [World.size_alloc] at this, Qab (Qab (Below.refl _ w) _) _⟩)
   obtain ⟨sb, hsb⟩ : ∃ b, setB ro wi le ke = b := ⟨_, rfl⟩
   obtain ⟨ib, hib⟩ : ∃ b, inB size 1 5 = b := ⟨_, rfl⟩
   rw [hsb] at CS
   rw [hib] at CI
   rw [hsb, hib] at hb
   simp only [Bool.false_and]
   clear hsb hib hsz hbb
   go_enter Tryz.func4, Tryz.ntmps4
   go_wp2_with fail
   refine (CS.out _).mono ?_
   rintro e w1 ⟨rfl, g1⟩
   replace HI := hidP (HI.out.below g1)
   clear g1 CS
   have HR := hidP (HI.out.r.row Qai)
   have HB := hidP (Qcf HI.out.bl (show w.heap.size <= w.heap.size + 1 by omega) Qai)
   cases sb with
   | false =>
    go_wp2_with (refine Qap rfl 31 _ _ rfl (g := w.heap.size + 1) (cells := Qai) rfl rfl HI.out.r (by kernel_rfl) ZS.out Z1.out ?_)
    exact bodyPost_ret (v := .tuple #[.agg Qai, .bool false]) (Qbl (fn := Tryz.f4) (p := 4) (q := 5) (by rfl) rfl rfl HR.out Tryz.underlying31 (by kernel_rfl)) rfl (Qdw HB.out)
   | true =>
    obtain rfl : ib = false := by simpa using hb
    clear hb
    go_wp2_with fail
    refine (CI.out _).mono ?_
    rintro e w2 ⟨rfl, e2⟩
    cases e2
    go_wp2_with (refine Qap rfl 31 _ _ rfl (g := w.heap.size + 1) (cells := Qai) rfl rfl HI.out.r (by kernel_rfl) ZS.out Z1.out ?_)
    exact bodyPost_ret (v := .tuple #[.agg Qai, .bool false]) (Qbl (fn := Tryz.f4) (p := 4) (q := 5) (by rfl) rfl rfl HR.out Tryz.underlying31 (by kernel_rfl)) rfl (Qdw HB.out)
 . obtain ⟨hB, hI⟩ : setB ro wi le ke = true /\ inB size 1 5 = true := by simpa using hb
   have hn : 1 <= size /\ size <= 5 := by simpa [inB] using hI
   obtain ⟨n, rfl⟩ : ∃ n : Nat, size = n := ⟨size.toNat, by omega⟩
   have hn5 : 1 <= n /\ n <= 5 := by omega
   simp only [Int.toNat_natCast] at hbb
   have HMC : Hid (∀ W : World, (Instr.makeSlice 27 (.int .i64 4) (.int .i64 4)).run Tryz.prog W = .ok (.slice (some ⟨W.heap.size, 0, none⟩) 4 4) (W.alloc (.cells (madeCells (Value.agg Qba).cells (4 * 8)) 95))) := Qby (P := Tryz.prog) Tryz.underlying27 infoCo (by decide) 4 (by omega)
   have HMI : Hid (∀ W : World, (Instr.makeSlice 28 (.int .i64 4) (.int .i64 4)).run Tryz.prog W = .ok (.slice (some ⟨W.heap.size, 0, none⟩) 4 4) (W.alloc (.cells (madeCells #[.int .i64 0] (4 * 1)) 3))) := Qby (P := Tryz.prog) Tryz.underlying28 Qdf (by decide) 4 (by omega)
   have CS : Hid (∀ W : World, Calls Tryz.prog 10 #[.agg (Qag ro wi le ke)] W fun e w' => e = .returned (.bool true) /\ Below W.heap.size W w') := fun W => hB ▸ Qbp ro wi le ke W
   have CI : Hid (∀ W : World, Calls Tryz.prog 11 (Qbt (n : Int) 1 5) W fun e w' => e = .returned (.bool true) /\ w' = W) := fun W => hI ▸ in_any _ _ _ W
   have CP : Hid (∀ (k : Nat) (W : World), Calls Tryz.prog 12 #[.agg (Qag ro wi le ke), .int .i64 (k : Int), .int .i64 (n : Int)] W fun e w' => ∃ q : PC, e = .returned (.tuple #[.agg (Qam q), .bool (bb k)]) /\ (bb k = true -> Nw q true ro (k : Int) n) /\ POwn w' q (fun z => W.heap.size <= z /\ z < w'.heap.size) /\ Below W.heap.size W w') := fun k W => by
    have h := Qgu ro wi le ke (k : Int) (n : Int) hsz (bb k) (fun q hq => hbb k q hq) W
    rw [hB, hI] at h
    simp only [Bool.true_and, Int.toNat_natCast] at h
    exact h.mono fun e w' ⟨q, h1, h2, h3, h4⟩ => ⟨q, h1, fun e => by rw [e] at h2; exact h2, h3, h4⟩
   have I : Wn2 w ((w.alloc (.cells (Qag ro wi le ke) 24)).alloc (.cells Qai 31)) (Qag ro wi le ke) Qai := ⟨(Blk.new w _ _).alloc _, by have := Blk.new (w.alloc (.cells (Qag ro wi le ke) 24)) 31 Qai; rwa [World.size_alloc] at this, Qab (Qab (Below.refl _ w) _) _⟩
   have MkS : Hid (∀ W : World, Blk W w.heap.size 24 (Qag ro wi le ke) -> (fun (W : World) => W.cell? ⟨w.heap.size, 0, none⟩ = some (.int .i64 ro) /\ W.cell? ⟨w.heap.size, 1, none⟩ = some (.int .i64 wi) /\ W.cell? ⟨w.heap.size, 2, none⟩ = some (.int .i64 le) /\ W.cell? ⟨w.heap.size, 3, none⟩ = some (.int .i64 ke)) W) := hidP (fun W h => h.row4)
   simp only [Bool.true_and, Int.toNat_natCast]
   obtain ⟨AB, hAB⟩ : ∃ x, allB bb n = x := ⟨_, rfl⟩
   rw [hAB]
   have HAB := hidP hAB
   clear hb hB hI hn hsz hbb hAB
   go_enter Tryz.func4, Tryz.ntmps4
   go_upto_region 1 with fail
   have ZS : Hid ((Qai : Array Value).size = 11) := hidP rfl
   have Z1 : Hid ((Qai : Array Value).all (·.oneCell') = true) := hidP (by simp [Value.oneCell'])
   generalize (w.alloc (.cells (Qag ro wi le ke) 24)).alloc (.cells Qai 31) = v0 at I ⊢
   obtain ⟨c0, c1, c2, c3⟩ := I.b.row4
   have q0 := I.b.lt
   go_wp2_with fail
   refine (CS.out _).mono ?_
   rintro e w1 ⟨rfl, g1⟩
   have HI := hidP (I.below g1)
   clear I g1 c0 c1 c2 c3 q0
   go_wp2_with fail
   refine (CI.out _).mono ?_
   rintro e w1' ⟨rfl, rfl⟩
   go_upto_region 3 with fail
   go_cut [6] from 19 to 23 (fun s6 wx => ∃ (b sA fA : Nat), s6 = .pointer (some ⟨b, 0, none⟩) /\ Lw w wx ro wi le ke (n : Int) n b sA fA wx.heap.size none 0 [])
   case first =>
    refine wp_region_noPanic ?_
    refine wp_region_held_drew (S := (fun (W : World) => W.cell? ⟨w.heap.size, 0, none⟩ = some (.int .i64 ro) /\ W.cell? ⟨w.heap.size, 1, none⟩ = some (.int .i64 wi) /\ W.cell? ⟨w.heap.size, 2, none⟩ = some (.int .i64 le) /\ W.cell? ⟨w.heap.size, 3, none⟩ = some (.int .i64 ke))) (by kernel_rfl) ?_ (fun hH => ?_)
    . exact MkS.out _ HI.out.b
    have I := HI.out.below (Below.refl _ _).drew
    generalize w1'.drew = u0 at *
    have L0 : Lt (w.heap.size + 2) u0 PtW (fun _ => false) (fun _ => undef) := Lt.start (by have := I.r.lt; omega) _
    refine ztk [0, 1] ?_; repeat (refine ztn (h := ?_); try simp only [zX,zY])
    refine zte ?_
    refine Ql5 (n1 := 1 + 4) (l1 := lstW (fun _ => false)) (T := StWs w ro wi le ke (n : Int) Qai (fun _ => false)) (fun a W hT hS => Qf5 [2, 3, 4, 5] lstW preW (StWs w ro wi le ke (n : Int) Qai) ?hl ?step ?tail 4 (fun _ => false) a W (by kernel_rfl) hT hS) (by kernel_rfl) ⟨fun _ => undef, rfl, I, L0, fun e => by cases e⟩ hH
    case hl =>
     intro i hi m
     simp only [List.mem_cons, List.not_mem_nil, or_false] at hi
     rcases hi with rfl | rfl | rfl | rfl<;>rfl
    case step =>
     clear I L0 HI hH
     intro i hi m a W hp hT hS
     obtain ⟨v, rfl, I, L, hb⟩ := hT
     have F := PtW_fm
     simp only [List.mem_cons, List.not_mem_nil, or_false] at hi
     rcases hi with rfl | rfl | rfl | rfl
     . have h4 : m 4 = false := by simpa [preW] using hp
       have hmk := HMC.out W
       have g := Qab (Below.refl _ W) (.cells (madeCells (Value.agg Qba).cells (4 * 8)) 95)
       refine ⟨_, rfl, fun K hK => ?_⟩
       go_simp
       exact hK.out _ _ (MkS.out _ (I.below g).b) ⟨updv v 2 (.slice (some ⟨W.heap.size, 0, none⟩) 4 4), rfl, I.below g, L.fresh F g 2 _ (by unfold PtW; exact ⟨W.heap.size, rfl, Qd3 (Blk.new W _ _) made_cos ⟨Nat.le_refl _, (Blk.new W _ _).lt⟩, Nat.le_refl _, (Blk.new W _ _).lt⟩), fun e => by simp [updm, h4] at e⟩
     . have h4 : m 4 = false := by simpa [preW] using hp
       have hmk := HMI.out W
       have g := Qab (Below.refl _ W) (.cells (madeCells #[.int .i64 0] 4) 3)
       refine ⟨_, rfl, fun K hK => ?_⟩
       go_simp
       exact hK.out _ _ (MkS.out _ (I.below g).b) ⟨updv v 3 (.slice (some ⟨W.heap.size, 0, none⟩) 4 4), rfl, I.below g, L.fresh F g 3 _ (by unfold PtW; exact ⟨W.heap.size, rfl, Qd3 (Blk.new W _ _) (by rw [Qfk, Qea (v := .int .i64 0) rfl]) ⟨Nat.le_refl _, (Blk.new W _ _).lt⟩, Nat.le_refl _, (Blk.new W _ _).lt⟩), fun e => by simp [updm, h4] at e⟩
     . obtain ⟨h2, h3⟩ : m 2 = true /\ m 3 = true := by simpa [preW] using hp
       obtain ⟨_, col, co⟩ := L
       have p2 := co 2 h2
       have p3 := co 3 h3
       unfold PtW at p2 p3
       simp only [reduceIte, Nat.reduceEqDiff] at p2 p3
       obtain ⟨b2, e2, _⟩ := p2
       obtain ⟨b3, e3, _⟩ := p3
       have HL := hidP (show Lt (w.heap.size + 2) W PtW m v from ⟨by assumption, col, co⟩)
       clear co hb
       refine ⟨_, rfl, fun K hK => ?_⟩
       simp only [sl, h2, h3, if_true, e2, e3]
       go_simp
       refine hK.out _ _ (MkS.out _ I.b) ⟨updv v 4 (Ql2 ro wi le ke (n : Int) (v 2) (v 3)), ?_, I, HL.out.plain F 4 _ (by unfold PtW; simp), fun _ => rfl⟩
       simp [sl, updm, updv, h2, h3, e2, e3, Ql2]
     . have g := Qab (Below.refl _ W) (.cells Qai 31)
       refine ⟨_, rfl, fun K hK => ?_⟩
       go_simp
       exact hK.out _ _ (MkS.out _ (I.below g).b) ⟨updv v 5 (.pointer (some ⟨W.heap.size, 0, none⟩)), rfl, I.below g, L.fresh F g 5 _ (by unfold PtW; exact ⟨W.heap.size, rfl, Blk.new W _ _, Nat.le_refl _, (Blk.new W 31 Qai).lt⟩), fun e => hb e⟩
    case tail =>
     clear I L0 HI hH
     intro m a W hm hT hS
     obtain ⟨v, rfl, I, L, hb⟩ := hT
     simp only [List.all_cons, List.all_nil, Bool.and_true, Bool.and_eq_true] at hm
     obtain ⟨h2, h3, h4, h5⟩ := hm
     obtain ⟨hw, col, co⟩ := L
     have p2 := co 2 h2
     have p3 := co 3 h3
     have p5 := co 5 h5
     unfold PtW at p2 p3 p5
     simp only [reduceIte, Nat.reduceEqDiff] at p2 p3 p5
     obtain ⟨sA, e2, o2, s2⟩ := p2
     obtain ⟨fA, e3, o3, s3⟩ := p3
     obtain ⟨b, e5, O, s5⟩ := p5
     have e4 : v 4 = .agg (Qav (wC ro wi le ke (n : Int) none 0 [] sA fA)) := by
      rw [hb h4, e2, e3]
      simp [Ql2, Qav, wC]
     have hq2 := s2.1.1
     have hq3 := s3.1.1
     have hq5 := s5.1.1
     have hr2 := s2.1.2
     have hr3 := s3.1.2
     have hr5 := s5.1.2
     have n1 : b ≠ sA := fun e => by subst e; have := s2.2.symm.trans s5.2; omega
     have n2 : b ≠ fA := fun e => by subst e; have := s3.2.symm.trans s5.2; omega
     have n3 : sA ≠ fA := fun e => by subst e; have := s3.2.symm.trans s2.2; omega
     have O2 : Sub W (some ⟨sA, 0, none⟩) (List.replicate 4 zCo) (fun z => z = sA) := .inr (by
      rcases o2 with h | ⟨b', o', e, hS', r⟩
      . simp at h
      . exact ⟨b', o', e, by simp at e; exact e.1.symm, r⟩)
     have O3 : Sub W (some ⟨fA, 0, none⟩) (List.replicate 4 (0 : Int)) (fun z => z = fA) := .inr (by
      rcases o3 with h | ⟨b', o', e, hS', r⟩
      . simp at h
      . exact ⟨b', o', e, by simp at e; exact e.1.symm, r⟩)
     simp only [lstW, sl, h2, h3, h4, h5, if_true, e4, e5]
     clear hb e2 e3 e4 e5 o2 o3 h2 h3 h4 h5 co s2 s3 s5
     refine zR1 6 (fun K hK => ?_)
     simp only [zG]
     rw [if_pos (by rfl)]
     refine wp_store_row 31 _ _ rfl b (Qav (wC ro wi le ke (n : Int) none 0 [] sA fA)) rfl rfl 31 Qai O (by kernel_rfl) rfl (Qc6 _) ?_
     have k := (Offp.refl (fun z => z = b) W).row (b := b) rfl (Qav (wC ro wi le ke (n : Int) none 0 [] sA fA))
     have hk := k.size
     have I := I.offp (S := fun z => z = b) (fun z e => by omega) k
     refine hK.out _ _ (MkS.out _ I.b) (fun hH => ?_)
     clear hK K
     try simp only [zX,zY]
     refine zdn ?_
     go_wp2_with fail
     go_meet
     exact ⟨b, sA, fA, rfl, I, O.row _, O2.offp k (fun z e e2 => by omega), O3.offp k (fun z e e2 => by omega), ⟨⟨by omega, by omega, by omega⟩, ⟨by omega, by omega, by omega⟩, n1, n2, n3⟩, GU.start (Nat.le_refl _) (Nat.le_refl _), fun i h => by simp at h⟩
   case rest =>
    obtain ⟨b, sA, fA, rfl, L⟩ := hcut
    have HL := hidP L
    clear L HI CS CI HMC HMI MkS
    generalize hlo : wc.heap.size = lo at HL
    clear hlo
    go_upto_region 5 with fail
    go_loopw [7] (fun v7 W => ∃ (a : Option Addr) (cp : Nat) (xs : List PC), v7 = .int .i64 (xs.length : Int) /\ xs.length <= n /\ (∀ k, k < xs.length -> bb k = true) /\ Hid (Lw w W ro wi le ke (n : Int) n b sA fA lo a cp xs)) (fun v7 _ => n - (intOf v7).toNat)
    case atStart => exact ⟨none, 0, [], rfl, by simp, fun k h => by simp at h, HL⟩
    case round =>
     obtain ⟨a, cp, xs, rfl, hx, hbs, HK⟩ := hrel
     by_cases hlt : xs.length < n
     . have hlt' : (xs.length : Int) < (n : Int) := by omega
       obtain ⟨bk, hbk⟩ : ∃ x, bb xs.length = x := ⟨_, rfl⟩
       have CQ := CP.out xs.length
       rw [hbk] at CQ
       have HQ := hidP CQ
       have Hbk := hidP hbk
       clear CQ hbk
       obtain ⟨c0, c1, c2, c3⟩ := HK.out.i2.b.row4
       have q0 := HK.out.i2.b.lt
       go_wp2_with fail
       refine (HQ.out _).mono ?_
       rintro e w1 ⟨q, rfl, hq, ho, g1⟩
       have HO := hidP (Blk.new w1 56 Qaa)
       have n1 : Below w1.heap.size w1 ((w1.alloc (.cells Qaa 56)).setRow w1.heap.size (Qam q)) := Qcf (Qab (Below.refl _ w1) _) (Nat.le_refl _) _
       have J := HO.out.row (Qam q)
       have s1 := n1.size
       have G1 : Below wr.heap.size wr ((w1.alloc (.cells Qaa 56)).setRow w1.heap.size (Qam q)) := g1.trans (n1.mono g1.size)
       have K1 := HK.out.below G1
       have HJ := hidP J
       have HK1 := hidP K1
       have HG := hidP G1
       have HW := hidP ((ho.below n1).mono (fun z hz => (⟨hz.1, by have := hz.2; omega⟩ : wr.heap.size <= z /\ z < ((w1.alloc (.cells Qaa 56)).setRow w1.heap.size (Qam q)).heap.size)))
       have Hq := hidP hq
       clear c0 c1 c2 c3 q0 g1 n1 J s1 G1 K1 ho hq
       go_upto_region 8 with (refine Qap rfl 56 _ _ rfl (g := w1.heap.size) (cells := Qam q) rfl rfl HO.out (by kernel_rfl) rfl (Qc7 _) ?_)
       clear HO
       generalize (w1.alloc (.cells Qaa 56)).setRow w1.heap.size (Qam q) = V at *
       generalize w1.heap.size = i8 at *
       cases bk with
       | false =>
        obtain rfl : AB = false := by rw [← HAB.out]; exact allB_no hlt Hbk.out
        have HR := hidP (HK1.out.i2.r.row Qai)
        have HB := hidP (Qcf HK1.out.i2.bl (show w.heap.size <= w.heap.size + 1 by omega) Qai)
        go_wp2_with (refine Qap rfl 31 _ _ rfl (g := w.heap.size + 1) (cells := Qai) rfl rfl HK1.out.i2.r (by kernel_rfl) ZS.out Z1.out ?_)
        exact bodyPost_ret (v := .tuple #[.agg Qai, .bool false]) (Qbl (fn := Tryz.f4) (p := 4) (q := 5) (by rfl) rfl rfl HR.out Tryz.underlying31 (by kernel_rfl)) rfl (Qdw HB.out)
       | true =>
        obtain ⟨a2, c2, W2, hr, bx, L2⟩ := HK.out.app HG.out (Hq.out rfl) HW.out (by omega)
        have c5 := HK1.out.bx.cell (i := 5) (v := .slice a xs.length cp) rfl
        have d5 := bx.cell (i := 5) (v := .slice a xs.length cp) rfl
        have q5 := HK1.out.bx.lt
        have e5 := bx.lt
        have f5 := bx.thaw 5
        have f6 := HK1.out.bx.thaw 5
        have HL2 := hidP L2
        clear L2
        go_upto_region 10 with fail
        have HJ2 := HJ.out
        simp only [Qam, Qb7, Qdg] at HJ2 hr
        refine wp_region_lit ?_
        iterate 6 go_step
        refine Qar rfl 56 _ rfl (b := i8) rfl HJ2 Tryz.underlying56 (by kernel_rfl) ?_
        clear HJ2
        iterate 3 go_step
        at_builtin
        refine Qa8 rfl _ _ _ rfl _ _ _ rfl rfl hr ?_
        clear hr
        go_wp2
        exact ⟨⟨a2, c2, xs ++ [q], by simp, by simp; omega, fun k hk => by
         simp at hk
         by_cases e : k < xs.length
         . exact hbs k e
         . have e2 : k = xs.length := by omega
           rw [e2]; exact Hbk.out, HL2⟩, by simp [intOf]; omega⟩
     . have hl : xs.length = n := by omega
       have hlt' : ¬ (xs.length : Int) < (n : Int) := by omega
       obtain rfl : AB = true := by rw [← HAB.out]; exact allB_yes (fun k hk => hbs k (by omega))
       have hR := HK.out.i2.r.row (Qav (wC ro wi le ke (n : Int) a cp xs sA fA))
       have hB := Qcf HK.out.i2.bl (show w.heap.size <= w.heap.size + 1 by omega) (Qav (wC ro wi le ke (n : Int) a cp xs sA fA))
       have k := (Offp.refl (fun z => z = w.heap.size + 1) wr).row (b := w.heap.size + 1) rfl (Qav (wC ro wi le ke (n : Int) a cp xs sA fA))
       have hk := k.size
       have HT : Hid (WOwn (wr.setRow (w.heap.size + 1) (Qav (wC ro wi le ke (n : Int) a cp xs sA fA))) (wC ro wi le ke (n : Int) a cp xs sA fA) (fun z => w.heap.size <= z /\ z < (wr.setRow (w.heap.size + 1) (Qav (wC ro wi le ke (n : Int) a cp xs sA fA))).heap.size)) := by
        obtain ⟨col, t⟩ := HK.out.told (fun z => w.heap.size + 1 < z /\ z < wr.heap.size) (fun z a b => ⟨a, b⟩)
        have m : ∀ (j : Nat) (z : Nat), ((w.heap.size + 1 < z /\ z < wr.heap.size) /\ col z = j) -> (w.heap.size <= z /\ z < (wr.setRow (w.heap.size + 1) (Qav (wC ro wi le ke (n : Int) a cp xs sA fA))).heap.size) /\ col z = j := fun j z h => ⟨⟨by have := h.1.1; omega, by have := h.1.2; omega⟩, h.2⟩
        have d : ∀ (j : Nat) (z : Nat), ((w.heap.size + 1 < z /\ z < wr.heap.size) /\ col z = j) -> ¬ z = w.heap.size + 1 := fun j z h e => by have := h.1.1; omega
        exact ⟨col, ⟨(t.n.offp Qcc k (d 1)).mono (m 1), (t.m.offp Qaz k (d 2)).mono (m 2), (t.s.offp k (d 3)).mono (m 3), (t.f.offp k (d 4)).mono (m 4), (t.h.offp k (d 5)).mono (m 5), (t.d.offp k (d 6)).mono (m 6)⟩⟩
       have HR := hidP hR
       have HB := hidP hB
       have HN := hidP (HK.out.new hl)
       clear hR hB k hk
       go_upto_region 11 with fail
       refine wp_region_lit ?_
       refine Qar rfl 31 _ rfl (b := b) rfl HK.out.bx Tryz.underlying31 (by kernel_rfl) ?_
       go_wp2_with (refine Qap rfl 31 _ _ rfl (g := w.heap.size + 1) (cells := Qav (wC ro wi le ke (n : Int) a cp xs sA fA)) rfl rfl HK.out.i2.r (by kernel_rfl) ZS.out (Qc6 _) ?_)
       exact bodyPost_ret (v := .tuple #[.agg (Qav (wC ro wi le ke (n : Int) a cp xs sA fA)), .bool true]) (Qbl (fn := Tryz.f4) (p := 4) (q := 5) (by rfl) rfl rfl HR.out Tryz.underlying31 (by kernel_rfl)) rfl ⟨_, rfl, HN.out, HT.out, HB.out⟩
end Go.Proofs.YtenhcjkkpnlbeaaGreatDoor.Gen
