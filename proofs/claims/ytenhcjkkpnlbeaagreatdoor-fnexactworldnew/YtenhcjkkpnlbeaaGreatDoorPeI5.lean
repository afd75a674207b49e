/-
  The program's PeerOk at this seat. No condition but that its lists have at most 1048576 records, and what it says of RpcOk.
-/
import Derived.Test.YtenhcjkkpnlbeaaGreatDoorPeI4
import Derived.Test.YtenhcjkkpnlbeaaGreatDoorPeN
import Derived.Test.YtenhcjkkpnlbeaaGreatDoorPeS
import Derived.Test.YtenhcjkkpnlbeaaGreatDoorGrpNew
set_option linter.unusedVariables false
set_option linter.unusedSimpArgs false
set_option maxRecDepth 100000
set_option maxHeartbeats 8000000
namespace Go.Proofs.YtenhcjkkpnlbeaaGreatDoor.Gen
open ChangeShapes WideShapes ChangeAt RowKit Joins Deep Base
theorem Qh8 (rpcF : RpP -> Bool) (ro wi le ke id te vo base bt role com su size : Int) (A vA nA pA dA hA0 : Option Addr) (cap vn vc nn nc pn pc dc hc : Nat) (l : List En) (ns ps : List Int) (db : List UInt8) (hs : List RpC) (x y : KC)
 (hl : l.length <= 1048576) (hr : ∀ z ∈ l, z.fit) (hnn : nn = ns.length) (hpn : pn = ps.length) (hvl : vn <= 1048576) (hnl : nn <= 1048576) (hpl : pn <= 1048576) (hdl : db.length <= 9223372036854775807) (hhl : hs.length <= 1048576) (hax : KAsk x) (hay : KAsk y) (w : World) (hA : At w A l) (hx : KAt w x) (hN : At w nA ns) (hP : At w pA ps) (hy : KAt w y) (hH : At w hA0 hs)
 (hR : ∀ z ∈ hs, ∀ W : World, Below w.heap.size w W -> Calls Tryz.prog 43 #[.agg (Cel.cs z).toArray, .int .i64 size] W fun e w' => e = .returned (.bool (rpcF z.p)) /\ Below W.heap.size W w') :
 Calls Tryz.prog 88 #[.agg (Qag ro wi le ke), .agg (Qac id te vo base bt A l.length cap x.rA x.rs.length x.rc x.mA x.ms.length x.mc x.gA x.gs.length x.gc x.time x.dA x.ds.length x.dc x.lA x.ls.length x.lc role vA vn vc nA nn nc pA pn pc com y.rA y.rs.length y.rc y.mA y.ms.length y.mc y.gA y.gs.length y.gc y.time y.dA y.ds.length y.dc y.lA y.ls.length y.lc dA db.length dc su hA0 hs.length hc), .int .i64 size] w fun e w' => e = .returned (.bool (peerB rpcF ro wi le ke id te vo base bt l x role vn nn pn ns ps com y su db.length hs size)) /\ Below w.heap.size w w' := by
 obtain ⟨sc, hsc⟩ : ∃ z : Array Value, z = (Qag ro wi le ke) := ⟨_, rfl⟩
 obtain ⟨pe, hpe⟩ : ∃ z : Array Value, z = (Qac id te vo base bt A l.length cap x.rA x.rs.length x.rc x.mA x.ms.length x.mc x.gA x.gs.length x.gc x.time x.dA x.ds.length x.dc x.lA x.ls.length x.lc role vA vn vc nA nn nc pA pn pc com y.rA y.rs.length y.rc y.mA y.ms.length y.mc y.gA y.gs.length y.gc y.time y.dA y.ds.length y.dc y.lA y.ls.length y.lc dA db.length dc su hA0 hs.length hc) := ⟨_, rfl⟩
 obtain ⟨nd, hnd⟩ : ∃ z : Array Value, z = (Qae te vo base bt A l.length cap x.rA x.rs.length x.rc x.mA x.ms.length x.mc x.gA x.gs.length x.gc x.time x.dA x.ds.length x.dc x.lA x.ls.length x.lc ro wi le ke size id role vA vn vc nA nn nc pA pn pc com y.rA y.rs.length y.rc y.mA y.ms.length y.mc y.gA y.gs.length y.gc y.time y.dA y.ds.length y.dc y.lA y.ls.length y.lc dA db.length dc su hA0 hs.length hc) := ⟨_, rfl⟩
 obtain ⟨bb, hbb⟩ : ∃ b, peerB rpcF ro wi le ke id te vo base bt l x role vn nn pn ns ps com y su db.length hs size = b := ⟨_, rfl⟩
 have E1 : Hid (∀ W : World, Calls Tryz.prog 138 #[.agg sc, .agg pe, .int .i64 size] W fun e w' => e = .returned (.agg nd) /\ Below W.heap.size W w') := fun W => by rw [hsc, hpe, hnd]; exact nodeOf_any ro wi le ke id te vo base bt role com su size A vA nA pA dA hA0 cap vn vc nn nc pn pc dc hc l db hs x y W
 have E2 : Hid (∀ W : World, Below w.heap.size w W -> Calls Tryz.prog 37 #[.agg nd] W fun e w' => e = .returned (.bool bb) /\ Below W.heap.size W w') := fun W g => by rw [hnd, ← hbb]; exact Qfj rpcF ro wi le ke id te vo base bt role com su size A vA nA pA dA hA0 cap vn vc nn nc pn pc dc hc l ns ps db hs x y hl hr hnn hpn hvl hnl hpl hdl hhl hax hay W (hA.below g) (hx.below g) (hN.below g) (hP.below g) (hy.below g) (hH.below g) (fun z hz V g' => hR z hz V (via0 g' g))
 have I1 : Hid ((Tryz.prog.info? 24).map (·.size) = some sc.size) := by show _ = _; rw [hsc]; kernel_rfl
 have I2 : Hid ((Tryz.prog.info? 56).map (·.size) = some pe.size) := by show _ = _; rw [hpe]; kernel_rfl
 have P1 : Hid (Blk ((w.alloc (.cells sc 24)).alloc (.cells pe 56)) w.heap.size 24 sc) := (Blk.new w _ _).alloc _
 have P2 : Hid (Blk ((w.alloc (.cells sc 24)).alloc (.cells pe 56)) (w.heap.size + 1) 56 pe) := by show Blk _ _ _ _; have := Blk.new (w.alloc (.cells sc 24)) 56 pe; rwa [World.size_alloc] at this
 have B0 := hidP (show Below w.heap.size w ((w.alloc (.cells sc 24)).alloc (.cells pe 56)) from Qab (Qab (Below.refl _ _) _) _)
 rw [hbb]
 clear hA hr hx hN hP hy hH hR hax hay hbb hnd hnn hpn
 go_enter Tryz.func88, Tryz.ntmps88
 go_upto_region 1 with fail
 simp only [← hsc, ← hpe]
 clear hsc hpe
 refine wp_region_lit ?_
 refine Qar rfl 24 _ rfl (b := w.heap.size) rfl P1.out Tryz.underlying24 I1.out ?_
 refine Qar rfl 56 _ rfl (b := w.heap.size + 1) rfl P2.out Tryz.underlying56 I2.out ?_
 go_wp2_with fail
 refine (E1.out _).mono ?_
 rintro e w1 ⟨rfl, g1⟩
 go_wp2_with fail
 refine (E2.out _ (via0 g1 B0.out)).mono ?_
 rintro e w2 ⟨rfl, g2⟩
 go_wp2
 go_ret
 exact ⟨rfl, via0 g2 (via0 g1 B0.out)⟩
end Go.Proofs.YtenhcjkkpnlbeaaGreatDoor.Gen
namespace Go.Proofs.YtenhcjkkpnlbeaaGreatDoor.Gen
open ChangeShapes WideShapes ChangeAt RowKit Joins Deep Base
def okQ (ro wi le ke size : Int) (p : PC) : Bool := peerB (fun z => rpcB size z.kind z.frm z.too z.term z.index z.iterm z.commit z.l z.snap) ro wi le ke p.id p.te p.vo p.base p.bt p.l p.x p.role p.vs.length p.ns.length p.ps.length p.ns p.ps p.com p.y p.su p.db.length p.hs size
structure QAsk (q : PC) : Prop where
  f : PFit q
  l : ∀ z ∈ q.l, z.fit
  x : KAsk q.x
  y : KAsk q.y
  h : ∀ z ∈ q.hs, (∀ y ∈ z.l, y.fit) /\ z.snap.size <= 9223372036854775807
theorem specOk_any {q : PC} (h : QAsk q) (ro wi le ke size : Int) (hs : I64 size) (W : World) (g : PAt W q) :
 Calls Tryz.prog 34 #[.agg (Qag ro wi le ke), .agg (Qam q), .int .i64 size] W fun e w' => e = .returned (.bool (okQ ro wi le ke size q)) /\ Below W.heap.size W w' := by
 have f := h.f
 exact Qex (fun z => rpcB size z.kind z.frm z.too z.term z.index z.iterm z.commit z.l z.snap) ro wi le ke q.id q.te q.vo q.base q.bt q.role q.com q.su size q.A q.vA q.nA q.pA q.dA q.hA q.cap q.vs.length q.vc q.ns.length q.nc q.ps.length q.pc q.dc q.hc q.l q.ns q.ps q.db q.hs q.x q.y
  f.ll h.l rfl rfl f.vl f.nl f.pl (by have := f.dl; omega) f.hl h.x h.y hs W g.la g.xa g.na g.pa g.ya g.ha
  (fun z hz V gv => Qiv size z.kind z.frm z.too z.term z.index z.iterm z.commit z.ok z.snap (h.h z hz).2 z.A z.cap z.l (by have := f.hi z hz; omega) (h.h z hz).1 V ((g.he z hz).below gv))
theorem implOk_any {q : PC} (h : QAsk q) (ro wi le ke size : Int) (W : World) (g : PAt W q) :
 Calls Tryz.prog 88 #[.agg (Qag ro wi le ke), .agg (Qam q), .int .i64 size] W fun e w' => e = .returned (.bool (okQ ro wi le ke size q)) /\ Below W.heap.size W w' := by
 have f := h.f
 exact Qh8 (fun z => rpcB size z.kind z.frm z.too z.term z.index z.iterm z.commit z.l z.snap) ro wi le ke q.id q.te q.vo q.base q.bt q.role q.com q.su size q.A q.vA q.nA q.pA q.dA q.hA q.cap q.vs.length q.vc q.ns.length q.nc q.ps.length q.pc q.dc q.hc q.l q.ns q.ps q.db q.hs q.x q.y
  f.ll h.l rfl rfl f.vl f.nl f.pl (by have := f.dl; omega) f.hl h.x h.y W g.la g.xa g.na g.pa g.ya g.ha
  (fun z hz V gv => Qfl size z.kind z.frm z.too z.term z.index z.iterm z.commit z.ok z.snap (h.h z hz).2 z.A z.cap z.l (by have := f.hi z hz; omega) (h.h z hz).1 V ((g.he z hz).below gv))
end Go.Proofs.YtenhcjkkpnlbeaaGreatDoor.Gen
namespace Go.Proofs.YtenhcjkkpnlbeaaGreatDoor.Gen
open ChangeShapes WideShapes ChangeAt RowKit Joins Deep Base
theorem mul64_any (n : Nat) (hn : 1 <= n /\ n <= 5) (w : World) :
 Calls Tryz.prog 160 #[.int .u64 1, .int .u64 (n : Int)] w fun e w' => e = .returned (.tuple #[.int .u64 0, .int .u64 (n : Int)]) /\ w' = w := by
 obtain rfl | rfl | rfl | rfl | rfl : n = 1 ∨ n = 2 ∨ n = 3 ∨ n = 4 ∨ n = 5 := by omega
 all_goals
  go_enter Tryz.func160, Tryz.ntmps160
  go_wp2
  exact bodyPost_ret (by simp [results, Tryz.results160, go_sem]; rfl) rfl ⟨rfl, rfl⟩
theorem mul_any (n : Nat) (hn : 1 <= n /\ n <= 5) (w : World) :
 Calls Tryz.prog 116 #[.int .u64 1, .int .u64 (n : Int)] w fun e w' => e = .returned (.tuple #[.int .u64 0, .int .u64 (n : Int)]) /\ w' = w := by
 have H := hidP (mul64_any n hn w)
 clear hn
 go_enter Tryz.func116, Tryz.ntmps116
 go_wp2_with fail
 refine H.out.mono ?_
 rintro e w1 ⟨rfl, rfl⟩
 go_wp2
 exact bodyPost_ret (v := .tuple #[.int .u64 0, .int .u64 (n : Int)]) (by simp [results, Tryz.results116, go_sem]) rfl ⟨rfl, rfl⟩
theorem wp_copy_is {P : Program} {w w' : World} {o : Oper} {a : Act} {K : Act -> World -> Prop} {Q : Go.Exit -> Act -> World -> Prop} (s x : Operand) (t : TypeId)
 (ho : o.op = .call { callee := .builtin .copy, args := #[s, x], argTypes := #[t, t] }) (v xv r : Value) (hs : a.eval s = v) (hx : a.eval x = xv)
 (hr : (Builtin.copy_ #[t, t] o.type #[v, xv]).run P w = .ok r w') (h : K (a.put o.dst r) w') : Oper.wp P o a w K Q := by
 unfold Oper.wp execOp
 simp only [ho, resolve, invoke, builtin, Sem.run_bind, Sem.run_pure, Result.andThen_ok, List.map_toArray, List.map_cons, List.map_nil, hs, hx, hr]
 exact h
def Qdv (k n : Nat) : Array Value := (List.replicate k (Value.int .i64 1) ++ List.replicate (n - k) (Value.int .i64 0)).toArray
theorem Qko {W : World} {g n k m o : Nat} {a : Addr} {sc : Nat} {sl dl dc : Nat} (p : Blk W g 3 (Qdv k n)) (hk : k <= n) (ho : o <= n) (hm : m = Nat.min sl dl) (hok : o <= k /\ k <= o + m) (hf : o + m <= n) (hs : ∀ j, j < m -> W.cell? (a.add j) = some (.int .i64 1)) :
 (Builtin.copy_ #[28, 28] 3 #[.slice (some ⟨g, o, none⟩) dl dc, .slice (some a) sl sc]).run Tryz.prog W = .ok (.int .i64 (m : Int)) (W.setRow g (Qdv (o + m) n)) := by
 have h := run_copy_row (P := Tryz.prog) W 28 28 3 3 g o dl dc a sl sc (Qdv k n) 3 (List.replicate m (.int .i64 1)) Tryz.underlying28 (by kernel_rfl) p (by simp [hm]) (fun j v hv => by
  rw [List.getElem?_replicate] at hv
  by_cases hj : j < m
  . rw [if_pos hj] at hv; rw [hs j hj, hv]
  . rw [if_neg hj] at hv; cases hv) (by simp [Qdv]; omega) (fun v hv => by rw [(List.mem_replicate.1 hv).2]; rfl)
 rw [h]
 have e : (Qdv k n).toList.take o ++ List.replicate m (Value.int .i64 1) ++ (Qdv k n).toList.drop (o + (List.replicate m (Value.int .i64 1)).length) = (Qdv (o + m) n).toList := by
  have e1 : (List.replicate m (Value.int .i64 1)).length = m := by simp
  rw [e1]
  unfold Qdv
  simp only [List.toList_toArray]
  rw [List.take_append_of_le_length (by simp; omega), List.take_replicate, Nat.min_eq_left hok.1, List.drop_append, List.drop_eq_nil_of_le (by simp; omega), List.length_replicate, List.drop_replicate, List.nil_append, List.replicate_append_replicate]
  rw [show n - k - (o + m - k) = n - (o + m) by omega]
 rw [e]
 simp [goInt]
theorem repeat_any (n : Nat) (hn : 1 <= n /\ n <= 5) (A : Option Addr) (w : World) (hA : At w A [(1 : Int)]) :
 Calls Tryz.prog 78 #[.slice A 1 1, .int .i64 (n : Int)] w fun e w' => e = .returned (.slice (some ⟨w.heap.size, 0, none⟩) n n) /\ Below w.heap.size w w' /\ Blk w' w.heap.size 3 (Qdv n n) := by
 have HM := hidP (mul_any n hn)
 obtain ⟨b, o, rfl, hb, hi⟩ : ∃ b o, A = some ⟨b, o, none⟩ /\ b < w.heap.size /\ In w b o [(1 : Int)] := by
  rcases hA with h | h
  . simp at h
  . exact h
 have hc : w.cell? ⟨b, o, none⟩ = some (.int .i64 1) := by simpa using hi.cell (f := 0) 0 (by simp) rfl
 have hmk := Qby (P := Tryz.prog) Tryz.underlying28 Qdf (by decide) n (by omega) w
 have HB := hidP (Qab (Below.refl w.heap.size w) (.cells (madeCells #[Value.int .i64 0] n) 3))
 have e0 : madeCells #[Value.int .i64 0] n = Qdv 0 n := by
  apply Array.ext
  . simp [madeCells, Qdv]
  . intro i h1 h2
    simp [madeCells, Qdv, Nat.mod_one]
 have hP0 := Blk.new w 3 (Qdv 0 n)
 have hC := Qko (g := w.heap.size) (n := n) (k := 0) (m := 1) (o := 0) (a := ⟨b, o, none⟩) (sc := 1) (sl := 1) (dl := n) (dc := n) hP0 (by omega) (by omega) (Nat.min_eq_left hn.1).symm (by omega) (by omega) (fun j hj => by
  obtain rfl : j = 0 := by omega
  show World.cell? _ ⟨b, o + 0, none⟩ = _
  rw [Nat.add_zero, World.cell?_alloc_lt _ _ ⟨b, o, none⟩ hb]
  exact hc)
 rw [← e0] at hC hP0
 have HP1 := hidP (hP0.row (Qdv 1 n))
 have HB1 := hidP (Qcf HB.out (Nat.le_refl _) (Qdv 1 n))
 clear hi hc hA HB hP0 e0
 go_enter Tryz.func78, Tryz.ntmps78
 have hn1 : (1 : Int) <= (n : Int) := by omega
 have hn5 : (n : Int) <= 5 := by omega
 have hu : IntKind.u64.wrap (n : Int) = (n : Int) := by simp [IntKind.wrap, IntKind.bits, IntKind.signed]; omega
 go_wp2_with fail
 refine (HM.out _).mono ?_
 rintro e w1 ⟨rfl, rfl⟩
 go_wp2_with (at_builtin; refine Qhm rfl _ _ _ rfl _ _ _ rfl rfl hC ?_)
 clear hC hmk hu hb
 go_loopw [8] (fun v8 W => ∃ k : Nat, v8 = .int .i64 (k : Int) /\ 1 <= k /\ k <= n /\ Hid (Blk W w1.heap.size 3 (Qdv k n)) /\ Hid (Below w1.heap.size w1 W)) (fun v8 _ => 5 - (intOf v8).toNat)
 case atStart => exact ⟨1, rfl, by decide, hn.1, HP1, HB1⟩
 case round =>
  obtain ⟨k, rfl, hk1, hk2, HP, HB⟩ := hrel
  by_cases hkn : k < n
  . have hkn' : (k : Int) < (n : Int) := by omega
    obtain ⟨m, hm⟩ : ∃ m : Nat, m = Nat.min k (n - k) := ⟨_, rfl⟩
    have hm1 : 1 <= m /\ m <= 5 /\ k + m <= n := by have := Nat.min_le_left k (n - k); have := Nat.min_le_right k (n - k); rcases Nat.le_total k (n - k) with h | h<;>simp [Nat.min_eq_left, Nat.min_eq_right, h] at hm<;>omega
    have hw : IntKind.i64.wrap ((k : Int) + (m : Int)) = ((k + m : Nat) : Int) := by simp [IntKind.wrap, IntKind.bits, IntKind.signed]; omega
    have Hm := hidP hm
    clear hm
    go_upto_region 9 with fail
    refine wp_region_noPanic ?_
    refine wp_region_held_drew (S := fun _ => True) (by kernel_rfl) trivial (fun hH => ?_)
    have p : Blk wr.drew w1.heap.size 3 (Qdv k n) := HP.out.below ((Below.refl _ _).drew) (HP.out.lt)
    have b1 : Below w1.heap.size w1 wr.drew := HB.out.drew
    generalize wr.drew = u0 at *
    refine ztk [0, 1, 2, 3, 4, 5, 6] ?_; repeat (refine ztn (h := ?_); try simp only [zX,zY])
    refine zte ?_
    refine zR1 7 (fun K hK => ?_)
    simp only [zG]
    simp only [if_neg (show ¬ n = k by omega)]
    rw [if_pos (by rfl)]
    refine wp_copy_is _ _ _ (by rfl) _ _ _ (by rfl) (by rfl) (Qko (n := n) (k := k) (o := k) (m := m) p hk2 hk2 Hm.out (by omega) (by omega) (fun j hj => ?_)) ?_
    . rw [show (⟨w1.heap.size, 0, none⟩ : Addr).add j = ⟨w1.heap.size, j, none⟩ by unfold Addr.add; split<;>simp_all]
      refine p.cell ?_
      have hm := Hm.out
      have hjk : j < k := Nat.lt_of_lt_of_le hj (by rw [hm]; exact Nat.min_le_left _ _)
      simp only [Qdv, List.getElem?_toArray]
      rw [List.getElem?_append_left (by simpa using hjk)]
      simp [hjk]
    have p2 := p.row (Qdv (k + m) n)
    have b2 := Qcf b1 (Nat.le_refl _) (Qdv (k + m) n)
    refine hK.out _ _ trivial (fun hH => ?_)
    clear hK K
    try simp only [zX,zY]
    refine ztk [8, 9] ?_; repeat (refine ztn (h := ?_); try simp only [zX,zY])
    refine zte ?_
    refine zdn ?_
    clear p b1 HP HB hH
    have HP := hidP p2
    have HB := hidP b2
    clear p2 b2 Hm
    go_wp2
    refine ⟨⟨k + m, by first | (rw [hw]; done) | (simp; done), by omega, by omega, HP, HB⟩, by simp [intOf]; omega⟩
  . obtain rfl : k = n := by omega
    go_wp2
    go_ret
    exact ⟨rfl, HB.out, HP.out⟩
end Go.Proofs.YtenhcjkkpnlbeaaGreatDoor.Gen
