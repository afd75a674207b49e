/-
  spec.RowOk at this seat, walked: it answers rowB. No condition but the length that every text has.
-/
import Derived.Test.YtajbldnhjpjghaaGreatInts
set_option linter.unusedVariables false
set_option linter.unusedSimpArgs false
set_option maxRecDepth 100000
set_option maxHeartbeats 8000000
set_option maxRecDepth 100000
set_option maxHeartbeats 8000000
namespace Go.Proofs.YtajbldnhjpjghaaGreat.Items
open ChangeShapes WideShapes ChangeAt RowKit Base
def rowN (start next nb:Int) (l:List It):Bool:=Qa7 start nb l 0&&inB start 0 next&&decide (next<=100000)&&decide (l.length<=80)
theorem Qrt (start next:Int) (l:List It) (h0: -9223372036854775808<=next) (h1:next<=9223372036854775807):rowN start next (IntKind.i64.wrap (next - 1)) l=rowB start next l:=by
 by_cases h:next= -9223372036854775808
 . have e:inB start 0 next=false:=by simp only[inB,decide_eq_false_iff_not];omega
   simp[rowN,rowB,e]
 . have e:IntKind.i64.wrap (next - 1)=next - 1:=by rw[IntKind.wrap_i64];omega
   rw[e];rfl
theorem Qi0 (start next:Int) (A:Option Addr) (cap:Nat) (l:List It) (hl:l.length<=9223372036854775807) (hs:∀x∈l,x.key.size<=9223372036854775807/\x.text.size<=9223372036854775807)
 (nb:Int) (hnb:Hid (IntKind.i64.wrap (next - 1)=nb)) (w:World) (hA:l= []∨∃b o,A=some ⟨b,o,none⟩/\b<w.heap.size/\In w b o l):
 Calls Tryz.prog 130 #[.agg (Qa5 start next A l.length cap)] w fun e w' =>e= .returned (.bool (rowN start next nb l))/\Below w.heap.size w w' :=by
 have HA:Hid (l= []∨∃b o,A=some ⟨b,o,none⟩/\b<w.heap.size/\In w b o l):=hA;clear hA;go_enter Tryz.func130,Tryz.ntmps130;go_wp2
 go_loopw [3] (fun i w' =>∃(n:Nat),i= .int .i64 (n:Int)/\n<=l.length/\Below w.heap.size w w' /\w.heap.size<w'.heap.size/\w'.cell? ⟨w.heap.size,0,none⟩=some (.int .i64 start)/\w'.cell? ⟨w.heap.size,1,none⟩=some (.int .i64 next)/\w'.cell? ⟨w.heap.size,2,none⟩=some (.slice A l.length cap)/\
  Hid (Qa7 start nb l n=Qa7 start nb l 0)) (fun i _=>l.length - (intOf i).toNat)
 case atStart=>exact⟨0,rfl,by omega,by repeat(first|exact Below.refl _ _|refine via0 (by assumption) ?_|refine Below.drew ?_|refine Qad ?_ _),by simp,by simp,by simp,by simp,rfl⟩
 case round=>
  obtain⟨n,rfl,hn,hbl,hsz,b0,b1,b2,hch⟩:=hrel;by_cases hlt:n<l.length
  . obtain⟨b,o,rfl,hbs,hin⟩:∃b o,A=some ⟨b,o,none⟩/\b<w.heap.size/\In w b o l:=by
     rcases HA.out with h|h
     . subst h;simp at hlt
     . exact h
    have hb1:b<wr.heap.size:=Nat.lt_of_lt_of_le hbs hbl.size;have hIn:=hin.below hbs hbl;have hi0:(0:Int)<=(n:Int):=(by omega);have hi1:(n:Int)<(l.length:Int):=(by omega);have hst:=Qhq (start:=start) (nb:=nb) hlt;obtain⟨c0,c1,c2,c3,c4⟩:=hIn.get n hlt;obtain⟨hk,ht⟩:=hs l[n] (List.getElem_mem hlt);cases hp:itemB l[n]
    . have h1:Hid (partB l[n].key l[n].text l[n].who l[n].time=false):=hp;have hF:Hid (Qa7 start nb l 0=false):=(by show Qa7 start nb l 0=false;rw[← hch.out,hst,hp];rfl);clear hst hp;go_wp2;refine wp_region_noPanic ?_;refine wp_region_held_drew (S:=(fun w' =>w'.cell? ⟨w.heap.size,0,none⟩=some (.int .i64 start)/\w'.cell? ⟨w.heap.size,1,none⟩=some (.int .i64 next)/\w'.cell? ⟨w.heap.size,2,none⟩=some (.slice (some ⟨b,o,none⟩) l.length cap)/\w'.cell? ⟨b,o+n*5,none⟩=some (.int .i64 l[n].off)/\w'.cell? ⟨b,o+n*5+1,none⟩=some (.string l[n].key)/\w'.cell? ⟨b,o+n*5+2,none⟩=some (.string l[n].text)/\w'.cell? ⟨b,o+n*5+3,none⟩=some (.int .i64 l[n].who)/\w'.cell? ⟨b,o+n*5+4,none⟩=some (.int .i64 l[n].time)/\w.heap.size<w'.heap.size/\b<w'.heap.size)) (by kernel_rfl) ?_ (fun hH=> ?_)
      . (refine⟨?_,?_,?_,?_,?_,?_,?_,?_,?_,?_⟩<;>first|assumption|(simp;done))
      refine ztk [0,1,2,3,4] ?_;repeat(refine ztn (h:= ?_);try simp only[zX,zY])
      refine zte ?_;refine zR1 5 (fun K hK=> ?_);simp only[zG];go_simp
      (go_at_call 133;refine(Qdq false _ _ _ _ _ hk ht h1 _).mono ?_;rintro e w1 ⟨rfl,g1⟩;obtain⟨k1,m1⟩:=Qeh g1;have s1:=g1.size)
      refine hK.out _ _ ?_ (fun hH=> ?_)
      . first|(go_split_ands;refine⟨?_,?_,?_,?_,?_,?_,?_,?_,?_,?_⟩<;>assumption)|(go_split_ands;refine⟨?_,?_,?_,?_,?_,?_,?_,?_,?_,?_⟩<;>first|assumption|exact(k1 _ _ (by assumption)).trans (by assumption)|exact Nat.lt_of_lt_of_le (by assumption) s1)
      clear hK K
      try simp only[zX,zY]
      refine ztk [6,7,8,9,10,11,12,13,14,15,16,17,18,19,20,21,22,23,24,25,26,27,28,29,30,31,32,33,34,35,36,37,38,39,40,41] ?_;repeat((first|refine ztn (h:= ?_)|refine ztu (h:= ?_));try simp only[zX,zY])
      refine zte ?_;refine zdn ?_;go_wp2;go_ret;exact⟨by rw[show rowN start next nb l=false from by unfold rowN;rw[hF.out];rfl];rfl,via0 g1 hbl.drew⟩
    . have h1:Hid (partB l[n].key l[n].text l[n].who l[n].time=true):=hp;cases h2' :inB l[n].off start nb
      . have h2:Hid (inB l[n].off start nb=false):=h2';have hF:Hid (Qa7 start nb l 0=false):=(by show Qa7 start nb l 0=false;rw[← hch.out,hst,hp,h2'];rfl);clear hst hp h2';go_wp2;refine wp_region_noPanic ?_;refine wp_region_held_drew (S:=(fun w' =>w'.cell? ⟨w.heap.size,0,none⟩=some (.int .i64 start)/\w'.cell? ⟨w.heap.size,1,none⟩=some (.int .i64 next)/\w'.cell? ⟨w.heap.size,2,none⟩=some (.slice (some ⟨b,o,none⟩) l.length cap)/\w'.cell? ⟨b,o+n*5,none⟩=some (.int .i64 l[n].off)/\w'.cell? ⟨b,o+n*5+1,none⟩=some (.string l[n].key)/\w'.cell? ⟨b,o+n*5+2,none⟩=some (.string l[n].text)/\w'.cell? ⟨b,o+n*5+3,none⟩=some (.int .i64 l[n].who)/\w'.cell? ⟨b,o+n*5+4,none⟩=some (.int .i64 l[n].time)/\w.heap.size<w'.heap.size/\b<w'.heap.size)) (by kernel_rfl) ?_ (fun hH=> ?_)
        . (refine⟨?_,?_,?_,?_,?_,?_,?_,?_,?_,?_⟩<;>first|assumption|(simp;done))
        refine ztk [0,1,2,3,4] ?_;repeat(refine ztn (h:= ?_);try simp only[zX,zY])
        refine zte ?_;refine zR1 5 (fun K hK=> ?_);simp only[zG];go_simp
        (go_at_call 133;refine(Qdq true _ _ _ _ _ hk ht h1 _).mono ?_;rintro e w1 ⟨rfl,g1⟩;obtain⟨k1,m1⟩:=Qeh g1;have s1:=g1.size)
        refine hK.out _ _ ?_ (fun hH=> ?_)
        . first|(go_split_ands;refine⟨?_,?_,?_,?_,?_,?_,?_,?_,?_,?_⟩<;>assumption)|(go_split_ands;refine⟨?_,?_,?_,?_,?_,?_,?_,?_,?_,?_⟩<;>first|assumption|exact(k1 _ _ (by assumption)).trans (by assumption)|exact Nat.lt_of_lt_of_le (by assumption) s1)
        clear hK K
        try simp only[zX,zY]
        refine ztk [6,7,8,9,10,11,12,13,14,15,16,17] ?_;repeat(refine ztn (h:= ?_);try simp only[zX,zY])
        refine zte ?_;refine' wpAnyH_take (i:=18) (v:=_) rfl (by kernel_rfl) (by kernel_rfl) (by kernel_rfl) (fun _ _ _ h=>h) (Or.inl ⟨by rfl,?hy28⟩) (by assumption) ?rest28
        case hy28=>(intro w hSw;(try dsimp only at hSw);go_simp<;>(rw[hnb.out]<;>with_reducible rfl))
        try simp only[zX,zY]
        refine zR1 19 (fun K hK=> ?_);simp only[zG];go_simp
        (go_at_call 35;refine(Qqo false _ _ _ h2 _).mono ?_;rintro e w' ⟨rfl,rfl⟩)
        refine hK.out _ _ ?_ (fun hH=> ?_)
        . first|(go_split_ands;refine⟨?_,?_,?_,?_,?_,?_,?_,?_,?_,?_⟩<;>assumption)|(go_split_ands;refine⟨?_,?_,?_,?_,?_,?_,?_,?_,?_,?_⟩<;>first|assumption|exact(k1 _ _ (by assumption)).trans (by assumption)|exact Nat.lt_of_lt_of_le (by assumption) s1)
        clear hK K
        try simp only[zX,zY]
        refine ztk [20,21,22,23,24,25,26,27,28,29,30,31,32,33,34,35,36,37,38,39,40,41] ?_;repeat((first|refine ztn (h:= ?_)|refine ztu (h:= ?_));try simp only[zX,zY])
        refine zte ?_;refine zdn ?_;go_wp2;go_ret;exact⟨by rw[show rowN start next nb l=false from by unfold rowN;rw[hF.out];rfl];rfl,via0 g1 hbl.drew⟩
      . have h2:Hid (inB l[n].off start nb=true):=h2';by_cases hz:n=0
        . have ho:ordB l n l[n].off=true:=(by subst hz;exact Qn1 l _);have hd:Hid (decide (0<n)=false):=decide_eq_false (by omega);have hF:Hid (Qa7 start nb l (n+1)=Qa7 start nb l 0):=(by show Qa7 start nb l (n+1)=Qa7 start nb l 0;rw[← hch.out,hst,hp,h2',ho];rfl);clear hst hp h2' ho hz;go_wp2;refine wp_region_noPanic ?_;refine wp_region_held_drew (S:=(fun w' =>w'.cell? ⟨w.heap.size,0,none⟩=some (.int .i64 start)/\w'.cell? ⟨w.heap.size,1,none⟩=some (.int .i64 next)/\w'.cell? ⟨w.heap.size,2,none⟩=some (.slice (some ⟨b,o,none⟩) l.length cap)/\w'.cell? ⟨b,o+n*5,none⟩=some (.int .i64 l[n].off)/\w'.cell? ⟨b,o+n*5+1,none⟩=some (.string l[n].key)/\w'.cell? ⟨b,o+n*5+2,none⟩=some (.string l[n].text)/\w'.cell? ⟨b,o+n*5+3,none⟩=some (.int .i64 l[n].who)/\w'.cell? ⟨b,o+n*5+4,none⟩=some (.int .i64 l[n].time)/\w.heap.size<w'.heap.size/\b<w'.heap.size)) (by kernel_rfl) ?_ (fun hH=> ?_)
          . (refine⟨?_,?_,?_,?_,?_,?_,?_,?_,?_,?_⟩<;>first|assumption|(simp;done))
          refine ztk [0,1,2,3,4] ?_;repeat(refine ztn (h:= ?_);try simp only[zX,zY])
          refine zte ?_;refine zR1 5 (fun K hK=> ?_);simp only[zG];go_simp
          (go_at_call 133;refine(Qdq true _ _ _ _ _ hk ht h1 _).mono ?_;rintro e w1 ⟨rfl,g1⟩;obtain⟨k1,m1⟩:=Qeh g1;have s1:=g1.size)
          refine hK.out _ _ ?_ (fun hH=> ?_)
          . first|(go_split_ands;refine⟨?_,?_,?_,?_,?_,?_,?_,?_,?_,?_⟩<;>assumption)|(go_split_ands;refine⟨?_,?_,?_,?_,?_,?_,?_,?_,?_,?_⟩<;>first|assumption|exact(k1 _ _ (by assumption)).trans (by assumption)|exact Nat.lt_of_lt_of_le (by assumption) s1)
          clear hK K
          try simp only[zX,zY]
          refine ztk [6,7,8,9,10,11,12,13,14,15,16,17] ?_;repeat(refine ztn (h:= ?_);try simp only[zX,zY])
          refine zte ?_;refine' wpAnyH_take (i:=18) (v:=_) rfl (by kernel_rfl) (by kernel_rfl) (by kernel_rfl) (fun _ _ _ h=>h) (Or.inl ⟨by rfl,?hy50⟩) (by assumption) ?rest50
          case hy50=>(intro w hSw;(try dsimp only at hSw);go_simp<;>(rw[hnb.out]<;>with_reducible rfl))
          try simp only[zX,zY]
          refine zR1 19 (fun K hK=> ?_);simp only[zG];go_simp
          (go_at_call 35;refine(Qqo true _ _ _ h2 _).mono ?_;rintro e w' ⟨rfl,rfl⟩)
          refine hK.out _ _ ?_ (fun hH=> ?_)
          . first|(go_split_ands;refine⟨?_,?_,?_,?_,?_,?_,?_,?_,?_,?_⟩<;>assumption)|(go_split_ands;refine⟨?_,?_,?_,?_,?_,?_,?_,?_,?_,?_⟩<;>first|assumption|exact(k1 _ _ (by assumption)).trans (by assumption)|exact Nat.lt_of_lt_of_le (by assumption) s1)
          clear hK K
          try simp only[zX,zY]
          refine ztk [20,21,22,23] ?_;repeat(refine ztn (h:= ?_);try simp only[zX,zY])
          refine zte ?_;refine' wpAnyH_take (i:=24) (v:=_) rfl (by kernel_rfl) (by kernel_rfl) (by kernel_rfl) (fun _ _ _ h=>h) (Or.inl ⟨by rfl,?hy55⟩) (by assumption) ?rest55
          case hy55=>(intro w hSw;(try dsimp only at hSw);go_simp<;>(rw[hd.out]<;>with_reducible rfl))
          try simp only[zX,zY]
          refine ztk [25,26,27,28,29,30,31,32,33,34,35,36,37,38,39,40,41] ?_;repeat((first|refine ztn (h:= ?_)|refine ztu (h:= ?_));try simp only[zX,zY])
          refine zte ?_;refine zdn ?_
          go_split_ands
          go_wp2;exact⟨⟨n+1,by go_num,by omega,via0 g1 hbl.drew,by assumption,by assumption,by assumption,by assumption,hF⟩,by simp[intOf];omega⟩
        . obtain⟨p,hpn⟩:∃p,n=p+1:=⟨n - 1,by omega⟩
          have hpl:p<l.length:=(by omega);obtain⟨p0,_⟩:=hIn.get p hpl;have ho:ordB l n l[n].off=decide (l[p].off<l[n].off):=(by rw[← Qn2 hpl,← hpn]);have hd:Hid (decide (0<n)=true):=decide_eq_true (by omega);have j0:(0:Int)<=(p:Int):=(by omega);have j1:(p:Int)<(l.length:Int):=(by omega);have jw:Hid (IntKind.i64.wrap ((n:Int) - 1)=(p:Int)):=by
           show IntKind.i64.wrap ((n:Int) - 1)=(p:Int)
           rw[IntKind.wrap_i64];omega
          clear hpn hz;by_cases h4:l[p].off<l[n].off
          . rw[decide_eq_true h4]at ho;have hF:Hid (Qa7 start nb l (n+1)=Qa7 start nb l 0):=(by show Qa7 start nb l (n+1)=Qa7 start nb l 0;rw[← hch.out,hst,hp,h2',ho];rfl);have h5:¬l[p].off>=l[n].off:=(by omega);clear hst hp h2' ho h4;go_wp2;refine wp_region_noPanic ?_;refine wp_region_held_drew (S:=(fun w' =>w'.cell? ⟨w.heap.size,0,none⟩=some (.int .i64 start)/\w'.cell? ⟨w.heap.size,1,none⟩=some (.int .i64 next)/\w'.cell? ⟨w.heap.size,2,none⟩=some (.slice (some ⟨b,o,none⟩) l.length cap)/\w'.cell? ⟨b,o+n*5,none⟩=some (.int .i64 l[n].off)/\w'.cell? ⟨b,o+n*5+1,none⟩=some (.string l[n].key)/\w'.cell? ⟨b,o+n*5+2,none⟩=some (.string l[n].text)/\w'.cell? ⟨b,o+n*5+3,none⟩=some (.int .i64 l[n].who)/\w'.cell? ⟨b,o+n*5+4,none⟩=some (.int .i64 l[n].time)/\w'.cell? ⟨b,o+p*5,none⟩=some (.int .i64 l[p].off)/\w.heap.size<w'.heap.size/\b<w'.heap.size)) (by kernel_rfl) ?_ (fun hH=> ?_)
            . (refine⟨?_,?_,?_,?_,?_,?_,?_,?_,?_,?_,?_⟩<;>first|assumption|(simp;done))
            refine ztk [0,1,2,3,4] ?_;repeat(refine ztn (h:= ?_);try simp only[zX,zY])
            refine zte ?_;refine zR1 5 (fun K hK=> ?_);simp only[zG];go_simp
            (go_at_call 133;refine(Qdq true _ _ _ _ _ hk ht h1 _).mono ?_;rintro e w1 ⟨rfl,g1⟩;obtain⟨k1,m1⟩:=Qeh g1;have s1:=g1.size)
            refine hK.out _ _ ?_ (fun hH=> ?_)
            . first|(go_split_ands;refine⟨?_,?_,?_,?_,?_,?_,?_,?_,?_,?_,?_⟩<;>assumption)|(go_split_ands;refine⟨?_,?_,?_,?_,?_,?_,?_,?_,?_,?_,?_⟩<;>first|assumption|exact(k1 _ _ (by assumption)).trans (by assumption)|exact Nat.lt_of_lt_of_le (by assumption) s1)
            clear hK K
            try simp only[zX,zY]
            refine ztk [6,7,8,9,10,11,12,13,14,15,16,17] ?_;repeat(refine ztn (h:= ?_);try simp only[zX,zY])
            refine zte ?_;refine' wpAnyH_take (i:=18) (v:=_) rfl (by kernel_rfl) (by kernel_rfl) (by kernel_rfl) (fun _ _ _ h=>h) (Or.inl ⟨by rfl,?hy76⟩) (by assumption) ?rest76
            case hy76=>(intro w hSw;(try dsimp only at hSw);go_simp<;>(rw[hnb.out]<;>with_reducible rfl))
            try simp only[zX,zY]
            refine zR1 19 (fun K hK=> ?_);simp only[zG];go_simp
            (go_at_call 35;refine(Qqo true _ _ _ h2 _).mono ?_;rintro e w' ⟨rfl,rfl⟩)
            refine hK.out _ _ ?_ (fun hH=> ?_)
            . first|(go_split_ands;refine⟨?_,?_,?_,?_,?_,?_,?_,?_,?_,?_,?_⟩<;>assumption)|(go_split_ands;refine⟨?_,?_,?_,?_,?_,?_,?_,?_,?_,?_,?_⟩<;>first|assumption|exact(k1 _ _ (by assumption)).trans (by assumption)|exact Nat.lt_of_lt_of_le (by assumption) s1)
            clear hK K
            try simp only[zX,zY]
            refine ztk [20,21,22,23] ?_;repeat(refine ztn (h:= ?_);try simp only[zX,zY])
            refine zte ?_;refine' wpAnyH_take (i:=24) (v:=_) rfl (by kernel_rfl) (by kernel_rfl) (by kernel_rfl) (fun _ _ _ h=>h) (Or.inl ⟨by rfl,?hy81⟩) (by assumption) ?rest81
            case hy81=>(intro w hSw;(try dsimp only at hSw);go_simp<;>(rw[hd.out]<;>with_reducible rfl))
            try simp only[zX,zY]
            refine ztk [25,26,27,28] ?_;repeat(refine ztn (h:= ?_);try simp only[zX,zY])
            refine zte ?_;refine' wpAnyH_take (i:=29) (v:=_) rfl (by kernel_rfl) (by kernel_rfl) (by kernel_rfl) (fun _ _ _ h=>h) (Or.inl ⟨by rfl,?hy86⟩) (by assumption) ?rest86
            case hy86=>(intro w hSw;(try dsimp only at hSw);go_simp<;>(rw[jw.out]<;>with_reducible rfl))
            try simp only[zX,zY]
            refine ztk [30,31,32,33,34,35,36,37,38,39,40,41] ?_;repeat(refine ztn (h:= ?_);try simp only[zX,zY])
            refine zte ?_;refine zdn ?_
            go_split_ands
            go_wp2;exact⟨⟨n+1,by go_num,by omega,via0 g1 hbl.drew,by assumption,by assumption,by assumption,by assumption,hF⟩,by simp[intOf];omega⟩
          . rw[decide_eq_false h4]at ho;have hF:Hid (Qa7 start nb l 0=false):=(by show Qa7 start nb l 0=false;rw[← hch.out,hst,hp,h2',ho];rfl);have h5:l[p].off>=l[n].off:=(by omega);clear hst hp h2' ho h4;go_wp2;refine wp_region_noPanic ?_;refine wp_region_held_drew (S:=(fun w' =>w'.cell? ⟨w.heap.size,0,none⟩=some (.int .i64 start)/\w'.cell? ⟨w.heap.size,1,none⟩=some (.int .i64 next)/\w'.cell? ⟨w.heap.size,2,none⟩=some (.slice (some ⟨b,o,none⟩) l.length cap)/\w'.cell? ⟨b,o+n*5,none⟩=some (.int .i64 l[n].off)/\w'.cell? ⟨b,o+n*5+1,none⟩=some (.string l[n].key)/\w'.cell? ⟨b,o+n*5+2,none⟩=some (.string l[n].text)/\w'.cell? ⟨b,o+n*5+3,none⟩=some (.int .i64 l[n].who)/\w'.cell? ⟨b,o+n*5+4,none⟩=some (.int .i64 l[n].time)/\w'.cell? ⟨b,o+p*5,none⟩=some (.int .i64 l[p].off)/\w.heap.size<w'.heap.size/\b<w'.heap.size)) (by kernel_rfl) ?_ (fun hH=> ?_)
            . (refine⟨?_,?_,?_,?_,?_,?_,?_,?_,?_,?_,?_⟩<;>first|assumption|(simp;done))
            refine ztk [0,1,2,3,4] ?_;repeat(refine ztn (h:= ?_);try simp only[zX,zY])
            refine zte ?_;refine zR1 5 (fun K hK=> ?_);simp only[zG];go_simp
            (go_at_call 133;refine(Qdq true _ _ _ _ _ hk ht h1 _).mono ?_;rintro e w1 ⟨rfl,g1⟩;obtain⟨k1,m1⟩:=Qeh g1;have s1:=g1.size)
            refine hK.out _ _ ?_ (fun hH=> ?_)
            . first|(go_split_ands;refine⟨?_,?_,?_,?_,?_,?_,?_,?_,?_,?_,?_⟩<;>assumption)|(go_split_ands;refine⟨?_,?_,?_,?_,?_,?_,?_,?_,?_,?_,?_⟩<;>first|assumption|exact(k1 _ _ (by assumption)).trans (by assumption)|exact Nat.lt_of_lt_of_le (by assumption) s1)
            clear hK K
            try simp only[zX,zY]
            refine ztk [6,7,8,9,10,11,12,13,14,15,16,17] ?_;repeat(refine ztn (h:= ?_);try simp only[zX,zY])
            refine zte ?_;refine' wpAnyH_take (i:=18) (v:=_) rfl (by kernel_rfl) (by kernel_rfl) (by kernel_rfl) (fun _ _ _ h=>h) (Or.inl ⟨by rfl,?hy116⟩) (by assumption) ?rest116
            case hy116=>(intro w hSw;(try dsimp only at hSw);go_simp<;>(rw[hnb.out]<;>with_reducible rfl))
            try simp only[zX,zY]
            refine zR1 19 (fun K hK=> ?_);simp only[zG];go_simp
            (go_at_call 35;refine(Qqo true _ _ _ h2 _).mono ?_;rintro e w' ⟨rfl,rfl⟩)
            refine hK.out _ _ ?_ (fun hH=> ?_)
            . first|(go_split_ands;refine⟨?_,?_,?_,?_,?_,?_,?_,?_,?_,?_,?_⟩<;>assumption)|(go_split_ands;refine⟨?_,?_,?_,?_,?_,?_,?_,?_,?_,?_,?_⟩<;>first|assumption|exact(k1 _ _ (by assumption)).trans (by assumption)|exact Nat.lt_of_lt_of_le (by assumption) s1)
            clear hK K
            try simp only[zX,zY]
            refine ztk [20,21,22,23] ?_;repeat(refine ztn (h:= ?_);try simp only[zX,zY])
            refine zte ?_;refine' wpAnyH_take (i:=24) (v:=_) rfl (by kernel_rfl) (by kernel_rfl) (by kernel_rfl) (fun _ _ _ h=>h) (Or.inl ⟨by rfl,?hy121⟩) (by assumption) ?rest121
            case hy121=>(intro w hSw;(try dsimp only at hSw);go_simp<;>(rw[hd.out]<;>with_reducible rfl))
            try simp only[zX,zY]
            refine ztk [25,26,27,28] ?_;repeat(refine ztn (h:= ?_);try simp only[zX,zY])
            refine zte ?_;refine' wpAnyH_take (i:=29) (v:=_) rfl (by kernel_rfl) (by kernel_rfl) (by kernel_rfl) (fun _ _ _ h=>h) (Or.inl ⟨by rfl,?hy126⟩) (by assumption) ?rest126
            case hy126=>(intro w hSw;(try dsimp only at hSw);go_simp<;>(rw[jw.out]<;>with_reducible rfl))
            try simp only[zX,zY]
            refine ztk [30,31,32,33,34,35,36,37,38,39,40,41] ?_;repeat(refine ztn (h:= ?_);try simp only[zX,zY])
            refine zte ?_;refine zdn ?_;go_wp2;go_ret;exact⟨by rw[show rowN start next nb l=false from by unfold rowN;rw[hF.out];rfl];rfl,via0 g1 hbl.drew⟩
  . have hT:Qa7 start nb l 0=true:=(by rw[← hch.out,Qir (by omega)]);have HT:Hid (Qa7 start nb l 0=true):=hT;clear hT hch;cases h1:inB start 0 next
    . have hR:Hid (rowN start next nb l=false):=by show rowN start next nb l=false;unfold rowN;rw[h1];simp
      go_wp2_with (go_at_call 35;refine(Qcf _ _ _ _).mono ?_;rintro e w' ⟨rfl,rfl⟩);go_ret;exact⟨by rw[hR.out];rfl,hbl⟩
    . by_cases h2:next<=100000
      . by_cases h3:(l.length:Int)<=80
        . have hR:Hid (rowN start next nb l=true):=by
           show rowN start next nb l=true
           have h3' :l.length<=80:=(by omega);unfold rowN;rw[HT.out,h1];simp[h2,h3']
          go_wp2_with (go_at_call 35;refine(Qcf _ _ _ _).mono ?_;rintro e w' ⟨rfl,rfl⟩);go_ret;exact⟨by rw[hR.out];rfl,hbl⟩
        . have hR:Hid (rowN start next nb l=false):=by
           show rowN start next nb l=false
           have h3' :¬l.length<=80:=(by omega);unfold rowN;simp[h3']
          have h3d:decide ((l.length:Int)<=80)=false:=decide_eq_false h3;go_wp2_with (go_at_call 35;refine(Qcf _ _ _ _).mono ?_;rintro e w' ⟨rfl,rfl⟩);go_ret;exact⟨by first|(rw[hR.out];rfl)|(rw[hR.out,← h3d];rfl),hbl⟩
      . have hR:Hid (rowN start next nb l=false):=by show rowN start next nb l=false;unfold rowN;simp[h2]
        go_wp2_with (go_at_call 35;refine(Qcf _ _ _ _).mono ?_;rintro e w' ⟨rfl,rfl⟩);go_ret;exact⟨by rw[hR.out];rfl,hbl⟩
theorem Qcq (start next:Int) (A:Option Addr) (cap:Nat) (l:List It) (hl:l.length<=9223372036854775807) (hs:∀x∈l,x.key.size<=9223372036854775807/\x.text.size<=9223372036854775807)
 (h0: -9223372036854775808<=next) (h1:next<=9223372036854775807) (w:World) (hA:l= []∨∃b o,A=some ⟨b,o,none⟩/\b<w.heap.size/\In w b o l):
 Calls Tryz.prog 130 #[.agg (Qa5 start next A l.length cap)] w fun e w' =>e= .returned (.bool (rowB start next l))/\Below w.heap.size w w' :=by
 rw[← Qrt start next l h0 h1];exact Qi0 start next A cap l hl hs _ rfl w hA
end Go.Proofs.YtajbldnhjpjghaaGreat.Items
