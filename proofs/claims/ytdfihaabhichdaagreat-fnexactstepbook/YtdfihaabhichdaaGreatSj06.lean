/-
  What the small functions that ask whether an order is right return, of the program and of the model: proved by walking them. (what walks the functions of the model or of the laws)
-/
import Derived.Test.YtdfihaabhichdaaGreatSj04
import Derived.Test.YtdfihaabhichdaaGreatSj05
import Derived.BigQuiet
namespace Go.Proofs.YtdfihaabhichdaaGreat
open Go.RowKit
set_option linter.unusedVariables false

theorem zw (n a b:Int) (w:World) :
    Calls Tryz.prog 59 #[.int .i64 n,.int .i64 a,.int .i64 b] w fun e w'=>e = .returned (.bool (betB n a b))∧w' = w:=by
  go_enter Tryz.func59,Tryz.ntmps59
  go_wp2
  all_goals go_ret
  all_goals exact ⟨zl (by rw [Bool.eq_iff_iff]; simp [betB]; omega),rfl⟩
set_option maxHeartbeats 400000 in
theorem l03Tag_any (s:ByteArray) (w:World) (hs:s.size ≤ maxLen) :
    Calls Tryz.prog 96 #[.string s] w fun e w'=>e = .returned (.bool (tagB s))∧w' = w:=by
  unfold maxLen at hs
  by_cases hl:s.size ≤ 12
  · have hl':¬ ((12:Int) < s.size):=by omega
    go_enter Tryz.func96,Tryz.ntmps96
    go_wp2_with fail
    go_loop [3] (fun i=>∃ k:Nat,k ≤ s.size∧i = .int .i64 k∧Hid (s.data.toList.all tagC = (s.data.toList.drop k).all tagC)) (fun i=>s.size - (intOf i).toNat)
    case atStart=>exact ⟨0,Nat.zero_le _,rfl,by simp [Hid]⟩
    case round =>
      obtain ⟨k,hk,rfl,hall⟩:=hrel
      by_cases hlt:k < s.size
      · have hlt':(k:Int) < s.size:=by omega
        have hdr:=drop_cons s k hlt
        have hw:betB (s[k].toNat:Int) 32 126 = tagC s[k]:=rfl
        cases ht:tagC s[k]
        · have HT:Hid (s.data.toList.all tagC = false):=by
            have:=za hall
            rw [hdr,List.all_cons,ht,Bool.false_and] at this
            exact this
          rw [ht] at hw
          have hor:(s[k].toNat:Int) < 32 ∨ (32 ≤ (s[k].toNat:Int)∧(126:Int) < s[k].toNat):=by
            simp [betB] at hw; omega
          clear hdr ht hw
          rcases hor with h32 | ⟨h32,h126⟩
          · have hd:decide ((s[k].toNat:Int) < 32) = true:=by simpa using h32
            go_wp2_with fail
            go_ret
            exact ⟨zl (tag_no s (za HT)).symm,rfl⟩
          · have hd:decide ((s[k].toNat:Int) < 32) = false:=by simpa using h32
            go_wp2_with fail
            go_ret
            exact ⟨zl (tag_no s (za HT)).symm,rfl⟩
        · have HN:Hid (s.data.toList.all tagC = (s.data.toList.drop (k + 1)).all tagC):=by
            have:=za hall
            rw [hdr,List.all_cons,ht,Bool.true_and] at this
            exact this
          rw [ht] at hw
          have hor:32 ≤ (s[k].toNat:Int)∧(s[k].toNat:Int) ≤ 126:=by
            simp [betB] at hw; omega
          obtain ⟨h32,h126⟩:=hor
          have hd:decide ((s[k].toNat:Int) < 32) = false:=by simpa using h32
          have hd2:¬ ((126:Int) < s[k].toNat):=by omega
          clear hdr ht hw
          go_wp2_with fail
          go_round
          case rel=>exact ⟨k + 1,by omega,by go_num,za HN⟩
          case measure=>simp [intOf]; omega
      · go_wp2_with fail
        go_ret
        have h:=za hall
        rw [List.drop_of_length_le (by rw [data_len]; omega)] at h
        exact ⟨zl (tag_yes s hl (by rw [h]; rfl)).symm,rfl⟩
  · have hl':(12:Int) < s.size:=by omega
    go_enter Tryz.func96,Tryz.ntmps96
    go_wp2_with fail
    go_ret
    exact ⟨zl (tag_long s hl).symm,rfl⟩
set_option maxHeartbeats 800000 in
theorem l03Order_any (o:Od) (w:World) (hs:o.tag.size ≤ maxLen) :
    Calls Tryz.prog 60 #[.agg #[.int .i64 o.id,.int .i64 o.side,.int .i64 o.ticks,.int .i64 o.left,.int .i64 o.life,.string o.tag]] w fun e w'=>e = .returned (.bool (ordB o))∧Below w.heap.size w w':=by
  have HT:=hide (fun W=>l03Tag_any o.tag W hs)
  clear hs
  cases h1:betB o.side 1 2
  · go_enter Tryz.func60,Tryz.ntmps60
    go_wp2_with (first | (go_at_call 96; refine (za HT _).mono ?_; rintro e w' ⟨rfl,rfl⟩) | (go_at_call 59; refine (zw _ _ _ _).mono ?_; rintro e w' ⟨rfl,rfl⟩))
    go_ret
    exact ⟨zl (by simp [ordB,h1]),by go_grown⟩
  ·
    cases h4:betB o.ticks 1 1000000
    · go_enter Tryz.func60,Tryz.ntmps60
      go_wp2_with (first | (go_at_call 96; refine (za HT _).mono ?_; rintro e w' ⟨rfl,rfl⟩) | (go_at_call 59; refine (zw _ _ _ _).mono ?_; rintro e w' ⟨rfl,rfl⟩))
      go_ret
      exact ⟨zl (by simp [ordB,h1,h4]),by go_grown⟩
    ·
      cases h5:betB o.left 1 1000000
      · go_enter Tryz.func60,Tryz.ntmps60
        go_wp2_with (first | (go_at_call 96; refine (za HT _).mono ?_; rintro e w' ⟨rfl,rfl⟩) | (go_at_call 59; refine (zw _ _ _ _).mono ?_; rintro e w' ⟨rfl,rfl⟩))
        go_ret
        exact ⟨zl (by simp [ordB,h1,h4,h5]),by go_grown⟩
      ·
        cases h2:betB o.life 0 1
        · go_enter Tryz.func60,Tryz.ntmps60
          go_wp2_with (first | (go_at_call 96; refine (za HT _).mono ?_; rintro e w' ⟨rfl,rfl⟩) | (go_at_call 59; refine (zw _ _ _ _).mono ?_; rintro e w' ⟨rfl,rfl⟩))
          go_ret
          exact ⟨zl (by simp [ordB,h1,h4,h5,h2]),by go_grown⟩
        ·
          cases h3:tagB o.tag
          · go_enter Tryz.func60,Tryz.ntmps60
            go_wp2_with (first | (go_at_call 96; refine (za HT _).mono ?_; rintro e w' ⟨rfl,rfl⟩) | (go_at_call 59; refine (zw _ _ _ _).mono ?_; rintro e w' ⟨rfl,rfl⟩))
            go_ret
            exact ⟨zl (by simp [ordB,h1,h4,h5,h2,h3]),by go_grown⟩
          · go_enter Tryz.func60,Tryz.ntmps60
            go_wp2_with (first | (go_at_call 96; refine (za HT _).mono ?_; rintro e w' ⟨rfl,rfl⟩) | (go_at_call 59; refine (zw _ _ _ _).mono ?_; rintro e w' ⟨rfl,rfl⟩))
            go_ret
            exact ⟨zl (by simp [ordB,h1,h4,h5,h2,h3]),by go_grown⟩
end Go.Proofs.YtdfihaabhichdaaGreat
namespace Go.Proofs.YtdfihaabhichdaaGreat
open Go.RowKit
set_option linter.unusedVariables false

def ahdB (a b:Od):Bool:=if a.ticks = b.ticks then decide (a.id < b.id) else (decide (b.ticks < a.ticks) == decide (a.side = 1))
theorem ahd_iff (a b:Od):ahdB a b = true ↔ ahd (decide (a.side = 1)) a b:=by
  unfold ahdB ahd
  by_cases h:a.ticks = b.ticks
  · rw [if_pos h]
    simp only [decide_eq_true_eq]
    constructor
    · exact fun h1=>.inr ⟨h,h1⟩
    · rintro (h1 | h1)
      · rw [h] at h1; exact absurd h1 (bt_irr _ _)
      · exact h1.2
  · rw [if_neg h]
    by_cases hs:a.side = 1
    · simp only [hs,decide_true,beq_true,decide_eq_true_eq,bt]
      constructor
      · exact fun h1=>.inl h1
      · rintro (h1 | h1)
        · exact h1
        · exact absurd h1.1 h
    · simp only [hs,decide_false,beq_false,Bool.not_eq_true',decide_eq_false_iff_not,bt]
      constructor
      · exact fun h1=>.inl (by omega)
      · rintro (h1 | h1)
        · omega
        · exact absurd h1.1 h
def FrPre (l:List Od) (sd:Int) (k:Nat) (best:Int):Prop :=
  (best = -1∧∀ j o,j < k→l[j]? = some o→o.side ≠ sd) ∨
  ∃ (i:Nat) (o:Od),best = i∧i < k∧l[i]? = some o∧o.side = sd∧∀ j o',j < k→l[j]? = some o'→o'.side = sd→j ≠ i→ahd (decide (sd = 1)) o o'
theorem frPre_skip {l:List Od} {sd:Int} {k:Nat} {best:Int} {c:Od} (h:FrPre l sd k best) (hc:l[k]? = some c) (hs:c.side ≠ sd):FrPre l sd (k + 1) best:=by
  rcases h with ⟨rfl,h⟩ | ⟨i,o,rfl,h1,h2,h3,h4⟩
  · refine .inl ⟨rfl,fun j o hj ho=>?_⟩
    by_cases hjk:j = k
    · subst hjk; rw [hc] at ho; obtain rfl:=Option.some.inj ho; exact hs
    · exact h j o (by omega) ho
  · refine .inr ⟨i,o,rfl,by omega,h2,h3,fun j o' hj ho hso hne=>?_⟩
    by_cases hjk:j = k
    · subst hjk; rw [hc] at ho; obtain rfl:=Option.some.inj ho; exact absurd hso hs
    · exact h4 j o' (by omega) ho hso hne
theorem frPre_first {l:List Od} {sd:Int} {k:Nat} {c:Od} (h:FrPre l sd k (-1)) (hc:l[k]? = some c) (hs:c.side = sd):FrPre l sd (k + 1) k:=by
  rcases h with ⟨_,h⟩ | ⟨i,o,h0,_⟩
  · refine .inr ⟨k,c,rfl,by omega,hc,hs,fun j o' hj ho hso hne=>?_⟩
    exact absurd hso (h j o' (by omega) ho)
  · omega
theorem rising_ne {l:List Od} (hr:zbi l) {i j:Nat} {a b:Od} (ha:l[i]? = some a) (hb:l[j]? = some b) (hne:i ≠ j):a.id ≠ b.id:=by
  obtain ⟨h1,rfl⟩:=List.getElem?_eq_some_iff.1 ha
  obtain ⟨h2,rfl⟩:=List.getElem?_eq_some_iff.1 hb
  have hp:=List.pairwise_iff_getElem.1 hr
  rcases Nat.lt_or_gt_of_ne hne with h | h
  · have:=hp i j h1 h2 h; omega
  · have:=hp j i h2 h1 h; omega
theorem frPre_better {l:List Od} {sd:Int} {k i:Nat} {c o:Od} (hr:zbi l) (h:FrPre l sd k i) (ho:l[i]? = some o) (hc:l[k]? = some c) (hs:c.side = sd) (hb:ahdB c o = true):FrPre l sd (k + 1) k:=by
  rcases h with ⟨h0,h⟩ | ⟨i',o',h0,h1,h2,h3,h4⟩
  · omega
  · obtain rfl:i = i':=by omega
    rw [ho] at h2; obtain rfl:=Option.some.inj h2
    have hco:ahd (decide (sd = 1)) c o:=by rw [← hs]; exact (ahd_iff c o).1 hb
    refine .inr ⟨k,c,rfl,by omega,hc,hs,fun j o' hj ho' hso hne=>?_⟩
    by_cases hji:j = i
    · subst hji; rw [ho] at ho'; obtain rfl:=Option.some.inj ho'; exact hco
    · exact ahd_trans hco (h4 j o' (by omega) ho' hso hji)
theorem frPre_worse {l:List Od} {sd:Int} {k i:Nat} {c o:Od} (hr:zbi l) (h:FrPre l sd k i) (ho:l[i]? = some o) (hc:l[k]? = some c) (hs:c.side = sd) (hb:ahdB c o = false):FrPre l sd (k + 1) i:=by
  rcases h with ⟨h0,h⟩ | ⟨i',o',h0,h1,h2,h3,h4⟩
  · omega
  · obtain rfl:i = i':=by omega
    rw [ho] at h2; obtain rfl:=Option.some.inj h2
    have hnco:¬ ahd (decide (sd = 1)) c o:=by rw [← hs]; intro hh; rw [(ahd_iff c o).2 hh] at hb; cases hb
    have hoc:ahd (decide (sd = 1)) o c:=by
      rcases ahd_total (s:=decide (sd = 1)) (rising_ne hr hc ho (by omega)) with hh | hh
      · exact absurd hh hnco
      · exact hh
    refine .inr ⟨i,o,rfl,by omega,ho,h3,fun j o' hj ho' hso hne=>?_⟩
    by_cases hjk:j = k
    · subst hjk; rw [hc] at ho'; obtain rfl:=Option.some.inj ho'; exact hoc
    · exact h4 j o' (by omega) ho' hso hne
structure GW (W:World) where
  val:World
  property:W.grownBy val none
theorem gw_ne (W:World):Nonempty (GW W):=⟨⟨W,World.grownBy.refl _ _⟩⟩
theorem zaL {P:Program} {id:Nat} {Q:Exit→Act→World→Prop} {a:Act} {w W:World} {l:List Oper} (hm:P.follows .mixedOrders = true) (hB:Region.lexB .any l.toArray = true) (hg:W.grownBy w none)
    (h:wpQuiet P l.toArray (fun w'=>∃ u:GW W,w' = u.val) (fun a'=>∀ w',(∃ u:GW W,w' = u.val)→Q .normal a' w') l a):(Code.region id l.toArray true).wp P Q a w :=
  wp_region_quiet (C:=fun w'=>∃ u:GW W,w' = u.val) hm hB ⟨⟨{ w with drawn:=w.drawn + 1 },⟨hg.os,hg.tape,hg.output,hg.size,hg.block⟩⟩,rfl⟩ (by simpa using h)
end Go.Proofs.YtdfihaabhichdaaGreat
namespace Go.Proofs.YtdfihaabhichdaaGreat
open Go.RowKit
set_option linter.unusedVariables false

theorem l03Better_any (o c:Od) (w:World) :
    Calls Tryz.prog 97 #[.agg #[.int .i64 o.id,.int .i64 o.side,.int .i64 o.ticks,.int .i64 o.left,.int .i64 o.life,.string o.tag],.agg #[.int .i64 c.id,.int .i64 c.side,.int .i64 c.ticks,.int .i64 c.left,.int .i64 c.life,.string c.tag]] w fun e w'=>e = .returned (.bool (ahdB o c))∧w.grownBy w' none:=by
  by_cases h:o.ticks = c.ticks
  · have h':(o.ticks == c.ticks) = true:=by simpa using h
    have HA:Hid (ahdB o c = decide (o.id < c.id)):=if_pos h
    go_enter Tryz.func97,Tryz.ntmps97
    go_wp2_with fail
    go_ret
    exact ⟨zl (za HA).symm,(World.grownBy_alloc _ _ _).trans (World.grownBy_alloc _ _ _)⟩
  · have HA:Hid (ahdB o c = (decide (c.ticks < o.ticks) == decide (o.side = 1))):=if_neg h
    go_enter Tryz.func97,Tryz.ntmps97
    go_wp2_with fail
    go_ret
    exact ⟨zl (by rw [za HA]; rfl),(World.grownBy_alloc _ _ _).trans (World.grownBy_alloc _ _ _)⟩
set_option maxRecDepth 100000 in
set_option maxHeartbeats 800000 in
theorem zck (v:Value) (l:List Od) (sd:Int) (w:World) (hr:RdR Od.vs 6 w v l) (hri:zbi l) (hn:l.length ≤ 1000) :
    Calls Tryz.prog 62 #[v,.int .i64 sd] w fun e w'=>∃ k:Int,e = .returned (.int .i64 k)∧FrPre l sd l.length k∧w.grownBy w' none:=by
  obtain ⟨a,cap,rfl,hlen,hc⟩:=hr
  have hcell:∀ (k:Nat) (c:Od),l[k]? = some c→∃ b off,a = some ⟨b,off,none⟩∧b < w.heap.size∧w.rangeAt b (off + k * 6) c.vs:=by
    intro k c hk
    obtain ⟨b,off,h1,h2,h3⟩:=hc (by intro h; rw [h] at hk; simp at hk)
    exact ⟨b,off,h1,h2,h3 k c hk⟩
  have HC:=hide hcell
  have HRI:=hide hri
  clear hcell hc hri
  go_enter Tryz.func62,Tryz.ntmps62
  go_wp2_with fail
  go_loopw [5,6] (fun bv iv wr=>∃ (k:Nat) (best:Int),bv = .int .i64 best∧k ≤ l.length∧iv = .int .i64 k∧Hid (FrPre l sd k best)∧w.grownBy wr none) (fun _ iv _=>l.length - (intOf iv).toNat)
  case atStart=>exact ⟨0,-1,rfl,Nat.zero_le _,rfl,.inl ⟨rfl,fun j o hj=>by omega⟩,World.grownBy.refl _ _⟩
  case round =>
    obtain ⟨k,best,rfl,hk,rfl,hfr,hg⟩:=hrel
    have HG:=hide hg
    clear hg
    by_cases hlt:k < l.length
    · obtain ⟨c,hkc⟩:∃ c,l[k]? = some c:=⟨_,List.getElem?_eq_getElem hlt⟩
      obtain ⟨b,off,rfl,hb,hcl⟩:=za HC k c hkc
      have HKC:=hide hkc
      obtain ⟨g0,g1,g2,g3,g4,g5⟩:=zy (zu hcl (za HG) hb (by simp))
      have hlt':(k:Int) < l.length:=by omega
      have HCL:=hide hcl
      have HHB:=hide hb
      clear hkc hcl
      by_cases hs:c.side = sd
      · subst hs
        rcases za hfr with ⟨rfl,hno⟩ | ⟨i,o,rfl,hi,hio,hso,hah⟩
        · have HN:=hide (frPre_first (za hfr) (za HKC) rfl)
          clear hno
          go_wp2_with fail
          go_quiet (fail)
          go_wp2_with fail
          go_roundw
          case rel=>exact ⟨k + 1,k,rfl,by omega,by go_num,za HN,zbg (za HG) rfl rfl rfl rfl⟩
          case measure=>simp [intOf]; omega
        · obtain ⟨b',off',hbe,hb',hcl'⟩:=za HC i o hio
          simp only [Option.some.injEq,Addr.mk.injEq,and_true] at hbe
          obtain ⟨rfl,rfl⟩:=hbe
          obtain ⟨e0,e1,e2,e3,e4,e5⟩:=zy (zu hcl' (za HG) hb (by simp))
          have hlti:(i:Int) < l.length:=by have:=(List.getElem?_eq_some_iff.1 hio).1; omega
          have hi0:¬ ((i:Int) < 0):=by omega
          have hi0':decide ((i:Int) < 0) = false:=by simp
          have HCEL:Hid (∀ w',wr.grownBy w' none→w'.rangeAt b (off + k * 6) c.vs∧w'.rangeAt b (off + i * 6) o.vs):=fun w' h'=>⟨zu (zu (za HCL) (za HG) hb (by simp)) h' (Nat.lt_of_lt_of_le hb (za HG).size) (by simp),zu (zu hcl' (za HG) hb (by simp)) h' (Nat.lt_of_lt_of_le hb (za HG).size) (by simp)⟩
          have HHI:Hid (l[i]? = some o):=hio
          clear hah hio hcl' hso
          go_wp2_with fail
          refine zaq (W:=wr) (by kernel_rfl) (by kernel_rfl) (World.grownBy.refl _ _) ?_
          iterate 19 (
            refine zag (v:=?_) ?_ ?_ ?_
            rotate_left
            · rfl
            · intro w' hw'
              obtain ⟨c0,c1,c2,c3,c4,c5⟩:=zy (za HCEL w' hw').1
              obtain ⟨d0,d1,d2,d3,d4,d5⟩:=zy (za HCEL w' hw').2
              go_simp
              try rfl
            intro K hK
            go_simp
            refine hK _ ?_
            clear hK K)
          refine zag (v:=.bool (ahdB c o)) ?_ ?_ ?_
          · rfl
          · intro w' hw'
            go_simp
            refine (l03Better_any c o _).mono ?_
            rintro e w3 ⟨rfl,hg3⟩
            exact ⟨rfl,hw'.trans hg3⟩
          intro K hK
          go_simp
          refine hK _ ?_
          clear hK K
          iterate 2 (
            refine zag (v:=?_) ?_ ?_ ?_
            rotate_left
            · rfl
            · intro w' hw'
              go_simp
              try rfl
            intro K hK
            go_simp
            refine hK _ ?_
            clear hK K)
          refine wpQuiet_nil ?_
          intro w2 hg2
          have HG2:=hide ((za HG).trans hg2)
          clear hg2 g0 g1 g2 g3 g4 g5 e0 e1 e2 e3 e4 e5
          cases hah:ahdB c o
          · have HN:=hide (frPre_worse (za HRI) (za hfr) (za HHI) (za HKC) rfl hah)
            go_wp2_with fail
            go_roundw
            case rel=>exact ⟨k + 1,i,rfl,by omega,by go_num,za HN,za HG2⟩
            case measure=>simp [intOf]; omega
          · have HN:=hide (frPre_better (za HRI) (za hfr) (za HHI) (za HKC) rfl hah)
            go_wp2_with fail
            go_roundw
            case rel=>exact ⟨k + 1,k,rfl,by omega,by go_num,za HN,za HG2⟩
            case measure=>simp [intOf]; omega
      · have HN:=hide (frPre_skip (za hfr) (za HKC) hs)
        have hs':(c.side == sd) = false:=by simpa using hs
        go_wp2_with fail
        go_quiet (fail)
        go_wp2_with fail
        go_roundw
        case rel=>exact ⟨k + 1,best,rfl,by omega,by go_num,za HN,zbg (za HG) rfl rfl rfl rfl⟩
        case measure=>simp [intOf]; omega
    · go_wp2_with fail
      go_ret
      have h:=za hfr
      rw [show k = l.length by omega] at h
      exact ⟨_,rfl,h,za HG⟩
end Go.Proofs.YtdfihaabhichdaaGreat
namespace Go.Proofs.YtdfihaabhichdaaGreat
open Go.RowKit
set_option linter.unusedVariables false

def difB (c y:Od):Bool:=decide (y.side ≠ c.side) || decide (y.ticks ≠ c.ticks)
def zci (c:Od) (L:List Od):Bool:=L.all (difB c)
theorem nlev_fresh (l:List Od) (x:Od):nlev (l ++ [x]) = nlev l + (zci x l).toNat:=by
  rw [nlev_snoc]
  congr 1
  by_cases h:∃ y ∈ l,y.side = x.side∧y.ticks = x.ticks
  · rw [if_pos h]
    have:zci x l = false:=by
      obtain ⟨y,h1,h2,h3⟩:=h
      rw [zci,List.all_eq_false]
      exact ⟨y,h1,by simp [difB,h2,h3]⟩
    rw [this]; rfl
  · rw [if_neg h]
    have:zci x l = true:=by
      rw [zci,List.all_eq_true]
      intro y hy
      simp only [difB,ne_eq,Bool.or_eq_true,decide_eq_true_eq]
      by_cases h1:y.side = x.side
      · exact .inr fun h2=>h ⟨y,hy,h1,h2⟩
      · exact .inl h1
    rw [this]; rfl
end Go.Proofs.YtdfihaabhichdaaGreat
namespace Go.Proofs.YtdfihaabhichdaaGreat
open Go.RowKit
set_option linter.unusedVariables false

set_option maxRecDepth 100000 in
set_option maxHeartbeats 1600000 in
theorem l03Levels_any (v:Value) (l:List Od) (w:World) (hr:RdR Od.vs 6 w v l) (hn:l.length ≤ 1000) :
    Calls Tryz.prog 61 #[v] w fun e w'=>e = .returned (.int .i64 (nlev l:Nat))∧w.grownBy w' none:=by
  obtain ⟨a,cap,rfl,hlen,hc⟩:=hr
  have hcell:∀ (k:Nat) (c:Od),l[k]? = some c→∃ b off,a = some ⟨b,off,none⟩∧b < w.heap.size∧w.rangeAt b (off + k * 6) c.vs:=by
    intro k c hk
    obtain ⟨b,off,h1,h2,h3⟩:=hc (by intro h; rw [h] at hk; simp at hk)
    exact ⟨b,off,h1,h2,h3 k c hk⟩
  have HC:=hide hcell
  clear hcell hc
  go_enter Tryz.func61,Tryz.ntmps61
  go_wp2_with fail
  go_loopw [3,4] (fun nv iv wr=>∃ (i n:Nat),nv = .int .i64 n∧i ≤ l.length∧iv = .int .i64 i∧Hid (n = nlev (l.take i))∧n ≤ i∧w.grownBy wr none) (fun _ iv _=>l.length - (intOf iv).toNat)
  case atStart=>exact ⟨0,0,rfl,Nat.zero_le _,rfl,by simp [Hid,nlev,nlevR],Nat.le_refl _,World.grownBy.refl _ _⟩
  case round =>
    obtain ⟨i,n,rfl,hi,rfl,hnl,hni,hg⟩:=hrel
    have HG:=hide hg
    clear hg
    by_cases hlt:i < l.length
    · obtain ⟨c,hkc⟩:∃ c,l[i]? = some c:=⟨_,List.getElem?_eq_getElem hlt⟩
      obtain ⟨b,off,rfl,hb,hcl⟩:=za HC i c hkc
      have HKC:=hide hkc
      have HCL:=hide hcl
      have hlt':(i:Int) < l.length:=by omega
      have HNN:Hid (nlev (l.take (i + 1)) = n + (zci c (l.take i)).toNat):=by
        show _ = _
        rw [takeR l i c hkc,nlev_fresh,← za hnl]
      clear hkc hcl hnl
      go_wp2_with fail
      go_loopw [5,6] (fun fv kv wq=>∃ (k:Nat) (fb:Bool),fv = .bool fb∧k ≤ i∧kv = .int .i64 k∧Hid (fb = zci c (l.take k))∧w.grownBy wq none) (fun _ kv _=>i - (intOf kv).toNat)
      case atStart=>exact ⟨0,true,rfl,Nat.zero_le _,rfl,rfl,za HG⟩
      case round =>
        obtain ⟨k,fb,rfl,hk,rfl,hfb,hg⟩:=hrel
        have HGQ:=hide hg
        clear hg
        by_cases hki:k < i
        · obtain ⟨y,hky⟩:∃ y,l[k]? = some y:=⟨_,List.getElem?_eq_getElem (by omega)⟩
          obtain ⟨b',off',hbe,hb',hcl'⟩:=za HC k y hky
          simp only [Option.some.injEq,Addr.mk.injEq,and_true] at hbe
          obtain ⟨rfl,rfl⟩:=hbe
          have HFN:Hid (zci c (l.take (k + 1)) = (fb && difB c y)):=by
            show _ = _
            rw [takeR l k y hky,za hfb,zci,List.all_append]; simp [zci]
          obtain ⟨-,e1,e2,-⟩:=zy (zu (za HCL) (za HGQ) hb (by simp))
          obtain ⟨-,d1,d2,-⟩:=zy (zu hcl' (za HGQ) hb (by simp))
          have hki':(k:Int) < i:=by omega
          have hkl':(k:Int) < l.length:=by omega
          have hfin:∀ (fb':Bool),fb' = (fb && difB c y)→Hid (fb' = zci c (l.take (k + 1))):=fun fb' h=>by show _ = _; rw [h,za HFN]
          have HFIN:=hide hfin
          clear hky hcl' hfin
          cases fb
          · go_wp2_with fail
            go_quiet (fail)
            go_wp2_with fail
            go_roundw
            case rel=>exact ⟨k + 1,false,rfl,by omega,by go_num,za HFIN _ rfl,zbg (za HGQ) rfl rfl rfl rfl⟩
            case measure=>simp [intOf]; omega
          · by_cases h1:y.side = c.side
            · have h1':(y.side != c.side) = false:=by simpa using h1
              by_cases h2:y.ticks = c.ticks
              · have hd:(true && difB c y) = false:=by simp [difB,h1,h2]
                go_wp2_with fail
                go_quiet (fail)
                go_wp2_with fail
                go_roundw
                case rel=>exact ⟨k + 1,false,by first | rfl | simp [h2],by omega,by go_num,za HFIN _ hd.symm,zbg (za HGQ) rfl rfl rfl rfl⟩
                case measure=>simp [intOf]; omega
              · have hd:(true && difB c y) = true:=by simp [difB,h2]
                go_wp2_with fail
                go_quiet (fail)
                go_wp2_with fail
                go_roundw
                case rel=>exact ⟨k + 1,true,by first | rfl | simp [h2],by omega,by go_num,za HFIN _ hd.symm,zbg (za HGQ) rfl rfl rfl rfl⟩
                case measure=>simp [intOf]; omega
            · have h1':(y.side != c.side) = true:=by simpa using h1
              have hd:(true && difB c y) = true:=by simp [difB,h1]
              go_wp2_with fail
              go_quiet (fail)
              go_wp2_with fail
              go_roundw
              case rel=>exact ⟨k + 1,true,by first | rfl | simp,by omega,by go_num,za HFIN _ hd.symm,zbg (za HGQ) rfl rfl rfl rfl⟩
              case measure=>simp [intOf]; omega
        · obtain rfl:k = i:=by omega
          have HF:=hfb
          cases fb
          · have HE:Hid (nlev (l.take (k + 1)) = n):=by show _ = _; rw [za HNN,← za HF]; rfl
            clear hfb
            go_wp2_with fail
            exact ⟨⟨k + 1,n,rfl,by omega,by go_num,(za HE).symm,by omega,za HGQ⟩,by simp [intOf]; omega⟩
          · have HE:Hid (nlev (l.take (k + 1)) = n + 1):=by show _ = _; rw [za HNN,← za HF]; rfl
            clear hfb
            go_wp2_with fail
            exact ⟨⟨k + 1,n + 1,by go_num,by omega,by go_num,(za HE).symm,by omega,za HGQ⟩,by simp [intOf]; omega⟩
    · go_wp2_with fail
      go_ret
      have h:=za hnl
      rw [List.take_of_length_le (by omega)] at h
      subst h
      exact ⟨rfl,za HG⟩
end Go.Proofs.YtdfihaabhichdaaGreat
