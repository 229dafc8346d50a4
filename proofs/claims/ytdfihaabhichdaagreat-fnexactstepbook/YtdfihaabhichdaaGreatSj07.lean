/-
  Whether a book is right, as the model says it: proved by walking the function.
-/
import Derived.Test.YtdfihaabhichdaaGreatSj03
import Derived.Test.YtdfihaabhichdaaGreatSj06
import Derived.WalkLawsBesides
import Derived.Laws.Externs
import Derived.WalkSpells
namespace Go.Proofs.YtdfihaabhichdaaGreat
open Go.RowKit
set_option linter.unusedVariables false

def allR (next:Int):Int→List Od→Bool
  | _,[]=>true
  | last,o :: r=>ordB o && decide (last < o.id) && decide (o.id < next) && allR next o.id r
theorem zbO {next:Int}:∀ {l:List Od} {last:Int},allR next last l = true→zbi l∧∀ o ∈ l,last < o.id
  | [],_,_=>⟨by simp [zbi],by simp⟩
  | a :: r,last,h=>by
    simp only [allR,Bool.and_eq_true,decide_eq_true_eq] at h
    obtain ⟨ih1,ih2⟩:=zbO h.2
    refine ⟨List.pairwise_cons.2 ⟨ih2,ih1⟩,fun o ho=>?_⟩
    rcases List.mem_cons.1 ho with rfl | ho
    · exact h.1.1.2
    · have:=ih2 o ho; have:=h.1.1.2; omega
theorem zcq {next:Int}:∀ {l:List Od} {last:Int},allR next last l = true→∀ o ∈ l,ordB o = true
  | [],_,_=>by simp
  | a :: r,last,h=>by
    simp only [allR,Bool.and_eq_true,decide_eq_true_eq] at h
    intro o ho
    rcases List.mem_cons.1 ho with rfl | ho
    · exact h.1.1.1
    · exact zcq h.2 o ho
def xB (a b:Od):Bool:=!(decide (a.side = 1) && decide (b.side = 2)) || decide (a.ticks < b.ticks)
def noX (l:List Od):Bool:=l.all fun a=>l.all fun b=>xB a b
theorem noX_iff (l:List Od):noX l = true ↔ ∀ a ∈ l,a.side = 1→∀ b ∈ l,b.side = 2→a.ticks < b.ticks:=by
  simp only [noX,List.all_eq_true,xB,Bool.or_eq_true,Bool.not_eq_true',Bool.and_eq_false_iff,decide_eq_false_iff_not,decide_eq_true_eq]
  constructor
  · intro h a ha h1 b hb h2
    rcases h a ha b hb with (h3 | h3) | h3
    · exact absurd h1 h3
    · exact absurd h2 h3
    · exact h3
  · intro h a ha b hb
    by_cases h1:a.side = 1
    · by_cases h2:b.side = 2
      · exact .inr (h a ha h1 b hb h2)
      · exact .inl (.inr h2)
    · exact .inl (.inl h1)
theorem noX_none1 {l:List Od} (h:∀ o ∈ l,o.side ≠ 1):noX l = true:=(noX_iff l).2 fun a ha h1=>absurd h1 (h a ha)
theorem noX_none2 {l:List Od} (h:∀ o ∈ l,o.side ≠ 2):noX l = true:=(noX_iff l).2 fun a ha h1 b hb h2=>absurd h2 (h b hb)
theorem noX_fronts {l:List Od} {i j:Nat} {a b:Od} (ha:zcD true l 1 i a) (hb:zcD false l 2 j b):noX l = decide (a.ticks < b.ticks):=by
  rw [Bool.eq_iff_iff,noX_iff,decide_eq_true_eq]
  constructor
  · exact fun h=>h a (List.mem_of_getElem? ha.1) ha.2.1 b (List.mem_of_getElem? hb.1) hb.2.1
  · intro h x hx h1 y hy h2
    obtain ⟨m,hm⟩:=List.mem_iff_getElem?.1 hx
    obtain ⟨n,hn⟩:=List.mem_iff_getElem?.1 hy
    have hxa:x.ticks ≤ a.ticks:=by
      by_cases hmi:m = i
      · subst hmi; rw [ha.1] at hm; obtain rfl:=Option.some.inj hm; exact Int.le_refl _
      · rcases ha.2.2 m x hm h1 hmi with h3 | h3
        · simp only [bt] at h3; omega
        · omega
    have hyb:b.ticks ≤ y.ticks:=by
      by_cases hnj:n = j
      · subst hnj; rw [hb.1] at hn; obtain rfl:=Option.some.inj hn; exact Int.le_refl _
      · rcases hb.2.2 n y hn h2 hnj with h3 | h3
        · simp only [bt] at h3; omega
        · omega
    omega
theorem frPre_end {l:List Od} {sd:Int} {k:Int} (h:FrPre l sd l.length k):(k = -1∧∀ o ∈ l,o.side ≠ sd) ∨ ∃ (i:Nat) (o:Od),k = i∧i < l.length∧zcD (decide (sd = 1)) l sd i o:=by
  rcases h with ⟨rfl,h⟩ | ⟨i,o,rfl,h1,h2,h3,h4⟩
  · refine .inl ⟨rfl,fun o ho=>?_⟩
    obtain ⟨j,hj⟩:=List.mem_iff_getElem?.1 ho
    exact h j o (List.getElem?_eq_some_iff.1 hj).1 hj
  · exact .inr ⟨i,o,rfl,h1,h2,h3,fun j o' ho hs hne=>h4 j o' (List.getElem?_eq_some_iff.1 ho).1 ho hs hne⟩
def okS (next:Int) (l:List Od):Bool:=betB next 1 1000000 && decide (l.length ≤ 20) && allR next 0 l && (decide (nlev l ≤ 8) && noX l)
end Go.Proofs.YtdfihaabhichdaaGreat
namespace Go.Proofs.YtdfihaabhichdaaGreat
open Go.RowKit
set_option linter.unusedVariables false

set_option maxRecDepth 100000 in
set_option maxHeartbeats 1600000 in
theorem specBookOK_any (next:Int) (v:Value) (l:List Od) (w:World) (hr:RdR Od.vs 6 w v l) (hg:∀ c ∈ l,c.tag.size ≤ maxLen) :
    Calls Tryz.prog 34 #[.agg #[.int .i64 next,v]] w fun e w'=>e = .returned (.bool (okS next l))∧Below w.heap.size w w':=by
  have HR:=hide hr
  have HGG:=hide hg
  obtain ⟨a,cap,rfl,hlen,hc⟩:=hr
  have hcell:∀ (k:Nat) (c:Od),l[k]? = some c→∃ b off,a = some ⟨b,off,none⟩∧b < w.heap.size∧w.rangeAt b (off + k * 6) c.vs:=by
    intro k c hk
    obtain ⟨b,off,h1,h2,h3⟩:=hc (by intro h; rw [h] at hk; simp at hk)
    exact ⟨b,off,h1,h2,h3 k c hk⟩
  have HC:=hide hcell
  clear hcell hc hg
  have HB0:Hid (Below w.heap.size w (w.alloc (Obj.cells #[.int .i64 next,.slice a l.length cap] 32))):=(Below.refl _ _).alloc (Nat.le_refl _) _
  have hbx:=zh w [.int .i64 next,.slice a l.length cap] 32
  have HX:Hid (World.rangeAt (w.alloc (Obj.cells #[.int .i64 next,.slice a l.length cap] 32)) w.heap.size 0 [.int .i64 next,.slice a l.length cap]∧w.heap.size < (w.alloc (Obj.cells #[.int .i64 next,.slice a l.length cap] 32)).heap.size):=⟨hbx,by rw [ze]; omega⟩
  clear hbx
  cases h1:betB next 1 1000000
  · go_enter Tryz.func34,Tryz.ntmps34
    go_wp2_with fail
    refine (zw next 1 1000000 _).mono ?_
    rintro e w1 ⟨rfl,rfl⟩
    go_wp2_with fail
    go_ret
    exact ⟨zl (by simp [okS,h1]),za HB0⟩
  by_cases h2:l.length ≤ 20
  rotate_left
  · have h2':(20:Int) < l.length:=by omega
    go_enter Tryz.func34,Tryz.ntmps34
    go_wp2_with fail
    refine (zw next 1 1000000 _).mono ?_
    rintro e w1 ⟨rfl,rfl⟩
    go_wp2_with fail
    go_ret
    exact ⟨zl (by simp [okS,h1,h2]),za HB0⟩
  have h2':¬ ((20:Int) < l.length):=by omega
  go_enter Tryz.func34,Tryz.ntmps34
  go_wp2_with fail
  refine (zw next 1 1000000 _).mono ?_
  rintro e w1 ⟨rfl,rfl⟩
  go_wp2_with fail
  generalize (w.alloc (Obj.cells #[.int .i64 next,.slice a l.length cap] 32)) = W1 at HB0 HX ⊢
  have hsw:=(za HX).2
  go_loopw [3] (fun iv wr=>∃ (i:Nat) (last:Int),i ≤ l.length∧iv = .int .i64 i∧Hid (allR next 0 l = allR next last (l.drop i))∧0 ≤ last∧(i = 0→last = 0)∧(∀ j,i = j + 1→∃ p,l[j]? = some p∧p.id = last)∧Below W1.heap.size W1 wr) (fun iv _=>l.length - (intOf iv).toNat)
  case atStart=>exact ⟨0,0,Nat.zero_le _,rfl,rfl,Int.le_refl _,fun _=>rfl,fun j hj=>by omega,Below.refl _ _⟩
  case round =>
    obtain ⟨i,last,hi,rfl,hall,hl0,hz,hp,hbel⟩:=hrel
    have HB:=hide hbel
    have HP:=hide hp
    have hbox:=zb (za HX).1 hbel hsw
    have x0:wr.cell? ⟨w.heap.size,0,none⟩ = some (.int .i64 next):=hbox 0 _ rfl
    have x1:wr.cell? ⟨w.heap.size,1,none⟩ = some (.slice a l.length cap):=hbox 1 _ rfl
    have HBOX:=hide hbox
    clear hbel hp hbox
    by_cases hlt:i < l.length
    · obtain ⟨c,hkc⟩:∃ c,l[i]? = some c:=⟨_,List.getElem?_eq_getElem hlt⟩
      have hdr:l.drop i = c :: l.drop (i + 1):=by
        obtain ⟨h1,rfl⟩:=List.getElem?_eq_some_iff.1 hkc
        exact List.drop_eq_getElem_cons h1
      have HI:Hid (allR next 0 l = (ordB c && decide (last < c.id) && decide (c.id < next) && allR next c.id (l.drop (i + 1)))):=by
        have:=za hall
        rw [hdr] at this
        exact this
      obtain ⟨b,off,rfl,hb,hcl⟩:=za HC i c hkc
      have hb01:=(za HB0).trans ((za HB).mono (za HB0).size)
      obtain ⟨g0,g1,g2,g3,g4,g5⟩:=zy (zb hcl hb01 hb)
      have HS:=hide (za HGG c (List.mem_of_getElem? hkc))
      have HKC:=hide hkc
      have hlt':(i:Int) < l.length:=by omega
      have hszr:=(za HB).size
      have HB01:=hide hb01
      clear hkc hcl hdr hall hb01
      go_wp2_with fail
      generalize hW4:(wr.alloc (Obj.cells #[.int .i64 c.id,.int .i64 c.side,.int .i64 c.ticks,.int .i64 c.left,.int .i64 c.life,.string c.tag] 100)) = W4
      have HW4:Hid (W4.rangeAt wr.heap.size 0 c.vs∧W4.rangeAt w.heap.size 0 [.int .i64 next,.slice (some ⟨b,off,none⟩) l.length cap]∧Below W1.heap.size W1 W4∧W4.heap.size = wr.heap.size + 1∧Below wr.heap.size wr W4):=by
        subst hW4
        have hbb:Below wr.heap.size wr (wr.alloc (Obj.cells #[.int .i64 c.id,.int .i64 c.side,.int .i64 c.ticks,.int .i64 c.left,.int .i64 c.life,.string c.tag] 100)):=(Below.refl _ _).alloc (Nat.le_refl _) _
        exact ⟨zh wr c.vs _,zb (za HBOX) hbb (by omega),(za HB).alloc hszr _,ze _ _,hbb⟩
      have HCEL:Hid (∀ w',W4.grownBy w' none→w'.rangeAt wr.heap.size 0 c.vs∧w'.rangeAt w.heap.size 0 [.int .i64 next,.slice (some ⟨b,off,none⟩) l.length cap]):=fun w' h' =>
        ⟨zu (za HW4).1 h' (by rw [(za HW4).2.2.2.1]; omega) (by simp),zu (za HW4).2.1 h' (by rw [(za HW4).2.2.2.1]; omega) (by simp)⟩
      have HPREV:Hid (∀ j p,i = j + 1→l[j]? = some p→∀ w',W4.grownBy w' none→w'.rangeAt b (off + j * 6) p.vs):=fun j p hj hpj w' h'=>by
        obtain ⟨b',off',hbe,hb',hcl'⟩:=za HC j p hpj
        simp only [Option.some.injEq,Addr.mk.injEq,and_true] at hbe
        obtain ⟨rfl,rfl⟩:=hbe
        exact zu (zb (zb hcl' (za HB01) hb) (za HW4).2.2.2.2 (Nat.lt_of_lt_of_le hb (za HB01).size)) h' (by rw [(za HW4).2.2.2.1]; have:=(za HB01).size; omega) (by simp)
      have HORD:Hid (∀ W,Calls Tryz.prog 60 #[.agg #[.int .i64 c.id,.int .i64 c.side,.int .i64 c.ticks,.int .i64 c.left,.int .i64 c.life,.string c.tag]] W fun e w'=>e = .returned (.bool (ordB c))∧W.grownBy w' none):=fun W=>(l03Order_any c W (za HS)).mono fun e w' h=>⟨h.1,zac h.2 (Nat.le_refl _)⟩
      clear hW4 g0 g1 g2 g3 g4 g5 x0 x1
      haveI:=gw_ne W4
      have k0:∀ u:GW W4,u.val.cell? ⟨wr.heap.size,0,none⟩ = some (.int .i64 c.id):=fun u=>(za HCEL u.val u.property).1 0 _ rfl
      have k1:∀ u:GW W4,u.val.cell? ⟨wr.heap.size,1,none⟩ = some (.int .i64 c.side):=fun u=>(za HCEL u.val u.property).1 1 _ rfl
      have k2:∀ u:GW W4,u.val.cell? ⟨wr.heap.size,2,none⟩ = some (.int .i64 c.ticks):=fun u=>(za HCEL u.val u.property).1 2 _ rfl
      have k3:∀ u:GW W4,u.val.cell? ⟨wr.heap.size,3,none⟩ = some (.int .i64 c.left):=fun u=>(za HCEL u.val u.property).1 3 _ rfl
      have k4:∀ u:GW W4,u.val.cell? ⟨wr.heap.size,4,none⟩ = some (.int .i64 c.life):=fun u=>(za HCEL u.val u.property).1 4 _ rfl
      have k5:∀ u:GW W4,u.val.cell? ⟨wr.heap.size,5,none⟩ = some (.string c.tag):=fun u=>(za HCEL u.val u.property).1 5 _ rfl
      have m0:∀ u:GW W4,u.val.cell? ⟨w.heap.size,0,none⟩ = some (.int .i64 next):=fun u=>(za HCEL u.val u.property).2 0 _ rfl
      have m1:∀ u:GW W4,u.val.cell? ⟨w.heap.size,1,none⟩ = some (.slice (some ⟨b,off,none⟩) l.length cap):=fun u=>(za HCEL u.val u.property).2 1 _ rfl
      cases ho:ordB c
      · have HN:Hid (allR next 0 l = false):=by
          show _ = _
          rw [za HI,ho]; simp
        refine zaL (W:=W4) (by kernel_rfl) (by kernel_rfl) (World.grownBy.refl _ _) ?_
        repeat (go_big_quiet_step ((rename_i u; refine (za HORD u.val).mono ?_; rintro e w3 ⟨rfl,hg3⟩; exact ⟨rfl,⟨w3,u.property.trans hg3⟩,rfl⟩)))
        refine wpQuiet_nil ?_
        rintro _ ⟨⟨w5,hg5⟩,rfl⟩
        have HB5:=hide ((za HW4).2.2.1.grown hg5 (by rw [(za HW4).2.2.2.1]; omega) (fun g hg=>by cases hg))
        clear hg5
        go_wp2_with fail
        go_ret
        exact ⟨zl (by rw [okS,za HN]; simp),(za HB0).trans ((za HB5).mono (za HB0).size)⟩
      by_cases hc1:c.id < 1
      · have hlc:¬ last < c.id:=by omega
        have hd1:decide (c.id < 1) = true:=by simpa using hc1
        have HN:Hid (allR next 0 l = false):=by
          show _ = _
          rw [za HI,decide_eq_false hlc]; simp
        refine zaL (W:=W4) (by kernel_rfl) (by kernel_rfl) (World.grownBy.refl _ _) ?_
        repeat (go_big_quiet_step ((rename_i u; refine (za HORD u.val).mono ?_; rintro e w3 ⟨rfl,hg3⟩; exact ⟨rfl,⟨w3,u.property.trans hg3⟩,rfl⟩)))
        refine wpQuiet_nil ?_
        rintro _ ⟨⟨w5,hg5⟩,rfl⟩
        have HB5:=hide ((za HW4).2.2.1.grown hg5 (by rw [(za HW4).2.2.2.1]; omega) (fun g hg=>by cases hg))
        clear hg5
        go_wp2_with fail
        go_ret
        exact ⟨zl (by rw [okS,za HN]; simp),(za HB0).trans ((za HB5).mono (za HB0).size)⟩
      have hd1:decide (c.id < 1) = false:=by simpa using hc1
      by_cases hcn:c.id < next
      rotate_left
      · have hd2:decide (next ≤ c.id) = true:=by simp; omega
        have HN:Hid (allR next 0 l = false):=by
          show _ = _
          rw [za HI,decide_eq_false hcn]; simp
        refine zaL (W:=W4) (by kernel_rfl) (by kernel_rfl) (World.grownBy.refl _ _) ?_
        repeat (go_big_quiet_step ((rename_i u; refine (za HORD u.val).mono ?_; rintro e w3 ⟨rfl,hg3⟩; exact ⟨rfl,⟨w3,u.property.trans hg3⟩,rfl⟩)))
        refine wpQuiet_nil ?_
        rintro _ ⟨⟨w5,hg5⟩,rfl⟩
        have HB5:=hide ((za HW4).2.2.1.grown hg5 (by rw [(za HW4).2.2.2.1]; omega) (fun g hg=>by cases hg))
        clear hg5
        go_wp2_with fail
        go_ret
        exact ⟨zl (by rw [okS,za HN]; simp),(za HB0).trans ((za HB5).mono (za HB0).size)⟩
      have hd2:decide (next ≤ c.id) = false:=by simpa using hcn
      cases i with
      | zero =>
        have hlc:last < c.id:=by have:=hz rfl; omega
        have HN:Hid (allR next 0 l = allR next c.id (l.drop (0 + 1))):=by
          show _ = _
          rw [za HI,ho,decide_eq_true hlc,decide_eq_true hcn]; rfl
        refine zaL (W:=W4) (by kernel_rfl) (by kernel_rfl) (World.grownBy.refl _ _) ?_
        repeat (go_big_quiet_step ((rename_i u; refine (za HORD u.val).mono ?_; rintro e w3 ⟨rfl,hg3⟩; exact ⟨rfl,⟨w3,u.property.trans hg3⟩,rfl⟩)))
        refine wpQuiet_nil ?_
        rintro _ ⟨⟨w5,hg5⟩,rfl⟩
        have HB5:=hide ((za HW4).2.2.1.grown hg5 (by rw [(za HW4).2.2.2.1]; omega) (fun g hg=>by cases hg))
        clear hg5
        go_wp2_with fail
        go_roundw
        case rel=>exact ⟨0 + 1,c.id,by omega,by go_num,za HN,by omega,fun h=>by omega,fun j' hj'=>⟨c,by rw [show j' = 0 by omega]; exact za HKC,rfl⟩,za HB5⟩
        case measure=>simp [intOf]; omega
      | succ j =>
        obtain ⟨p,hpj,hpl⟩:=za HP j rfl
        have q0:∀ u:GW W4,u.val.cell? ⟨b,off + j * 6,none⟩ = some (.int .i64 p.id):=fun u=>(zy (za HPREV j p rfl hpj u.val u.property)).1
        have hij:((j + 1:Nat):Int) = (j:Int) + 1:=by omega
        have hjl:(j:Int) < l.length:=by omega
        have hwj:IntKind.i64.wrap ((j:Int) + 1 - 1) = (j:Int):=by rw [IntKind.wrap_i64]; omega
        have hpos:decide ((0:Int) < (j:Int) + 1) = true:=by rw [decide_eq_true_eq]; omega
        clear hpj
        by_cases hlc:last < c.id
        · have hd3:decide (c.id ≤ p.id) = false:=by rw [hpl]; simpa using hlc
          have HN:Hid (allR next 0 l = allR next c.id (l.drop ((j + 1) + 1))):=by
            show _ = _
            rw [za HI,ho,decide_eq_true hlc,decide_eq_true hcn]; rfl
          refine zaL (W:=W4) (by kernel_rfl) (by kernel_rfl) (World.grownBy.refl _ _) ?_
          repeat (go_big_quiet_step ((rename_i u; refine (za HORD u.val).mono ?_; rintro e w3 ⟨rfl,hg3⟩; exact ⟨rfl,⟨w3,u.property.trans hg3⟩,rfl⟩)))
          refine wpQuiet_nil ?_
          rintro _ ⟨⟨w5,hg5⟩,rfl⟩
          have HB5:=hide ((za HW4).2.2.1.grown hg5 (by rw [(za HW4).2.2.2.1]; omega) (fun g hg=>by cases hg))
          clear hg5
          go_wp2_with fail
          go_roundw
          case rel=>exact ⟨(j + 1) + 1,c.id,by omega,by go_num,za HN,by omega,fun h=>by omega,fun j' hj'=>⟨c,by rw [show j' = (j + 1) by omega]; exact za HKC,rfl⟩,za HB5⟩
          case measure=>simp [intOf]; omega
        · have hd3:decide (c.id ≤ p.id) = true:=by rw [hpl]; simpa using hlc
          have HN:Hid (allR next 0 l = false):=by
            show _ = _
            rw [za HI,decide_eq_false hlc]; simp
          refine zaL (W:=W4) (by kernel_rfl) (by kernel_rfl) (World.grownBy.refl _ _) ?_
          repeat (go_big_quiet_step ((rename_i u; refine (za HORD u.val).mono ?_; rintro e w3 ⟨rfl,hg3⟩; exact ⟨rfl,⟨w3,u.property.trans hg3⟩,rfl⟩)))
          refine wpQuiet_nil ?_
          rintro _ ⟨⟨w5,hg5⟩,rfl⟩
          have HB5:=hide ((za HW4).2.2.1.grown hg5 (by rw [(za HW4).2.2.2.1]; omega) (fun g hg=>by cases hg))
          clear hg5
          go_wp2_with fail
          go_ret
          exact ⟨zl (by rw [okS,za HN]; simp),(za HB0).trans ((za HB5).mono (za HB0).size)⟩
    · have hallT:allR next 0 l = true:=by
        have h:=za hall
        rw [List.drop_of_length_le (by omega)] at h
        rw [h]; rfl
      have HALL:=hide hallT
      have HRI:=hide (zbO hallT).1
      have HB01:=hide ((za HB0).trans ((za HB).mono (za HB0).size))
      have HRr:=hide (zj (za HR) (za HB01) (Nat.le_refl _))
      have hszr:w.heap.size < wr.heap.size:=Nat.lt_of_lt_of_le hsw (za HB).size
      clear hall hallT
      go_wp2_with fail
      refine (l03Levels_any _ l wr (za HRr) (by omega)).mono ?_
      rintro e w3 ⟨rfl,hg3⟩
      have HG3:=hide hg3
      have z1:w3.cell? ⟨w.heap.size,1,none⟩ = some (.slice a l.length cap):=hg3.cell x1 (by simp)
      have HR3:=hide (rdR_grown (za HRr) hg3 (fun g hg=>by cases hg))
      clear hg3 x0 x1
      by_cases h8:nlev l ≤ 8
      rotate_left
      · have h8':(8:Int) < (nlev l:Nat):=by omega
        go_wp2_with fail
        go_ret
        refine ⟨zl (by simp [okS,h8]),?_⟩
        exact (za HB01).trans ((zbw (za HG3) (fun g hg=>by cases hg) (Nat.le_refl _)).mono (za HB01).size)
      have h8':¬ ((8:Int) < (nlev l:Nat)):=by omega
      have HOK:Hid (okS next l = noX l):=by
        show _ = _
        rw [okS,h1,decide_eq_true h2,za HALL,decide_eq_true h8]; rfl
      go_wp2_with fail
      refine (zck _ l 1 w3 (za HR3) (za HRI) (by omega)).mono ?_
      rintro e w4 ⟨kb,rfl,hf1,hg4⟩
      have HG4:=hide ((za HG3).trans hg4)
      have y1:w4.cell? ⟨w.heap.size,1,none⟩ = some (.slice a l.length cap):=hg4.cell z1 (by simp)
      have HR4:=hide (rdR_grown (za HR3) hg4 (fun g hg=>by cases hg))
      have HF1:=hide hf1
      clear hg4 hf1 z1
      go_wp2_with fail
      refine (zck _ l 2 w4 (za HR4) (za HRI) (by omega)).mono ?_
      rintro e w5 ⟨ks,rfl,hf2,hg5⟩
      have HG5:=hide ((za HG4).trans hg5)
      have v1:w5.cell? ⟨w.heap.size,1,none⟩ = some (.slice a l.length cap):=hg5.cell y1 (by simp)
      have HF2:=hide hf2
      have HBE:=hide ((za HB01).trans ((zbw (za HG5) (fun g hg=>by cases hg) (Nat.le_refl _)).mono (za HB01).size))
      clear hg5 hf2 y1
      rcases frPre_end (za HF1) with ⟨rfl,hno1⟩ | ⟨ib,ob,rfl,hib,hfb⟩
      · have HN:=hide (noX_none1 hno1)
        clear hno1
        go_wp2_with fail
        go_quiet (fail)
        go_wp2_with fail
        go_ret
        exact ⟨zl (by rw [za HOK,za HN]),⟨(za HBE).os,(za HBE).tape,(za HBE).output,(za HBE).size,(za HBE).block⟩⟩
      have hib0:decide ((ib:Int) < 0) = false:=by simp
      rcases frPre_end (za HF2) with ⟨rfl,hno2⟩ | ⟨is,os,rfl,his,hfs⟩
      · have HN:=hide (noX_none2 hno2)
        clear hno2
        go_wp2_with fail
        go_quiet (fail)
        go_wp2_with fail
        go_ret
        exact ⟨zl (by rw [za HOK,za HN]),⟨(za HBE).os,(za HBE).tape,(za HBE).output,(za HBE).size,(za HBE).block⟩⟩
      have his0:decide ((is:Int) < 0) = false:=by simp
      have HN:=hide (noX_fronts hfb hfs)
      obtain ⟨b,off,rfl,hb,hcb⟩:=za HC ib ob hfb.1
      obtain ⟨b',off',hbe,hb',hcs⟩:=za HC is os hfs.1
      simp only [Option.some.injEq,Addr.mk.injEq,and_true] at hbe
      obtain ⟨rfl,rfl⟩:=hbe
      obtain ⟨-,-,t1,-⟩:=zy (zb hcb (za HBE) hb)
      obtain ⟨-,-,t2,-⟩:=zy (zb hcs (za HBE) hb)
      have hib':(ib:Int) < l.length:=by omega
      have his':(is:Int) < l.length:=by omega
      clear hfb hfs hcb hcs
      go_wp2_with fail
      go_quiet (fail)
      go_wp2_with fail
      go_ret
      exact ⟨zl (by rw [za HOK,za HN]),⟨(za HBE).os,(za HBE).tape,(za HBE).output,(za HBE).size,(za HBE).block⟩⟩
end Go.Proofs.YtdfihaabhichdaaGreat
namespace Go.Proofs.YtdfihaabhichdaaGreat
open Go.RowKit

def nanB (x:Nat):Bool:=FloatKind.f64.format.order x x != some Ordering.eq
theorem read_rung (neg:Bool) (r:Nat) (h:r ≤ Ieee.double.infRung):¬ (Ieee.double.read (Ieee.double.word neg r)).isNaN = true:=by
  have h1:Ieee.double.infRung = 9218868437227405312:=by decide
  have h2:Ieee.double.signWeight = 9223372036854775808:=by decide
  have hr:Ieee.double.word neg r % Ieee.double.signWeight = r:=by
    unfold Ieee.Format.word
    cases neg <;> simp only [h2,if_true,if_false,Bool.false_eq_true] <;> omega
  unfold Ieee.Format.read
  simp only [hr]
  split
  · simp [Ieee.Datum.isNaN]
  · split
    · simp [Ieee.Datum.isNaN]
    · rw [if_pos (by omega)]; simp [Ieee.Datum.isNaN]
theorem datum_self (d:Ieee.Datum) (h:¬ d.isNaN = true):d.order d = some Ordering.eq:=by
  cases d with
  | nan s f=>simp [Ieee.Datum.isNaN] at h
  | infinity s=>cases s <;> rfl
  | number s m i=>simp [Ieee.Datum.order,Std.ReflCmp.compare_self]
theorem ofInt_order (n:Int):FloatKind.f64.format.order (floatOfInt .f64 n) (floatOfInt .f64 n) = some Ordering.eq:=by
  refine datum_self _ ?_
  show ¬ (Ieee.double.read (Ieee.double.nearest (n < 0) n.natAbs 0)).isNaN = true
  unfold Ieee.Format.nearest
  split
  · exact read_rung _ _ (Nat.zero_le _)
  · exact read_rung _ _ (Nat.min_le_right _ _)
end Go.Proofs.YtdfihaabhichdaaGreat
namespace Go.Proofs.YtdfihaabhichdaaGreat
open Go.RowKit

theorem fbits (x:Nat) (w:World):(callFunc 150 #[.float .f64 x]).run Tryz.prog w = .ok (.value (.int .u64 x)) w:=by
  rw [run_callFunc_extern (e:=Extern.MathFloatBits.float64bits) Tryz.func150 (by kernel_rfl) (by kernel_rfl) (by kernel_rfl) (by kernel_rfl)]
  rfl
theorem isNaN_any (x:Nat) (w:World) :
    Calls Tryz.prog 158 #[.float .f64 x] w fun e w'=>e = .returned (.bool (nanB x))∧w' = w:=by
  go_enter Tryz.func158,Tryz.ntmps158
  go_wp2
  go_ret
  exact ⟨rfl,rfl⟩
end Go.Proofs.YtdfihaabhichdaaGreat
namespace Go.Proofs.YtdfihaabhichdaaGreat
open Go.RowKit

def fbit (x:Nat):Nat:=if nanB x = true then 9221120237041090560 else x
theorem floatBits_any (x:Nat) (w:World) :
    Calls Tryz.prog 151 #[.float .f64 x] w fun e w'=>e = .returned (.int .u64 (fbit x))∧w' = w:=by
  have hb:=fbits
  cases h:nanB x
  case true =>
    have HX:Hid (fbit x = 9221120237041090560):=if_pos h
    go_enter Tryz.func151,Tryz.ntmps151
    go_wp2_with (go_at_call 158; refine (isNaN_any _ _).mono ?_; rintro e w' ⟨rfl,rfl⟩)
    go_ret
    exact ⟨by rw [za HX]; rfl,rfl⟩
  case false =>
    have HX:Hid (fbit x = x):=if_neg (by rw [h]; decide)
    go_enter Tryz.func151,Tryz.ntmps151
    go_wp2_with (go_at_call 158; refine (isNaN_any _ _).mono ?_; rintro e w' ⟨rfl,rfl⟩)
    go_ret
    exact ⟨by rw [za HX]; rfl,rfl⟩
end Go.Proofs.YtdfihaabhichdaaGreat
