/-
  The front of a tree: proved by walking the function.
-/
import Derived.Test.YtdfihaabhichdaaGreatSj05
import Derived.Test.YtdfihaabhichdaaGreatSj10
import Derived.Test.YtdfihaabhichdaaGreatSj11
import Derived.Laws.EntriesVeiled
namespace Go.Proofs.YtdfihaabhichdaaGreat
open Go.RowKit
set_option linter.unusedVariables false

theorem best_s {S:TS}:∀ {t:Tr} {v:Nat},Rep S.nd t v→t ≠ .nil→v ∈ t.hs∧((S.nd v).be = 0→t.hs.head? = some v)∧((S.nd v).be ≠ 0→∃ l,Rep S.nd l (S.nd v).be∧l ≠ .nil∧l.hs.head? = t.hs.head?∧l.hs.length < t.hs.length∧∀ a ∈ l.hs,a ∈ t.hs)
  | .nil,_,_,h=>absurd rfl h
  | .node h l r,v,⟨e,h0,h1,h2⟩,_=>by
    subst e
    refine ⟨by simp [Tr.hs],fun hb=>?_,fun hb=>⟨l,h1,?_,?_,?_,fun a ha=>by simp [Tr.hs,ha]⟩⟩
    · rw [hb] at h1; obtain rfl:=rep_nil h1; rfl
    · rintro rfl; exact hb h1
    · cases l with
      | nil=>exact absurd h1 hb
      | node a l' r'=>simp [Tr.hs]
    · simp [Tr.hs]
def FrI_s (S:TS) (hd:Option Nat) (w0:World) (k:Nat) (p:Value) (wr:World):Prop:=∃ (t:Tr) (v:Nat),p = .int .i64 v∧Rep S.nd t v∧t ≠ .nil∧t.hs.head? = hd∧t.hs.length ≤ k∧(∀ a ∈ t.hs,a < 21)∧w0 = wr
set_option maxRecDepth 100000 in
set_option maxHeartbeats 400000 in
theorem front_s (b:Nat) (sd:Int) (seq:List Od) (w:World) (h:zai 199 false w b sd seq) (hn:seq.length ≤ 20) :
    Calls Tryz.prog 135 #[.pointer (some ⟨b,0,none⟩)] w fun e w'=>e = .returned (frOf (quOf false seq))∧Below w.heap.size w w':=by
  obtain ⟨S,t,hT,hi,hq,hlc⟩:=h
  have hou:=tree_orders hi hq
  have hh21:∀ a ∈ t.hs,a < 21:=fun a ha=>by have:=(hi.range a ha).2; omega
  have HT:=hide hT
  have hroot:=hT.root
  have hbs:=tm_lt hT
  by_cases hr0:S.root = 0
  · have ht:=hi.rep
    rw [hr0] at ht hroot
    obtain rfl:=rep_nil ht
    have HF:Hid (frOf (quOf false seq) = .tuple #[zOdv,.bool false]):=by show _ = _; rw [← hou]; rfl
    clear hi hq hlc hou hT ht hh21
    go_enter Tryz.func135,Tryz.ntmps135
    go_wp2_with fail
    go_returns
    refine ⟨by rw [za HF]; rfl,?_⟩
    go_grown
  · have hne:t ≠ .nil:=by rintro rfl; exact hr0 hi.rep
    have HI:=hide hi
    have HQ:=hide hq
    have HOU:=hide hou
    have HH:=hide hh21
    have HNE:=hide hne
    have hr0':¬ ((S.root:Int) = 0):=by omega
    clear hi hq hlc hou hT hh21 hne
    go_enter Tryz.func135,Tryz.ntmps135
    go_wp2_with fail
    go_loopg [4] (t.hs.length) (fun k p wr=>FrI_s S t.hs.head? (w.alloc (Obj.cells #[.int .i64 0,.int .i64 0,.int .i64 0,.int .i64 0,.int .i64 0,.string ⟨#[]⟩] 100)) k p wr)
    case atStart=>exact ⟨t,S.root,rfl,(za HI).rep,za HNE,rfl,Nat.le_refl _,za HH,rfl⟩
    case round =>
      obtain ⟨t1,v,rfl,h1,h2,h3,h4,h5,rfl⟩:=hrel
      obtain ⟨b1,b2,b3⟩:=best_s h1 h2
      have hv21:=h5 v b1
      have hv21':(v:Int) < 21:=by omega
      have hTW:=zam (za HT) (Below.heap_alloc w (Obj.cells #[.int .i64 0,.int .i64 0,.int .i64 0,.int .i64 0,.int .i64 0,.string ⟨#[]⟩] 100) b hbs)
      obtain ⟨-,-,-,-,n4,-,n6,-⟩:=zQ (hTW.nd v hv21)
      have H3:=hide h3
      have H4:=hide h4
      have H5:=hide h5
      by_cases hbe:(S.nd v).be = 0
      · have hhd:=b2 hbe
        rw [h3] at hhd
        have hvm:v ∈ t.hs:=List.mem_of_head? hhd
        have hQ:=(za HQ).q v hvm
        obtain ⟨e,rest,hqs⟩:∃ e rest,qs seq (S.nd v).ticks = e :: rest:=by
          cases hqq:qs seq (S.nd v).ticks with
          | nil=>exact absurd hqq hQ.ne
          | cons e rest=>exact ⟨e,rest,rfl⟩
        have hch:=hQ.chain
        rw [hqs] at hch
        obtain ⟨he,he0,-⟩:=hch
        have he21:e < 21:=by
          have:=(zbk (S.nd v).ticks seq 1 e (by have h:e ∈ qs seq (S.nd v).ticks:=(by rw [hqs]; simp); exact h)).2.1
          omega
        have he21':(e:Int) < 21:=by omega
        have HF:Hid (frOf (quOf false seq) = .tuple #[(S.qo e).od.val,.bool true]):=by
          show _ = _
          rw [← za HOU]
          obtain ⟨tl,htl⟩:∃ tl,t.hs = v :: tl:=by
            cases hh:t.hs with
            | nil=>rw [hh] at hhd; simp at hhd
            | cons a r=>rw [hh] at hhd; simp at hhd; rw [hhd]; exact ⟨r,rfl⟩
          rw [htl,List.flatMap_cons,hqs]
          rfl
        obtain ⟨q0,q1,q2,q3,q4,q5,-⟩:=zct (hTW.qo e he21)
        rw [he] at n6
        rw [hbe] at n4
        clear h1 h2 h3 h4 h5 b1 b2 b3 hTW hhd hvm hQ hqs he hbe
        go_wp2_with fail
        go_region
        go_wp2_with fail
        go_returns
        refine ⟨by rw [za HF]; rfl,?_⟩
        go_grown
      · obtain ⟨l,l1,l2,l3,l4,l5⟩:=b3 hbe
        have hbe':¬ (((S.nd v).be:Int) = 0):=by omega
        have HL:Hid (Rep S.nd l (S.nd v).be∧l ≠ .nil∧l.hs.head? = t1.hs.head?∧l.hs.length < t1.hs.length∧∀ a ∈ l.hs,a ∈ t1.hs):=⟨l1,l2,l3,l4,l5⟩
        clear h1 h2 h3 h4 h5 b1 b2 b3 hTW l1 l2 l3 l4 l5 hbe
        go_wp2_with fail
        go_roundg (l.hs.length)
        case measure=>have:=za H4; have:=(za HL).2.2.2.1; omega
        case rel=>exact ⟨l,_,rfl,(za HL).1,(za HL).2.1,(za HL).2.2.1.trans (za H3),Nat.le_refl _,fun a ha=>za H5 a ((za HL).2.2.2.2 a ha),rfl⟩
end Go.Proofs.YtdfihaabhichdaaGreat
namespace Go.Proofs.YtdfihaabhichdaaGreat
open Go.RowKit
set_option linter.unusedVariables false

def zbn (b:Nat):Value:=.agg #[.func (.func 135) #[.pointer (some ⟨b,0,none⟩)] #[],.func (.func 136) #[.pointer (some ⟨b,0,none⟩)] #[],.func (.func 137) #[.pointer (some ⟨b,0,none⟩)] #[]]
theorem ask_s (b:Nat) (w:World) :
    Calls Tryz.prog 109 #[.pointer (some ⟨b,0,none⟩)] w fun e w'=>e = .returned (zbn b)∧Below w.heap.size w w':=by
  have hmf:∀ (fn:Fn) (first cap:Array Value) (w:World),(Instr.makeFunc fn first cap).run Tryz.prog w = .ok (.func fn first cap) w:=fun _ _ _ _=>rfl
  go_enter Tryz.func109,Tryz.ntmps109
  go_wp2_with fail
  go_returns
  refine ⟨rfl,?_⟩
  go_grown
end Go.Proofs.YtdfihaabhichdaaGreat
namespace Go.Proofs.YtdfihaabhichdaaGreat
open Go.RowKit
set_option linter.unusedVariables false

def idsR (next:Int):Int→List Od→Bool
  | _,[]=>true
  | last,o :: r=>decide (last < o.id) && decide (o.id < next) && idsR next o.id r
set_option maxRecDepth 100000 in
set_option maxHeartbeats 400000 in
theorem idsRise_any (next:Int) (v:Value) (l:List Od) (w:World) (hr:RdR Od.vs 6 w v l) :
    Calls Tryz.prog 73 #[.agg #[.int .i64 next,v]] w fun e w'=>e = .returned (.bool (idsR next 0 l))∧Below w.heap.size w w':=by
  obtain ⟨a,cap,rfl,hlen,hc⟩:=hr
  have hcell:∀ (k:Nat) (c:Od),l[k]? = some c→∃ b off,a = some ⟨b,off,none⟩∧b < w.heap.size∧w.rangeAt b (off + k * 6) c.vs:=by
    intro k c hk
    obtain ⟨b,off,h1,h2,h3⟩:=hc (by intro h; rw [h] at hk; simp at hk)
    exact ⟨b,off,h1,h2,h3 k c hk⟩
  have HC:=hide hcell
  clear hcell hc
  have HB0:Hid (Below w.heap.size w (w.alloc (Obj.cells #[.int .i64 next,.slice a l.length cap] 32))):=(Below.refl _ _).alloc (Nat.le_refl _) _
  have HR0:Hid ((w.alloc (Obj.cells #[.int .i64 next,.slice a l.length cap] 32)).cell? ⟨w.heap.size,0,none⟩ = some (.int .i64 next)∧w.heap.size < (w.alloc (Obj.cells #[.int .i64 next,.slice a l.length cap] 32)).heap.size):=⟨zh w [.int .i64 next,.slice a l.length cap] 32 0 _ rfl,by rw [ze]; omega⟩
  go_enter Tryz.func73,Tryz.ntmps73
  go_wp2_with fail
  generalize (w.alloc (Obj.cells #[.int .i64 next,.slice a l.length cap] 32)) = W1 at HB0 HR0 ⊢
  have hs1:=(za HR0).2
  go_loopw [3,9] (fun lv iv wr=>∃ (k:Nat) (last:Int),lv = .int .i64 last∧k ≤ l.length∧iv = .int .i64 k∧Hid (idsR next 0 l = idsR next last (l.drop k))∧Below W1.heap.size W1 wr) (fun _ iv _=>l.length - (intOf iv).toNat)
  case atStart=>exact ⟨0,0,rfl,Nat.zero_le _,rfl,by simp [Hid],Below.refl _ _⟩
  case round =>
    obtain ⟨k,last,rfl,hk,rfl,hids,hbel⟩:=hrel
    have HB:=hide hbel
    clear hbel
    by_cases hlt:k < l.length
    · obtain ⟨c,hkc⟩:∃ c,l[k]? = some c:=⟨_,List.getElem?_eq_getElem hlt⟩
      have hdr:l.drop k = c :: l.drop (k + 1):=by
        obtain ⟨h1,rfl⟩:=List.getElem?_eq_some_iff.1 hkc
        exact List.drop_eq_getElem_cons h1
      have HI:Hid (idsR next 0 l = (decide (last < c.id) && decide (c.id < next) && idsR next c.id (l.drop (k + 1)))):=by
        have:=za hids
        rw [hdr] at this
        exact this
      obtain ⟨b,off,rfl,hb,hcl⟩:=za HC k c hkc
      obtain ⟨g0,g1,g2,g3,g4,g5⟩:=zy (zb hcl ((za HB0).trans ((za HB).mono (za HB0).size)) hb)
      have hbox:=((za HB).cell (p:=⟨w.heap.size,0,none⟩) hs1).trans (za HR0).1
      have hlt':(k:Int) < l.length:=by omega
      have hszr:=(za HB).size
      have hboxW:(wr.alloc (Obj.cells #[.int .i64 c.id,.int .i64 c.side,.int .i64 c.ticks,.int .i64 c.left,.int .i64 c.life,.string c.tag] 100)).cell? ⟨w.heap.size,0,none⟩ = some (.int .i64 next):=(Below.cell ((Below.refl wr.heap.size wr).alloc (Nat.le_refl _) _) (p:=⟨w.heap.size,0,none⟩) (show w.heap.size < wr.heap.size by omega)).trans hbox
      clear hkc hcl hb hdr hids
      by_cases h1:last < c.id
      · have h1':decide (c.id ≤ last) = false:=by simpa using h1
        by_cases h2:c.id < next
        · have h2':¬ (next ≤ c.id):=by omega
          have HN:Hid (idsR next 0 l = idsR next c.id (l.drop (k + 1))):=by
            have:=za HI
            rw [decide_eq_true h1,decide_eq_true h2,Bool.true_and,Bool.true_and] at this
            exact this
          go_wp2_with fail
          go_roundw
          case rel=>exact ⟨k + 1,c.id,rfl,by omega,by go_num,za HN,(za HB).alloc hszr _⟩
          case measure=>simp [intOf]; omega
        · have h2':next ≤ c.id:=by omega
          have HN:Hid (idsR next 0 l = false):=by
            have:=za HI
            rw [decide_eq_false h2,Bool.and_false,Bool.false_and] at this
            exact this
          go_wp2_with fail
          go_ret
          exact ⟨zl (za HN).symm,(za HB0).trans (((za HB).alloc hszr _).mono (za HB0).size)⟩
      · have h1':decide (c.id ≤ last) = true:=by simp; omega
        have HN:Hid (idsR next 0 l = false):=by
          have:=za HI
          rw [decide_eq_false h1,Bool.false_and,Bool.false_and] at this
          exact this
        go_wp2_with fail
        go_ret
        exact ⟨zl (za HN).symm,(za HB0).trans (((za HB).alloc hszr _).mono (za HB0).size)⟩
    · go_wp2_with fail
      go_ret
      have h:=za hids
      rw [List.drop_of_length_le (by omega)] at h
      exact ⟨zl (by rw [h]; rfl),(za HB0).trans ((za HB).mono (za HB0).size)⟩
set_option maxHeartbeats 400000 in
theorem sideOf_buy (next:Int) (v:Value) (l:List Od) (w:World) (hr:RdR Od.vs 6 w v l) (hn:l.length ≤ 20) (hl:∀ o' ∈ l,0 ≤ o'.left∧o'.left ≤ 1000000) :
    Calls Tryz.prog 75 #[.agg #[.int .i64 next,v],.int .i64 1] w fun e w' =>
      ∃ b,e = .returned (zbm b)∧zai 196 true w' b 1 (zr l 1)∧w.heap.size ≤ b∧Below w.heap.size w w':=by
  have HR:=hide hr
  have HL:=hide hl
  obtain ⟨a,cap,rfl,hlen,hc⟩:=hr
  have hs1:(w.alloc (Obj.cells #[.int .i64 next,.slice a l.length cap] 32)).heap.size = w.heap.size + 1:=ze _ _
  have r1:=zh (w.alloc (Obj.cells #[.int .i64 next,.slice a l.length cap] 32)) [.nilFunc,.nilFunc,.nilFunc] 117
  have t1:=zaj (n:=3) (heap_alloc_new (w.alloc (Obj.cells #[.int .i64 next,.slice a l.length cap] 32)) (Obj.cells #[.nilFunc,.nilFunc,.nilFunc] 117)) (by simp)
  rw [hs1] at r1 t1
  have hs2:((w.alloc (Obj.cells #[.int .i64 next,.slice a l.length cap] 32)).alloc (Obj.cells #[.nilFunc,.nilFunc,.nilFunc] 117)).heap.size = w.heap.size + 1 + 1:=by rw [ze,hs1]
  have HB0:Hid (Below w.heap.size w ((w.alloc (Obj.cells #[.int .i64 next,.slice a l.length cap] 32)).alloc (Obj.cells #[.nilFunc,.nilFunc,.nilFunc] 117))) :=
    ((Below.refl _ _).alloc (Nat.le_refl _) _).alloc (by rw [hs1]; omega) _
  have HX:Hid (_∧_):=⟨r1,t1⟩
  have HS2:=hide hs2
  clear r1 t1 hs1 hs2 hc hl
  go_enter Tryz.func75,Tryz.ntmps75
  go_wp2_with fail
  generalize ((w.alloc (Obj.cells #[.int .i64 next,.slice a l.length cap] 32)).alloc (Obj.cells #[.nilFunc,.nilFunc,.nilFunc] 117)) = W2 at HB0 HX HS2 ⊢
  refine (plant_b _ l 1 W2 (zj (za HR) (za HB0) (Nat.le_refl _)) hn (za HL)).mono ?_
  rintro e w1 ⟨rfl,htr,hb1⟩
  have HTR:=hide htr
  have HB1:=hide hb1
  clear htr hb1
  go_wp2_with fail
  refine (ask_b W2.heap.size w1).mono ?_
  rintro e w2 ⟨rfl,hb2⟩
  have HTR2:=hide (zv (za HTR) (hb2.block _ (zM (za HTR))))
  have hb12:=(za HB1).trans (hb2.mono (za HB1).size)
  obtain ⟨x1,x2⟩:=za HX
  have y1:=zb x1 hb12 (by rw [za HS2]; omega)
  have y2:=zf x2 hb12 (by rw [za HS2]; omega)
  have HB2:=hide ((za HB0).trans (hb12.mono (za HB0).size))
  have c0:w2.cell? ⟨w.heap.size + 1,0,none⟩ = some .nilFunc:=y1 0 _ rfl
  have c1:w2.cell? ⟨w.heap.size + 1,1,none⟩ = some .nilFunc:=y1 1 _ rfl
  have c2:w2.cell? ⟨w.heap.size + 1,2,none⟩ = some .nilFunc:=y1 2 _ rfl
  have f0:w2.frozen? ⟨w.heap.size + 1,0,none⟩ = false:=(y2 0 (by omega)).2
  have f1:w2.frozen? ⟨w.heap.size + 1,1,none⟩ = false:=(y2 1 (by omega)).2
  have f2:w2.frozen? ⟨w.heap.size + 1,2,none⟩ = false:=(y2 2 (by omega)).2
  clear hb2 hb12 x1 x2 y1 y2
  unfold zbm
  generalize hF0:Value.func (.func 131) #[.pointer (some ⟨W2.heap.size,0,none⟩)] #[] = F0
  generalize hF1:Value.func (.func 132) #[.pointer (some ⟨W2.heap.size,0,none⟩)] #[] = F1
  generalize hF2:Value.func (.func 133) #[.pointer (some ⟨W2.heap.size,0,none⟩)] #[] = F2
  have hst:∀ (W:World) (o:Nat) (m:Mode),((store ⟨w.heap.size + 1,o,none⟩ F0 m).run Tryz.prog W = stored Tryz.prog W ⟨w.heap.size + 1,o,none⟩ F0 m)∧((store ⟨w.heap.size + 1,o,none⟩ F1 m).run Tryz.prog W = stored Tryz.prog W ⟨w.heap.size + 1,o,none⟩ F1 m)∧((store ⟨w.heap.size + 1,o,none⟩ F2 m).run Tryz.prog W = stored Tryz.prog W ⟨w.heap.size + 1,o,none⟩ F2 m):=fun W o m=>by
    subst hF0 hF1 hF2
    exact ⟨run_store _ W _ _ m rfl,run_store _ W _ _ m rfl,run_store _ W _ _ m rfl⟩
  have hst0:=fun W o m=>(hst W o m).1
  have hst1:=fun W o m=>(hst W o m).2.1
  have hst2:=fun W o m=>(hst W o m).2.2
  clear hst
  go_wp2_with fail
  have hn01:(⟨w.heap.size + 1,0,none⟩:Addr) ≠ ⟨w.heap.size + 1,1,none⟩:=fun e=>by simp at e
  have hn02:(⟨w.heap.size + 1,0,none⟩:Addr) ≠ ⟨w.heap.size + 1,2,none⟩:=fun e=>by simp at e
  have hn12:(⟨w.heap.size + 1,1,none⟩:Addr) ≠ ⟨w.heap.size + 1,2,none⟩:=fun e=>by simp at e
  have d2:(((w2.setCell ⟨w.heap.size + 1,0,none⟩ F0).setCell ⟨w.heap.size + 1,1,none⟩ F1).setCell ⟨w.heap.size + 1,2,none⟩ F2).cell? ⟨w.heap.size + 1,2,none⟩ = some F2 :=
    World.cell?_setCell_same _ _ _ ((World.cell?_setCell_other _ _ _ _ hn12).trans ((World.cell?_setCell_other _ _ _ _ hn02).trans c2))
  have d1:(((w2.setCell ⟨w.heap.size + 1,0,none⟩ F0).setCell ⟨w.heap.size + 1,1,none⟩ F1).setCell ⟨w.heap.size + 1,2,none⟩ F2).cell? ⟨w.heap.size + 1,1,none⟩ = some F1 :=
    (World.cell?_setCell_other _ _ _ _ hn12.symm).trans (World.cell?_setCell_same _ _ _ ((World.cell?_setCell_other _ _ _ _ hn01).trans c1))
  have d0:(((w2.setCell ⟨w.heap.size + 1,0,none⟩ F0).setCell ⟨w.heap.size + 1,1,none⟩ F1).setCell ⟨w.heap.size + 1,2,none⟩ F2).cell? ⟨w.heap.size + 1,0,none⟩ = some F0 :=
    (World.cell?_setCell_other _ _ _ _ hn02.symm).trans ((World.cell?_setCell_other _ _ _ _ hn01.symm).trans (World.cell?_setCell_same _ _ _ c0))
  have hne:W2.heap.size ≠ w.heap.size + 1:=by rw [za HS2]; omega
  have HT5:=hide (zv (za HTR2) (w':=((w2.setCell ⟨w.heap.size + 1,0,none⟩ F0).setCell ⟨w.heap.size + 1,1,none⟩ F1).setCell ⟨w.heap.size + 1,2,none⟩ F2) ((Below.heap_setCell _ _ _ _ hne).trans ((Below.heap_setCell _ _ _ _ hne).trans (Below.heap_setCell _ _ _ _ hne))))
  have HB5:=hide ((((za HB2).setCell (p:=⟨w.heap.size + 1,0,none⟩) (by simp) F0).setCell (p:=⟨w.heap.size + 1,1,none⟩) (by simp) F1).setCell (p:=⟨w.heap.size + 1,2,none⟩) (by simp) F2)
  generalize ((w2.setCell ⟨w.heap.size + 1,0,none⟩ F0).setCell ⟨w.heap.size + 1,1,none⟩ F1).setCell ⟨w.heap.size + 1,2,none⟩ F2 = W5 at *
  try simp only [Exit.inBlock,Exit.then]
  refine bodyPost_ret (by simp [results,Tryz.results75,go_sem,d0,d1,d2]; try rfl) rfl ?_
  refine ⟨W2.heap.size,?_,za HT5,by rw [za HS2]; omega,za HB5⟩
  subst hF0 hF1 hF2
  rfl
set_option maxHeartbeats 400000 in
theorem zcJ (next:Int) (sd:Int) (hsd:¬ sd = 1) (v:Value) (l:List Od) (w:World) (hr:RdR Od.vs 6 w v l) (hn:l.length ≤ 20) (hl:∀ o' ∈ l,0 ≤ o'.left∧o'.left ≤ 1000000) :
    Calls Tryz.prog 75 #[.agg #[.int .i64 next,v],.int .i64 sd] w fun e w' =>
      ∃ b,e = .returned (zbn b)∧zai 199 false w' b sd (zr l sd)∧w.heap.size ≤ b∧Below w.heap.size w w':=by
  have HR:=hide hr
  have HL:=hide hl
  obtain ⟨a,cap,rfl,hlen,hc⟩:=hr
  have hs1:(w.alloc (Obj.cells #[.int .i64 next,.slice a l.length cap] 32)).heap.size = w.heap.size + 1:=ze _ _
  have r1:=zh (w.alloc (Obj.cells #[.int .i64 next,.slice a l.length cap] 32)) [.nilFunc,.nilFunc,.nilFunc] 117
  have t1:=zaj (n:=3) (heap_alloc_new (w.alloc (Obj.cells #[.int .i64 next,.slice a l.length cap] 32)) (Obj.cells #[.nilFunc,.nilFunc,.nilFunc] 117)) (by simp)
  rw [hs1] at r1 t1
  have hs2:((w.alloc (Obj.cells #[.int .i64 next,.slice a l.length cap] 32)).alloc (Obj.cells #[.nilFunc,.nilFunc,.nilFunc] 117)).heap.size = w.heap.size + 1 + 1:=by rw [ze,hs1]
  have HB0:Hid (Below w.heap.size w ((w.alloc (Obj.cells #[.int .i64 next,.slice a l.length cap] 32)).alloc (Obj.cells #[.nilFunc,.nilFunc,.nilFunc] 117))) :=
    ((Below.refl _ _).alloc (Nat.le_refl _) _).alloc (by rw [hs1]; omega) _
  have HX:Hid (_∧_):=⟨r1,t1⟩
  have HS2:=hide hs2
  clear r1 t1 hs1 hs2 hc hl
  go_enter Tryz.func75,Tryz.ntmps75
  go_wp2_with fail
  generalize ((w.alloc (Obj.cells #[.int .i64 next,.slice a l.length cap] 32)).alloc (Obj.cells #[.nilFunc,.nilFunc,.nilFunc] 117)) = W2 at HB0 HX HS2 ⊢
  refine (plant_s _ l sd W2 (zj (za HR) (za HB0) (Nat.le_refl _)) hn (za HL)).mono ?_
  rintro e w1 ⟨rfl,htr,hb1⟩
  have HTR:=hide htr
  have HB1:=hide hb1
  clear htr hb1
  go_wp2_with fail
  refine (ask_s W2.heap.size w1).mono ?_
  rintro e w2 ⟨rfl,hb2⟩
  have HTR2:=hide (zv (za HTR) (hb2.block _ (zM (za HTR))))
  have hb12:=(za HB1).trans (hb2.mono (za HB1).size)
  obtain ⟨x1,x2⟩:=za HX
  have y1:=zb x1 hb12 (by rw [za HS2]; omega)
  have y2:=zf x2 hb12 (by rw [za HS2]; omega)
  have HB2:=hide ((za HB0).trans (hb12.mono (za HB0).size))
  have c0:w2.cell? ⟨w.heap.size + 1,0,none⟩ = some .nilFunc:=y1 0 _ rfl
  have c1:w2.cell? ⟨w.heap.size + 1,1,none⟩ = some .nilFunc:=y1 1 _ rfl
  have c2:w2.cell? ⟨w.heap.size + 1,2,none⟩ = some .nilFunc:=y1 2 _ rfl
  have f0:w2.frozen? ⟨w.heap.size + 1,0,none⟩ = false:=(y2 0 (by omega)).2
  have f1:w2.frozen? ⟨w.heap.size + 1,1,none⟩ = false:=(y2 1 (by omega)).2
  have f2:w2.frozen? ⟨w.heap.size + 1,2,none⟩ = false:=(y2 2 (by omega)).2
  clear hb2 hb12 x1 x2 y1 y2
  unfold zbn
  generalize hF0:Value.func (.func 135) #[.pointer (some ⟨W2.heap.size,0,none⟩)] #[] = F0
  generalize hF1:Value.func (.func 136) #[.pointer (some ⟨W2.heap.size,0,none⟩)] #[] = F1
  generalize hF2:Value.func (.func 137) #[.pointer (some ⟨W2.heap.size,0,none⟩)] #[] = F2
  have hst:∀ (W:World) (o:Nat) (m:Mode),((store ⟨w.heap.size + 1,o,none⟩ F0 m).run Tryz.prog W = stored Tryz.prog W ⟨w.heap.size + 1,o,none⟩ F0 m)∧((store ⟨w.heap.size + 1,o,none⟩ F1 m).run Tryz.prog W = stored Tryz.prog W ⟨w.heap.size + 1,o,none⟩ F1 m)∧((store ⟨w.heap.size + 1,o,none⟩ F2 m).run Tryz.prog W = stored Tryz.prog W ⟨w.heap.size + 1,o,none⟩ F2 m):=fun W o m=>by
    subst hF0 hF1 hF2
    exact ⟨run_store _ W _ _ m rfl,run_store _ W _ _ m rfl,run_store _ W _ _ m rfl⟩
  have hst0:=fun W o m=>(hst W o m).1
  have hst1:=fun W o m=>(hst W o m).2.1
  have hst2:=fun W o m=>(hst W o m).2.2
  clear hst
  go_wp2_with fail
  have hn01:(⟨w.heap.size + 1,0,none⟩:Addr) ≠ ⟨w.heap.size + 1,1,none⟩:=fun e=>by simp at e
  have hn02:(⟨w.heap.size + 1,0,none⟩:Addr) ≠ ⟨w.heap.size + 1,2,none⟩:=fun e=>by simp at e
  have hn12:(⟨w.heap.size + 1,1,none⟩:Addr) ≠ ⟨w.heap.size + 1,2,none⟩:=fun e=>by simp at e
  have d2:(((w2.setCell ⟨w.heap.size + 1,0,none⟩ F0).setCell ⟨w.heap.size + 1,1,none⟩ F1).setCell ⟨w.heap.size + 1,2,none⟩ F2).cell? ⟨w.heap.size + 1,2,none⟩ = some F2 :=
    World.cell?_setCell_same _ _ _ ((World.cell?_setCell_other _ _ _ _ hn12).trans ((World.cell?_setCell_other _ _ _ _ hn02).trans c2))
  have d1:(((w2.setCell ⟨w.heap.size + 1,0,none⟩ F0).setCell ⟨w.heap.size + 1,1,none⟩ F1).setCell ⟨w.heap.size + 1,2,none⟩ F2).cell? ⟨w.heap.size + 1,1,none⟩ = some F1 :=
    (World.cell?_setCell_other _ _ _ _ hn12.symm).trans (World.cell?_setCell_same _ _ _ ((World.cell?_setCell_other _ _ _ _ hn01).trans c1))
  have d0:(((w2.setCell ⟨w.heap.size + 1,0,none⟩ F0).setCell ⟨w.heap.size + 1,1,none⟩ F1).setCell ⟨w.heap.size + 1,2,none⟩ F2).cell? ⟨w.heap.size + 1,0,none⟩ = some F0 :=
    (World.cell?_setCell_other _ _ _ _ hn02.symm).trans ((World.cell?_setCell_other _ _ _ _ hn01.symm).trans (World.cell?_setCell_same _ _ _ c0))
  have hne:W2.heap.size ≠ w.heap.size + 1:=by rw [za HS2]; omega
  have HT5:=hide (zv (za HTR2) (w':=((w2.setCell ⟨w.heap.size + 1,0,none⟩ F0).setCell ⟨w.heap.size + 1,1,none⟩ F1).setCell ⟨w.heap.size + 1,2,none⟩ F2) ((Below.heap_setCell _ _ _ _ hne).trans ((Below.heap_setCell _ _ _ _ hne).trans (Below.heap_setCell _ _ _ _ hne))))
  have HB5:=hide ((((za HB2).setCell (p:=⟨w.heap.size + 1,0,none⟩) (by simp) F0).setCell (p:=⟨w.heap.size + 1,1,none⟩) (by simp) F1).setCell (p:=⟨w.heap.size + 1,2,none⟩) (by simp) F2)
  generalize ((w2.setCell ⟨w.heap.size + 1,0,none⟩ F0).setCell ⟨w.heap.size + 1,1,none⟩ F1).setCell ⟨w.heap.size + 1,2,none⟩ F2 = W5 at *
  try simp only [Exit.inBlock,Exit.then]
  refine bodyPost_ret (by simp [results,Tryz.results75,go_sem,d0,d1,d2]; try rfl) rfl ?_
  refine ⟨W2.heap.size,?_,za HT5,by rw [za HS2]; omega,za HB5⟩
  subst hF0 hF1 hF2
  rfl
def hdO (q:List Od):Od:=(q.head?).getD zOd
def hdF (q:List Od):Bool:=(q.head?).isSome
theorem frOf_eq (q:List Od):frOf q = .tuple #[.agg #[.int .i64 (hdO q).id,.int .i64 (hdO q).side,.int .i64 (hdO q).ticks,.int .i64 (hdO q).left,.int .i64 (hdO q).life,.string (hdO q).tag],.bool (hdF q)]:=by
  unfold frOf hdO hdF
  cases q.head? <;> rfl
def meetB (q1 q2:List Od):Bool:=hdF q1 && hdF q2 && decide ((hdO q2).ticks ≤ (hdO q1).ticks)
set_option maxRecDepth 100000 in
set_option maxHeartbeats 400000 in
theorem sidesMeet_any (b1 b2:Nat) (sd1 sd2:Int) (s1 s2:List Od) (w:World) (h1:zai 196 true w b1 sd1 s1) (h2:zai 199 false w b2 sd2 s2) (n1:s1.length ≤ 20) (n2:s2.length ≤ 20) :
    Calls Tryz.prog 77 #[zbm b1,zbn b2] w fun e w'=>e = .returned (.bool (meetB (quOf true s1) (quOf false s2)))∧Below w.heap.size w w':=by
  have H1:=hide h1
  have H2:=hide h2
  have hb1:=zM h1
  have hb2:=zM h2
  clear h1 h2
  unfold zbm zbn
  have hs1:(w.alloc (Obj.cells #[.func (.func 131) #[.pointer (some ⟨b1,0,none⟩)] #[],.func (.func 132) #[.pointer (some ⟨b1,0,none⟩)] #[],.func (.func 133) #[.pointer (some ⟨b1,0,none⟩)] #[]] 117)).heap.size = w.heap.size + 1:=ze _ _
  have r1:=zh (w.alloc (Obj.cells #[.func (.func 131) #[.pointer (some ⟨b1,0,none⟩)] #[],.func (.func 132) #[.pointer (some ⟨b1,0,none⟩)] #[],.func (.func 133) #[.pointer (some ⟨b1,0,none⟩)] #[]] 117)) [.func (.func 135) #[.pointer (some ⟨b2,0,none⟩)] #[],.func (.func 136) #[.pointer (some ⟨b2,0,none⟩)] #[],.func (.func 137) #[.pointer (some ⟨b2,0,none⟩)] #[]] 117
  have hs2:((w.alloc (Obj.cells #[.func (.func 131) #[.pointer (some ⟨b1,0,none⟩)] #[],.func (.func 132) #[.pointer (some ⟨b1,0,none⟩)] #[],.func (.func 133) #[.pointer (some ⟨b1,0,none⟩)] #[]] 117)).alloc (Obj.cells #[.func (.func 135) #[.pointer (some ⟨b2,0,none⟩)] #[],.func (.func 136) #[.pointer (some ⟨b2,0,none⟩)] #[],.func (.func 137) #[.pointer (some ⟨b2,0,none⟩)] #[]] 117)).heap.size = w.heap.size + 1 + 1:=by rw [ze,hs1]
  have HB0:Hid (Below w.heap.size w ((w.alloc (Obj.cells #[.func (.func 131) #[.pointer (some ⟨b1,0,none⟩)] #[],.func (.func 132) #[.pointer (some ⟨b1,0,none⟩)] #[],.func (.func 133) #[.pointer (some ⟨b1,0,none⟩)] #[]] 117)).alloc (Obj.cells #[.func (.func 135) #[.pointer (some ⟨b2,0,none⟩)] #[],.func (.func 136) #[.pointer (some ⟨b2,0,none⟩)] #[],.func (.func 137) #[.pointer (some ⟨b2,0,none⟩)] #[]] 117))):=((Below.refl _ _).alloc (Nat.le_refl _) _).alloc (by rw [hs1]; omega) _
  rw [hs1] at r1
  have HX:=hide (r1 0 _ rfl)
  have HS2:=hide hs2
  clear r1 hs1 hs2
  go_enter Tryz.func77,Tryz.ntmps77
  go_wp2_with fail
  generalize ((w.alloc (Obj.cells #[.func (.func 131) #[.pointer (some ⟨b1,0,none⟩)] #[],.func (.func 132) #[.pointer (some ⟨b1,0,none⟩)] #[],.func (.func 133) #[.pointer (some ⟨b1,0,none⟩)] #[]] 117)).alloc (Obj.cells #[.func (.func 135) #[.pointer (some ⟨b2,0,none⟩)] #[],.func (.func 136) #[.pointer (some ⟨b2,0,none⟩)] #[],.func (.func 137) #[.pointer (some ⟨b2,0,none⟩)] #[]] 117)) = W2 at HB0 HX HS2 ⊢
  refine (front_b b1 sd1 s1 W2 (zv (za H1) ((za HB0).block _ hb1)) n1).mono ?_
  rintro e w1 ⟨rfl,hb3⟩
  rw [frOf_eq]
  have HB3:=hide hb3
  have c0:=(hb3.cell (p:=⟨w.heap.size + 1,0,none⟩) (by rw [za HS2]; simp)).trans (za HX)
  have hsz1:w.heap.size + 2 ≤ w1.heap.size:=by have:=hb3.size; rw [za HS2] at this; omega
  generalize hq1:hdO (quOf true s1) = x
  generalize hf1:hdF (quOf true s1) = f1
  have HQ1:Hid (hdO (quOf true s1) = x∧hdF (quOf true s1) = f1):=⟨hq1,hf1⟩
  clear hb3 hq1 hf1
  have c0':(w1.alloc (Obj.cells #[.int .i64 x.id,.int .i64 x.side,.int .i64 x.ticks,.int .i64 x.left,.int .i64 x.life,.string x.tag] 100)).cell? ⟨w.heap.size + 1,0,none⟩ = _:=(Below.cell ((Below.refl w1.heap.size w1).alloc (Nat.le_refl _) _) (p:=⟨w.heap.size + 1,0,none⟩) (show w.heap.size + 1 < w1.heap.size by omega)).trans c0
  have HX1:Hid (World.rangeAt (w1.alloc (Obj.cells #[.int .i64 x.id,.int .i64 x.side,.int .i64 x.ticks,.int .i64 x.left,.int .i64 x.life,.string x.tag] 100)) w1.heap.size 0 x.vs):=zh w1 x.vs 100
  have HB4:Hid (Below W2.heap.size W2 (w1.alloc (Obj.cells #[.int .i64 x.id,.int .i64 x.side,.int .i64 x.ticks,.int .i64 x.left,.int .i64 x.life,.string x.tag] 100))):=(za HB3).alloc (za HB3).size _
  have HS4:Hid ((w1.alloc (Obj.cells #[.int .i64 x.id,.int .i64 x.side,.int .i64 x.ticks,.int .i64 x.left,.int .i64 x.life,.string x.tag] 100)).heap.size = w1.heap.size + 1):=ze _ _
  go_wp2_with fail
  generalize (w1.alloc (Obj.cells #[.int .i64 x.id,.int .i64 x.side,.int .i64 x.ticks,.int .i64 x.left,.int .i64 x.life,.string x.tag] 100)) = W4 at c0' HX1 HB4 HS4 ⊢
  have HB04:=hide ((za HB0).trans ((za HB4).mono (za HB0).size))
  refine (front_s b2 sd2 s2 W4 (zv (za H2) ((za HB04).block _ hb2)) n2).mono ?_
  rintro e w5 ⟨rfl,hb5⟩
  rw [frOf_eq]
  have HB5:=hide ((za HB04).trans (hb5.mono (za HB04).size))
  obtain ⟨-,-,t2,-⟩:=zy (zb (za HX1) hb5 (by rw [za HS4]; omega))
  have hsz5:w1.heap.size < w5.heap.size:=by have:=hb5.size; rw [za HS4] at this; omega
  generalize hq2:hdO (quOf false s2) = y
  generalize hf2:hdF (quOf false s2) = f2
  have HQ2:Hid (hdO (quOf false s2) = y∧hdF (quOf false s2) = f2):=⟨hq2,hf2⟩
  clear hb5 hq2 hf2
  have t2':(w5.alloc (Obj.cells #[.int .i64 y.id,.int .i64 y.side,.int .i64 y.ticks,.int .i64 y.left,.int .i64 y.life,.string y.tag] 100)).cell? ⟨w1.heap.size,0 + 2,none⟩ = _:=(Below.cell ((Below.refl w5.heap.size w5).alloc (Nat.le_refl _) _) (p:=⟨w1.heap.size,0 + 2,none⟩) hsz5).trans t2
  have HB6:Hid (Below w.heap.size w (w5.alloc (Obj.cells #[.int .i64 y.id,.int .i64 y.side,.int .i64 y.ticks,.int .i64 y.left,.int .i64 y.life,.string y.tag] 100))):=(za HB5).alloc (za HB5).size _
  have HM:Hid (meetB (quOf true s1) (quOf false s2) = (f1 && f2 && decide (y.ticks ≤ x.ticks))):=by
    show _ = _
    rw [meetB,(za HQ1).1,(za HQ1).2,(za HQ2).1,(za HQ2).2]
  cases f1 <;> cases f2
  · go_wp2_with fail
    go_ret
    exact ⟨zl (za HM).symm,za HB6⟩
  · go_wp2_with fail
    go_ret
    exact ⟨zl (za HM).symm,za HB6⟩
  · go_wp2_with fail
    go_ret
    exact ⟨zl (za HM).symm,za HB6⟩
  · go_wp2_with fail
    go_ret
    exact ⟨zl (za HM).symm,za HB6⟩
end Go.Proofs.YtdfihaabhichdaaGreat
