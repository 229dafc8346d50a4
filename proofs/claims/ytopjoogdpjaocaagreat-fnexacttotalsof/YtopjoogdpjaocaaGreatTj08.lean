/-
  The front of a tree: proved by walking the function.
-/
import Derived.Test.YtopjoogdpjaocaaGreatTj07
set_option linter.unusedVariables false
set_option maxHeartbeats 6400000
set_option maxRecDepth 100000
namespace Go.Proofs.YtopjoogdpjaocaaGreat
open Go.RowKit
theorem best_s {S:TS}:∀ {t:Tr} {v:Nat},Rep S.nd t v→t ≠ .nil→v ∈ t.hs∧((S.nd v).be = 0→t.hs.head? = some v)∧((S.nd v).be ≠ 0→∃ l,Rep S.nd l (S.nd v).be∧l ≠ .nil∧l.hs.head? = t.hs.head?∧l.hs.length < t.hs.length∧∀ a ∈ l.hs,a ∈ t.hs)
 | .nil,_,_,h=>absurd rfl h
 | .node h l r,v,⟨e,h0,h1,h2⟩,_=>by
  subst e
  refine ⟨by simp [Tr.hs],fun hb=>?_,fun hb=>⟨l,h1,?_,?_,?_,fun a ha=>by simp [Tr.hs,ha]⟩⟩
  ·rw [hb] at h1; obtain rfl:=rep_nil h1; rfl
  ·rintro rfl; exact hb h1
  ·cases l with
   | nil=>exact absurd h1 hb
   | node a l' r'=>simp [Tr.hs]
  ·simp [Tr.hs]
def FrI_s (S:TS) (hd:Option Nat) (w0:World) (k:Nat) (p:Value) (wr:World):Prop:=∃ (t:Tr) (v:Nat),p = .int .i64 v∧Rep S.nd t v∧t ≠ .nil∧t.hs.head? = hd∧t.hs.length ≤ k∧(∀ a ∈ t.hs,a < 21)∧w0 = wr
set_option maxRecDepth 100000 in
set_option maxHeartbeats 400000 in
theorem front_s (b:Nat) (sd:Int) (seq:List Od) (w:World) (h:zak 173 false w b sd seq) (hn:seq.length ≤ 20) :
  Calls Tryz.prog 115 #[.pointer (some ⟨b,0,none⟩)] w fun e w'=>e = .returned (frOf (quOf false seq))∧Below w.heap.size w w':=by
 obtain ⟨S,t,hT,hi,hq,hlc⟩:=h
 have hou:=tree_orders hi hq
 have hh21:∀ a ∈ t.hs,a < 21:=fun a ha=>by have:=(hi.range a ha).2; omega
 have HT:=hide hT
 have hroot:=hT.root
 have hbs:=tm_lt hT
 by_cases hr0:S.root = 0
 ·have ht:=hi.rep
  rw [hr0] at ht hroot
  obtain rfl:=rep_nil ht
  have HF:Hid (frOf (quOf false seq) = .tuple #[zOdv,.bool false]):=by show _ = _; rw [← hou]; rfl
  clear hi hq hlc hou hT ht hh21
  go_enter Tryz.func115,Tryz.ntmps115
  go_wp2_with fail
  go_returns
  refine ⟨by rw [za HF]; rfl,?_⟩
  go_grown
 ·have hne:t ≠ .nil:=by rintro rfl; exact hr0 hi.rep
  have HI:=hide hi
  have HQ:=hide hq
  have HOU:=hide hou
  have HH:=hide hh21
  have HNE:=hide hne
  have hr0':¬ ((S.root:Int) = 0):=by omega
  clear hi hq hlc hou hT hh21 hne
  go_enter Tryz.func115,Tryz.ntmps115
  go_wp2_with fail
  go_loopg [4] (t.hs.length) (fun k p wr=>FrI_s S t.hs.head? (w.alloc (Obj.cells #[.int .i64 0,.int .i64 0,.int .i64 0,.int .i64 0,.int .i64 0,.string ⟨#[]⟩] 78)) k p wr)
  case atStart=>exact ⟨t,S.root,rfl,(za HI).rep,za HNE,rfl,Nat.le_refl _,za HH,rfl⟩
  case round =>
   obtain ⟨t1,v,rfl,h1,h2,h3,h4,h5,rfl⟩:=hrel
   obtain ⟨b1,b2,b3⟩:=best_s h1 h2
   have hv21:=h5 v b1
   have hv21':(v:Int) < 21:=by omega
   have hTW:=zan (za HT) (Below.heap_alloc w (Obj.cells #[.int .i64 0,.int .i64 0,.int .i64 0,.int .i64 0,.int .i64 0,.string ⟨#[]⟩] 78) b hbs)
   obtain ⟨-,-,-,-,n4,-,n6,-⟩:=zK (hTW.nd v hv21)
   have H3:=hide h3
   have H4:=hide h4
   have H5:=hide h5
   by_cases hbe:(S.nd v).be = 0
   ·have hhd:=b2 hbe
    rw [h3] at hhd
    have hvm:v ∈ t.hs:=List.mem_of_head? hhd
    have hQ:=(za HQ).q v hvm
    obtain ⟨e,rest,hqs⟩:∃ e rest,qs seq (S.nd v).ticks = e :: rest:=by
     cases hqq:qs seq (S.nd v).ticks with
     | nil=>exact absurd hqq hQ.ne
     | cons e rest=>exact ⟨e,rest,rfl⟩
    have hch:=hQ.chain
    rw [hqs] at hch
    obtain ⟨he,he0,-⟩:=hch
    have he21:e < 21:=by
     have:=(zbb (S.nd v).ticks seq 1 e (by have h:e ∈ qs seq (S.nd v).ticks:=(by rw [hqs]; simp); exact h)).2.1
     omega
    have he21':(e:Int) < 21:=by omega
    have HF:Hid (frOf (quOf false seq) = .tuple #[(S.qo e).od.val,.bool true]):=by
     show _ = _
     rw [← za HOU]
     obtain ⟨tl,htl⟩:∃ tl,t.hs = v :: tl:=by
      cases hh:t.hs with
      | nil=>rw [hh] at hhd; simp at hhd
      | cons a r=>rw [hh] at hhd; simp at hhd; rw [hhd]; exact ⟨r,rfl⟩
     rw [htl,List.flatMap_cons,hqs]
     rfl
    obtain ⟨q0,q1,q2,q3,q4,q5,-⟩:=zcc (hTW.qo e he21)
    rw [he] at n6
    rw [hbe] at n4
    clear h1 h2 h3 h4 h5 b1 b2 b3 hTW hhd hvm hQ hqs he hbe
    go_wp2_with fail
    go_region
    go_wp2_with fail
    go_returns
    refine ⟨by rw [za HF]; rfl,?_⟩
    go_grown
   ·obtain ⟨l,l1,l2,l3,l4,l5⟩:=b3 hbe
    have hbe':¬ (((S.nd v).be:Int) = 0):=by omega
    have HL:Hid (Rep S.nd l (S.nd v).be∧l ≠ .nil∧l.hs.head? = t1.hs.head?∧l.hs.length < t1.hs.length∧∀ a ∈ l.hs,a ∈ t1.hs):=⟨l1,l2,l3,l4,l5⟩
    clear h1 h2 h3 h4 h5 b1 b2 b3 hTW l1 l2 l3 l4 l5 hbe
    go_wp2_with fail
    go_roundg (l.hs.length)
    case measure=>have:=za H4; have:=(za HL).2.2.2.1; omega
    case rel=>exact ⟨l,_,rfl,(za HL).1,(za HL).2.1,(za HL).2.2.1.trans (za H3),Nat.le_refl _,fun a ha=>za H5 a ((za HL).2.2.2.2 a ha),rfl⟩
def zbZ (b:Nat):Value:=.agg #[.func (.func 115) #[.pointer (some ⟨b,0,none⟩)] #[],.func (.func 116) #[.pointer (some ⟨b,0,none⟩)] #[],.func (.func 117) #[.pointer (some ⟨b,0,none⟩)] #[]]
theorem ask_s (b:Nat) (w:World) :
  Calls Tryz.prog 108 #[.pointer (some ⟨b,0,none⟩)] w fun e w'=>e = .returned (zbZ b)∧Below w.heap.size w w':=by
 have hmf:∀ (fn:Fn) (first cap:Array Value) (w:World),(Instr.makeFunc fn first cap).run Tryz.prog w = .ok (.func fn first cap) w:=fun _ _ _ _=>rfl
 go_enter Tryz.func108,Tryz.ntmps108
 go_wp2_with fail
 go_returns
 refine ⟨rfl,?_⟩
 go_grown
set_option maxHeartbeats 400000 in
theorem sideOf_buy (next:Int) (v:Value) (l:List Od) (w:World) (hr:RdR Od.vs 6 w v l) (hn:l.length ≤ 20) (hl:∀ o' ∈ l,0 ≤ o'.left∧o'.left ≤ 1000000) :
  Calls Tryz.prog 94 #[.agg #[.int .i64 next,v],.int .i64 1] w fun e w' =>
   ∃ b,e = .returned (zbY b)∧zak 171 true w' b 1 (zz l 1)∧w.heap.size ≤ b∧Below w.heap.size w w':=by
 have HR:=hide hr
 have HL:=hide hl
 obtain ⟨a,cap,rfl,hlen,hc⟩:=hr
 have hs1:(w.alloc (Obj.cells #[.int .i64 next,.slice a l.length cap] 46)).heap.size = w.heap.size + 1:=ze _ _
 have r1:=zh (w.alloc (Obj.cells #[.int .i64 next,.slice a l.length cap] 46)) [.nilFunc,.nilFunc,.nilFunc] 145
 have t1:=zaq (n:=3) (heap_alloc_new (w.alloc (Obj.cells #[.int .i64 next,.slice a l.length cap] 46)) (Obj.cells #[.nilFunc,.nilFunc,.nilFunc] 145)) (by simp)
 rw [hs1] at r1 t1
 have hs2:((w.alloc (Obj.cells #[.int .i64 next,.slice a l.length cap] 46)).alloc (Obj.cells #[.nilFunc,.nilFunc,.nilFunc] 145)).heap.size = w.heap.size + 1 + 1:=by rw [ze,hs1]
 have HB0:Hid (Below w.heap.size w ((w.alloc (Obj.cells #[.int .i64 next,.slice a l.length cap] 46)).alloc (Obj.cells #[.nilFunc,.nilFunc,.nilFunc] 145))) :=
  ((Below.refl _ _).alloc (Nat.le_refl _) _).alloc (by rw [hs1]; omega) _
 have HX:Hid (_∧_):=⟨r1,t1⟩
 have HS2:=hide hs2
 clear r1 t1 hs1 hs2 hc hl
 go_enter Tryz.func94,Tryz.ntmps94
 go_wp2_with fail
 generalize ((w.alloc (Obj.cells #[.int .i64 next,.slice a l.length cap] 46)).alloc (Obj.cells #[.nilFunc,.nilFunc,.nilFunc] 145)) = W2 at HB0 HX HS2 ⊢
 refine (plant_b _ l 1 W2 (zl (za HR) (za HB0) (Nat.le_refl _)) hn (za HL)).mono ?_
 rintro e w1 ⟨rfl,htr,hb1⟩
 have HTR:=hide htr
 have HB1:=hide hb1
 clear htr hb1
 go_wp2_with fail
 refine (ask_b W2.heap.size w1).mono ?_
 rintro e w2 ⟨rfl,hb2⟩
 have HTR2:=hide (zG (za HTR) (hb2.block _ (zaf (za HTR))))
 have hb12:=(za HB1).trans (hb2.mono (za HB1).size)
 obtain ⟨x1,x2⟩:=za HX
 have y1:=zb x1 hb12 (by rw [za HS2]; omega)
 have y2:=zf x2 hb12 (by rw [za HS2]; omega)
 have HB2:=hide ((za HB0).trans (hb12.mono (za HB0).size))
 have c0:w2.cell? ⟨w.heap.size + 1,0,none⟩ = some .nilFunc:=y1 0 _ rfl
 have c1:w2.cell? ⟨w.heap.size + 1,1,none⟩ = some .nilFunc:=y1 1 _ rfl
 have c2:w2.cell? ⟨w.heap.size + 1,2,none⟩ = some .nilFunc:=y1 2 _ rfl
 have f0:w2.frozen? ⟨w.heap.size + 1,0,none⟩ = false:=(y2 0 (by omega)).2
 have f1:w2.frozen? ⟨w.heap.size + 1,1,none⟩ = false:=(y2 1 (by omega)).2
 have f2:w2.frozen? ⟨w.heap.size + 1,2,none⟩ = false:=(y2 2 (by omega)).2
 clear hb2 hb12 x1 x2 y1 y2
 unfold zbY
 generalize hF0:Value.func (.func 111) #[.pointer (some ⟨W2.heap.size,0,none⟩)] #[] = F0
 generalize hF1:Value.func (.func 112) #[.pointer (some ⟨W2.heap.size,0,none⟩)] #[] = F1
 generalize hF2:Value.func (.func 113) #[.pointer (some ⟨W2.heap.size,0,none⟩)] #[] = F2
 have hst:∀ (W:World) (o:Nat) (m:Mode),((store ⟨w.heap.size + 1,o,none⟩ F0 m).run Tryz.prog W = stored Tryz.prog W ⟨w.heap.size + 1,o,none⟩ F0 m)∧((store ⟨w.heap.size + 1,o,none⟩ F1 m).run Tryz.prog W = stored Tryz.prog W ⟨w.heap.size + 1,o,none⟩ F1 m)∧((store ⟨w.heap.size + 1,o,none⟩ F2 m).run Tryz.prog W = stored Tryz.prog W ⟨w.heap.size + 1,o,none⟩ F2 m):=fun W o m=>by
  subst hF0 hF1 hF2
  exact ⟨run_store _ W _ _ m rfl,run_store _ W _ _ m rfl,run_store _ W _ _ m rfl⟩
 have hst0:=fun W o m=>(hst W o m).1
 have hst1:=fun W o m=>(hst W o m).2.1
 have hst2:=fun W o m=>(hst W o m).2.2
 clear hst
 go_wp2_with fail
 have hn01:(⟨w.heap.size + 1,0,none⟩:Addr) ≠ ⟨w.heap.size + 1,1,none⟩:=fun e=>by simp at e
 have hn02:(⟨w.heap.size + 1,0,none⟩:Addr) ≠ ⟨w.heap.size + 1,2,none⟩:=fun e=>by simp at e
 have hn12:(⟨w.heap.size + 1,1,none⟩:Addr) ≠ ⟨w.heap.size + 1,2,none⟩:=fun e=>by simp at e
 have d2:(((w2.setCell ⟨w.heap.size + 1,0,none⟩ F0).setCell ⟨w.heap.size + 1,1,none⟩ F1).setCell ⟨w.heap.size + 1,2,none⟩ F2).cell? ⟨w.heap.size + 1,2,none⟩ = some F2 :=
  World.cell?_setCell_same _ _ _ ((World.cell?_setCell_other _ _ _ _ hn12).trans ((World.cell?_setCell_other _ _ _ _ hn02).trans c2))
 have d1:(((w2.setCell ⟨w.heap.size + 1,0,none⟩ F0).setCell ⟨w.heap.size + 1,1,none⟩ F1).setCell ⟨w.heap.size + 1,2,none⟩ F2).cell? ⟨w.heap.size + 1,1,none⟩ = some F1 :=
  (World.cell?_setCell_other _ _ _ _ hn12.symm).trans (World.cell?_setCell_same _ _ _ ((World.cell?_setCell_other _ _ _ _ hn01).trans c1))
 have d0:(((w2.setCell ⟨w.heap.size + 1,0,none⟩ F0).setCell ⟨w.heap.size + 1,1,none⟩ F1).setCell ⟨w.heap.size + 1,2,none⟩ F2).cell? ⟨w.heap.size + 1,0,none⟩ = some F0 :=
  (World.cell?_setCell_other _ _ _ _ hn02.symm).trans ((World.cell?_setCell_other _ _ _ _ hn01.symm).trans (World.cell?_setCell_same _ _ _ c0))
 have hne:W2.heap.size ≠ w.heap.size + 1:=by rw [za HS2]; omega
 have HT5:=hide (zG (za HTR2) (w':=((w2.setCell ⟨w.heap.size + 1,0,none⟩ F0).setCell ⟨w.heap.size + 1,1,none⟩ F1).setCell ⟨w.heap.size + 1,2,none⟩ F2) ((Below.heap_setCell _ _ _ _ hne).trans ((Below.heap_setCell _ _ _ _ hne).trans (Below.heap_setCell _ _ _ _ hne))))
 have HB5:=hide ((((za HB2).setCell (p:=⟨w.heap.size + 1,0,none⟩) (by simp) F0).setCell (p:=⟨w.heap.size + 1,1,none⟩) (by simp) F1).setCell (p:=⟨w.heap.size + 1,2,none⟩) (by simp) F2)
 generalize ((w2.setCell ⟨w.heap.size + 1,0,none⟩ F0).setCell ⟨w.heap.size + 1,1,none⟩ F1).setCell ⟨w.heap.size + 1,2,none⟩ F2 = W5 at *
 try simp only [Exit.inBlock,Exit.then]
 refine bodyPost_ret (by simp [results,Tryz.results94,go_sem,d0,d1,d2]; try rfl) rfl ?_
 refine ⟨W2.heap.size,?_,za HT5,by rw [za HS2]; omega,za HB5⟩
 subst hF0 hF1 hF2
 rfl
set_option maxHeartbeats 400000 in
theorem sideOf_sell (next:Int) (sd:Int) (hsd:¬ sd = 1) (v:Value) (l:List Od) (w:World) (hr:RdR Od.vs 6 w v l) (hn:l.length ≤ 20) (hl:∀ o' ∈ l,0 ≤ o'.left∧o'.left ≤ 1000000) :
  Calls Tryz.prog 94 #[.agg #[.int .i64 next,v],.int .i64 sd] w fun e w' =>
   ∃ b,e = .returned (zbZ b)∧zak 173 false w' b sd (zz l sd)∧w.heap.size ≤ b∧Below w.heap.size w w':=by
 have HR:=hide hr
 have HL:=hide hl
 obtain ⟨a,cap,rfl,hlen,hc⟩:=hr
 have hs1:(w.alloc (Obj.cells #[.int .i64 next,.slice a l.length cap] 46)).heap.size = w.heap.size + 1:=ze _ _
 have r1:=zh (w.alloc (Obj.cells #[.int .i64 next,.slice a l.length cap] 46)) [.nilFunc,.nilFunc,.nilFunc] 145
 have t1:=zaq (n:=3) (heap_alloc_new (w.alloc (Obj.cells #[.int .i64 next,.slice a l.length cap] 46)) (Obj.cells #[.nilFunc,.nilFunc,.nilFunc] 145)) (by simp)
 rw [hs1] at r1 t1
 have hs2:((w.alloc (Obj.cells #[.int .i64 next,.slice a l.length cap] 46)).alloc (Obj.cells #[.nilFunc,.nilFunc,.nilFunc] 145)).heap.size = w.heap.size + 1 + 1:=by rw [ze,hs1]
 have HB0:Hid (Below w.heap.size w ((w.alloc (Obj.cells #[.int .i64 next,.slice a l.length cap] 46)).alloc (Obj.cells #[.nilFunc,.nilFunc,.nilFunc] 145))) :=
  ((Below.refl _ _).alloc (Nat.le_refl _) _).alloc (by rw [hs1]; omega) _
 have HX:Hid (_∧_):=⟨r1,t1⟩
 have HS2:=hide hs2
 clear r1 t1 hs1 hs2 hc hl
 go_enter Tryz.func94,Tryz.ntmps94
 go_wp2_with fail
 generalize ((w.alloc (Obj.cells #[.int .i64 next,.slice a l.length cap] 46)).alloc (Obj.cells #[.nilFunc,.nilFunc,.nilFunc] 145)) = W2 at HB0 HX HS2 ⊢
 refine (plant_s _ l sd W2 (zl (za HR) (za HB0) (Nat.le_refl _)) hn (za HL)).mono ?_
 rintro e w1 ⟨rfl,htr,hb1⟩
 have HTR:=hide htr
 have HB1:=hide hb1
 clear htr hb1
 go_wp2_with fail
 refine (ask_s W2.heap.size w1).mono ?_
 rintro e w2 ⟨rfl,hb2⟩
 have HTR2:=hide (zG (za HTR) (hb2.block _ (zaf (za HTR))))
 have hb12:=(za HB1).trans (hb2.mono (za HB1).size)
 obtain ⟨x1,x2⟩:=za HX
 have y1:=zb x1 hb12 (by rw [za HS2]; omega)
 have y2:=zf x2 hb12 (by rw [za HS2]; omega)
 have HB2:=hide ((za HB0).trans (hb12.mono (za HB0).size))
 have c0:w2.cell? ⟨w.heap.size + 1,0,none⟩ = some .nilFunc:=y1 0 _ rfl
 have c1:w2.cell? ⟨w.heap.size + 1,1,none⟩ = some .nilFunc:=y1 1 _ rfl
 have c2:w2.cell? ⟨w.heap.size + 1,2,none⟩ = some .nilFunc:=y1 2 _ rfl
 have f0:w2.frozen? ⟨w.heap.size + 1,0,none⟩ = false:=(y2 0 (by omega)).2
 have f1:w2.frozen? ⟨w.heap.size + 1,1,none⟩ = false:=(y2 1 (by omega)).2
 have f2:w2.frozen? ⟨w.heap.size + 1,2,none⟩ = false:=(y2 2 (by omega)).2
 clear hb2 hb12 x1 x2 y1 y2
 unfold zbZ
 generalize hF0:Value.func (.func 115) #[.pointer (some ⟨W2.heap.size,0,none⟩)] #[] = F0
 generalize hF1:Value.func (.func 116) #[.pointer (some ⟨W2.heap.size,0,none⟩)] #[] = F1
 generalize hF2:Value.func (.func 117) #[.pointer (some ⟨W2.heap.size,0,none⟩)] #[] = F2
 have hst:∀ (W:World) (o:Nat) (m:Mode),((store ⟨w.heap.size + 1,o,none⟩ F0 m).run Tryz.prog W = stored Tryz.prog W ⟨w.heap.size + 1,o,none⟩ F0 m)∧((store ⟨w.heap.size + 1,o,none⟩ F1 m).run Tryz.prog W = stored Tryz.prog W ⟨w.heap.size + 1,o,none⟩ F1 m)∧((store ⟨w.heap.size + 1,o,none⟩ F2 m).run Tryz.prog W = stored Tryz.prog W ⟨w.heap.size + 1,o,none⟩ F2 m):=fun W o m=>by
  subst hF0 hF1 hF2
  exact ⟨run_store _ W _ _ m rfl,run_store _ W _ _ m rfl,run_store _ W _ _ m rfl⟩
 have hst0:=fun W o m=>(hst W o m).1
 have hst1:=fun W o m=>(hst W o m).2.1
 have hst2:=fun W o m=>(hst W o m).2.2
 clear hst
 go_wp2_with fail
 have hn01:(⟨w.heap.size + 1,0,none⟩:Addr) ≠ ⟨w.heap.size + 1,1,none⟩:=fun e=>by simp at e
 have hn02:(⟨w.heap.size + 1,0,none⟩:Addr) ≠ ⟨w.heap.size + 1,2,none⟩:=fun e=>by simp at e
 have hn12:(⟨w.heap.size + 1,1,none⟩:Addr) ≠ ⟨w.heap.size + 1,2,none⟩:=fun e=>by simp at e
 have d2:(((w2.setCell ⟨w.heap.size + 1,0,none⟩ F0).setCell ⟨w.heap.size + 1,1,none⟩ F1).setCell ⟨w.heap.size + 1,2,none⟩ F2).cell? ⟨w.heap.size + 1,2,none⟩ = some F2 :=
  World.cell?_setCell_same _ _ _ ((World.cell?_setCell_other _ _ _ _ hn12).trans ((World.cell?_setCell_other _ _ _ _ hn02).trans c2))
 have d1:(((w2.setCell ⟨w.heap.size + 1,0,none⟩ F0).setCell ⟨w.heap.size + 1,1,none⟩ F1).setCell ⟨w.heap.size + 1,2,none⟩ F2).cell? ⟨w.heap.size + 1,1,none⟩ = some F1 :=
  (World.cell?_setCell_other _ _ _ _ hn12.symm).trans (World.cell?_setCell_same _ _ _ ((World.cell?_setCell_other _ _ _ _ hn01).trans c1))
 have d0:(((w2.setCell ⟨w.heap.size + 1,0,none⟩ F0).setCell ⟨w.heap.size + 1,1,none⟩ F1).setCell ⟨w.heap.size + 1,2,none⟩ F2).cell? ⟨w.heap.size + 1,0,none⟩ = some F0 :=
  (World.cell?_setCell_other _ _ _ _ hn02.symm).trans ((World.cell?_setCell_other _ _ _ _ hn01.symm).trans (World.cell?_setCell_same _ _ _ c0))
 have hne:W2.heap.size ≠ w.heap.size + 1:=by rw [za HS2]; omega
 have HT5:=hide (zG (za HTR2) (w':=((w2.setCell ⟨w.heap.size + 1,0,none⟩ F0).setCell ⟨w.heap.size + 1,1,none⟩ F1).setCell ⟨w.heap.size + 1,2,none⟩ F2) ((Below.heap_setCell _ _ _ _ hne).trans ((Below.heap_setCell _ _ _ _ hne).trans (Below.heap_setCell _ _ _ _ hne))))
 have HB5:=hide ((((za HB2).setCell (p:=⟨w.heap.size + 1,0,none⟩) (by simp) F0).setCell (p:=⟨w.heap.size + 1,1,none⟩) (by simp) F1).setCell (p:=⟨w.heap.size + 1,2,none⟩) (by simp) F2)
 generalize ((w2.setCell ⟨w.heap.size + 1,0,none⟩ F0).setCell ⟨w.heap.size + 1,1,none⟩ F1).setCell ⟨w.heap.size + 1,2,none⟩ F2 = W5 at *
 try simp only [Exit.inBlock,Exit.then]
 refine bodyPost_ret (by simp [results,Tryz.results94,go_sem,d0,d1,d2]; try rfl) rfl ?_
 refine ⟨W2.heap.size,?_,za HT5,by rw [za HS2]; omega,za HB5⟩
 subst hF0 hF1 hF2
 rfl
def hdO (q:List Od):Od:=(q.head?).getD zOd
def hdF (q:List Od):Bool:=(q.head?).isSome
theorem frOf_eq (q:List Od):frOf q = .tuple #[.agg #[.int .i64 (hdO q).id,.int .i64 (hdO q).side,.int .i64 (hdO q).ticks,.int .i64 (hdO q).left,.int .i64 (hdO q).life,.string (hdO q).tag],.bool (hdF q)]:=by
 unfold frOf hdO hdF
 cases q.head? <;> rfl
def noV (c:Cm):Value:=.agg #[.int .i64 c.s,.int .i64 c.t,.int .i64 c.l,.int .i64 c.q,.float .f64 c.p,.string c.g]
def zaJ (t:Int):Bool:=decide (t = 1) || decide (t = 5)
def prcB (c:Cm):Bool:=if c.t = 2 then decide (fbit c.p = 0) else tkOk c.p
def zcn (c:Cm) (o:Od):Bool:=if c.t = 2 then true else if c.s = 1 then decide (o.ticks ≤ tk c.p) else decide (tk c.p ≤ o.ticks)
def ordO (c:Cm) (id:Int):Od:=⟨id,c.s,tk c.p,c.q,c.l,c.g⟩
def othS (s:Int):Int:=if s = 1 then 2 else 1
theorem isType_any (t:Int) (w:World) :
  Calls Tryz.prog 86 #[.int .i64 t] w fun e w'=>e = .returned (.bool (betB t 1 5))∧w' = w:=by
 go_enter Tryz.func86,Tryz.ntmps86
 go_wp2_with fail
 refine (zaL t 1 5 w).mono ?_
 rintro e w' ⟨rfl,rfl⟩
 go_wp2_with fail
 go_ret
 exact ⟨rfl,rfl⟩
theorem isQty_any (t:Int) (w:World) :
  Calls Tryz.prog 89 #[.int .i64 t] w fun e w'=>e = .returned (.bool (betB t 1 1000000))∧w' = w:=by
 go_enter Tryz.func89,Tryz.ntmps89
 go_wp2_with fail
 refine (zaL t 1 1000000 w).mono ?_
 rintro e w' ⟨rfl,rfl⟩
 go_wp2_with fail
 go_ret
 exact ⟨rfl,rfl⟩
theorem otherSide_any (s:Int) (w:World) :
  Calls Tryz.prog 95 #[.int .i64 s] w fun e w'=>e = .returned (.int .i64 (othS s))∧w' = w:=by
 by_cases h:s = 1
 ·subst h
  go_enter Tryz.func95,Tryz.ntmps95
  go_wp2_with fail
  go_ret
  exact ⟨rfl,rfl⟩
 ·have h':(s == 1) = false:=by simpa using h
  have HS:Hid (othS s = 1):=if_neg h
  go_enter Tryz.func95,Tryz.ntmps95
  go_wp2_with fail
  go_ret
  exact ⟨zr (za HS).symm,rfl⟩
set_option maxHeartbeats 400000 in
theorem zbW (c:Cm) (w:World) :
  Calls Tryz.prog 72 #[noV c] w fun e w'=>e = .returned (.bool (zaJ c.t))∧Below w.heap.size w w':=by
 obtain ⟨k,s,t,l,q,i,p,g⟩:=c
 unfold noV
 simp only
 by_cases h1:t = 1
 ·subst h1
  go_enter Tryz.func72,Tryz.ntmps72
  go_wp2_with fail
  go_ret
  exact ⟨rfl,by go_grown⟩
 ·have b1:(t == 1) = false:=by simpa using h1
  by_cases h5:t = 5
  ·subst h5
   go_enter Tryz.func72,Tryz.ntmps72
   go_wp2_with fail
   go_ret
   exact ⟨rfl,by go_grown⟩
  ·have b5:(t == 5) = false:=by simpa using h5
   have HR:Hid (zaJ t = false):=by show zaJ t = false; simp [zaJ,h1,h5]
   go_enter Tryz.func72,Tryz.ntmps72
   go_wp2_with fail
   go_ret
   exact ⟨zy (za HR).symm,by go_grown⟩
set_option maxHeartbeats 400000 in
theorem hasPrice_any (c:Cm) (w:World) :
  Calls Tryz.prog 88 #[noV c] w fun e w'=>e = .returned (.bool (prcB c))∧Below w.heap.size w w':=by
 obtain ⟨k,s,t,l,q,i,p,g⟩:=c
 unfold noV
 simp only
 have HB:Hid (Below w.heap.size w (w.alloc (Obj.cells #[.int .i64 s,.int .i64 t,.int .i64 l,.int .i64 q,.float .f64 p,.string g] 99))):=(Below.refl _ _).alloc (Nat.le_refl _) _
 by_cases h2:t = 2
 ·subst h2
  have HP:Hid (prcB ⟨k,s,2,l,q,i,p,g⟩ = decide (fbit p = 0)):=if_pos rfl
  go_enter Tryz.func88,Tryz.ntmps88
  go_wp2_with fail
  refine (floatBits_any p _).mono ?_
  rintro e w' ⟨rfl,rfl⟩
  go_wp2_with fail
  go_ret
  exact ⟨zy (by rw [za HP,Bool.eq_iff_iff]; simp),za HB⟩
 ·have b2:(t == 2) = false:=by simpa using h2
  have HP:Hid (prcB ⟨k,s,t,l,q,i,p,g⟩ = tkOk p):=if_neg h2
  go_enter Tryz.func88,Tryz.ntmps88
  go_wp2_with fail
  refine (zbf p _).mono ?_
  rintro e w' ⟨rfl,rfl⟩
  go_wp2_with fail
  go_ret
  exact ⟨zy (za HP).symm,za HB⟩
set_option maxHeartbeats 400000 in
theorem meets_any (c:Cm) (o:Od) (w:World) :
  Calls Tryz.prog 96 #[noV c,.agg #[.int .i64 o.id,.int .i64 o.side,.int .i64 o.ticks,.int .i64 o.left,.int .i64 o.life,.string o.tag]] w fun e w'=>e = .returned (.bool (zcn c o))∧Below w.heap.size w w':=by
 obtain ⟨k,s,t,l,q,i,p,g⟩:=c
 obtain ⟨id,side,ticks,left,life,tag⟩:=o
 unfold noV
 simp only
 have HB:Hid (Below w.heap.size w ((w.alloc (Obj.cells #[.int .i64 s,.int .i64 t,.int .i64 l,.int .i64 q,.float .f64 p,.string g] 99)).alloc (Obj.cells #[.int .i64 id,.int .i64 side,.int .i64 ticks,.int .i64 left,.int .i64 life,.string tag] 78))):=((Below.refl _ _).alloc (Nat.le_refl _) _).alloc (by rw [ze]; omega) _
 by_cases h2:t = 2
 ·subst h2
  have HP:Hid (zcn ⟨k,s,2,l,q,i,p,g⟩ ⟨id,side,ticks,left,life,tag⟩ = true):=if_pos rfl
  go_enter Tryz.func96,Tryz.ntmps96
  go_wp2_with fail
  go_ret
  exact ⟨zy (za HP).symm,za HB⟩
 ·have b2:(t == 2) = false:=by simpa using h2
  by_cases h1:s = 1
  ·subst h1
   have HP:Hid (zcn ⟨k,1,t,l,q,i,p,g⟩ ⟨id,side,ticks,left,life,tag⟩ = decide (ticks ≤ tk p)):=by show _ = _; rw [zcn,if_neg h2]; rfl
   go_enter Tryz.func96,Tryz.ntmps96
   go_wp2_with fail
   refine (zbf p _).mono ?_
   rintro e w' ⟨rfl,rfl⟩
   go_wp2_with fail
   go_ret
   exact ⟨zy (za HP).symm,za HB⟩
  ·have b1:(s == 1) = false:=by simpa using h1
   have HP:Hid (zcn ⟨k,s,t,l,q,i,p,g⟩ ⟨id,side,ticks,left,life,tag⟩ = decide (tk p ≤ ticks)):=by show _ = _; rw [zcn,if_neg h2,if_neg h1]
   go_enter Tryz.func96,Tryz.ntmps96
   go_wp2_with fail
   refine (zbf p _).mono ?_
   rintro e w' ⟨rfl,rfl⟩
   go_wp2_with fail
   go_ret
   exact ⟨zy (za HP).symm,za HB⟩
set_option maxHeartbeats 400000 in
theorem order_any (c:Cm) (id:Int) (w:World) :
  Calls Tryz.prog 93 #[noV c,.int .i64 id] w fun e w'=>e = .returned (.agg #[.int .i64 id,.int .i64 c.s,.int .i64 (tk c.p),.int .i64 c.q,.int .i64 c.l,.string c.g])∧Below w.heap.size w w':=by
 obtain ⟨k,s,t,l,q,i,p,g⟩:=c
 unfold noV
 simp only
 go_enter Tryz.func93,Tryz.ntmps93
 go_wp2_with fail
 refine (zbf p _).mono ?_
 rintro e w' ⟨rfl,rfl⟩
 go_wp2_with fail
 go_returns
 refine ⟨rfl,?_⟩
 go_grown
set_option maxHeartbeats 400000 in
theorem toldNew_any (c:Cm) (w:World) :
  Calls Tryz.prog 71 #[noV c] w fun e w'=>e = .returned (.agg #[.int .i64 1,.int .i64 c.s,.int .i64 c.t,.int .i64 c.l,.int .i64 c.q,.int .i64 0,.float .f64 c.p,.string c.g])∧Below w.heap.size w w':=by
 obtain ⟨k,s,t,l,q,i,p,g⟩:=c
 unfold noV
 have hsf:=sfl
 simp only
 go_enter Tryz.func71,Tryz.ntmps71
 go_wp2_with fail
 go_returns
 refine ⟨rfl,?_⟩
 go_grown
theorem toldCancel_any (i:Int) (w:World) :
  Calls Tryz.prog 138 #[.agg #[.int .i64 i]] w fun e w'=>e = .returned (.agg #[.int .i64 2,.int .i64 0,.int .i64 0,.int .i64 0,.int .i64 0,.int .i64 i,.float .f64 0,.string ⟨#[]⟩])∧Below w.heap.size w w':=by
 have hsf:=sfl
 go_enter Tryz.func138,Tryz.ntmps138
 go_wp2_with fail
 go_returns
 refine ⟨rfl,?_⟩
 go_grown
theorem toldReduce_any (i q:Int) (w:World) :
  Calls Tryz.prog 139 #[.agg #[.int .i64 i,.int .i64 q]] w fun e w'=>e = .returned (.agg #[.int .i64 3,.int .i64 0,.int .i64 0,.int .i64 0,.int .i64 q,.int .i64 i,.float .f64 0,.string ⟨#[]⟩])∧Below w.heap.size w w':=by
 have hsf:=sfl
 go_enter Tryz.func139,Tryz.ntmps139
 go_wp2_with fail
 go_returns
 refine ⟨rfl,?_⟩
 go_grown
theorem toldDay_any (w:World) :
  Calls Tryz.prog 140 #[.agg #[]] w fun e w'=>e = .returned (.agg #[.int .i64 4,.int .i64 0,.int .i64 0,.int .i64 0,.int .i64 0,.int .i64 0,.float .f64 0,.string ⟨#[]⟩])∧Below w.heap.size w w':=by
 have hsf:=sfl
 go_enter Tryz.func140,Tryz.ntmps140
 go_wp2_with fail
 go_returns
 refine ⟨rfl,?_⟩
 go_grown
theorem count_set:∀ (x:List Bool) (i:Nat),x[i]? = some false→(x.set i true).count false + 1 = x.count false
 | [],i,h=>by simp at h
 | b :: r,0,h=>by simp at h; subst h; simp
 | b :: r,i + 1,h=>by
  have ih:=count_set r i (by simpa using h)
  simp only [List.set_cons_succ,List.count_cons]
  omega
theorem no_false {x:List Bool} (h:x.count false = 0) (i:Nat):x[i]? ≠ some false:=fun e=>by
 have:=List.count_pos_iff.2 (List.mem_of_getElem? e)
 omega
section
variable {P:Program} {Q:Exit→Act→World→Prop} {l:List Oper} (R:List Bool→Act→World→Prop)

theorem ready_facts {x:List Bool} (hx:x.length = l.length) {i:Nat} (h:i ∈ Region.ready .any l.toArray x.toArray) :
  ∃ o,l[i]? = some o∧x[i]? = some false∧∀ e ∈ o.after,Region.binds .any e = true→x[e.on]? = some true:=by
 obtain ⟨h1,o,h2,h3⟩:=mem_ready.1 h
 refine ⟨o,by simpa using h2,?_,fun e he hb=>?_⟩
 ·by_cases hi:i < x.length
  ·simp [hi] at h1; simp [hi,h1]
  ·simp [hi] at h1
 ·have:=h3 e he hb
  by_cases hi:e.on < x.length
  ·simp [hi] at this; simp [hi,this]
  ·simp [hi] at this
theorem ready_none {x:List Bool} (h:Region.ready .any l.toArray x.toArray = []) (hx:x.length = l.length) (i:Nat) (o:Oper) (ho:l[i]? = some o) (hall:∀ e ∈ o.after,Region.binds .any e = true→x[e.on]? = some true):x[i]? = some true:=by
 have hi:i < x.length:=by rw [hx]; exact (List.getElem?_eq_some_iff.1 ho).1
 cases hb:x[i]
 ·exfalso
  have:i ∈ Region.ready .any l.toArray x.toArray:=mem_ready.2 ⟨by simp [hi,hb],o,by simpa using ho,fun e he hbd=>by
   have:=hall e he hbd
   obtain ⟨h1,h2⟩:=List.getElem?_eq_some_iff.1 this
   simp [h1,h2]⟩
  rw [h] at this; simp at this
 ·simp [hi,hb]
theorem wpAny_inv
  (hend:∀ x a w,R x a w→x.length = l.length→Region.ready .any l.toArray x.toArray = []→Q .normal a w)
  (hstep:∀ x a w i o,R x a w→x.length = l.length→l[i]? = some o→x[i]? = some false→(∀ e ∈ o.after,Region.binds .any e = true→x[e.on]? = some true) →
   (if Region.wanted o (yielded l.toArray a.tmps) then o.wp P a w (fun a' w'=>R (x.set i true) a' w') Q else R (x.set i true) (a.put o.dst undef) w)) :
  ∀ (n:Nat) (x:List Bool) (a:Act) (w:World),x.count false = n→x.length = l.length→R x a w→wpAny P .any l.toArray Q n x.toArray a w
 | 0,x,a,w,hn,hx,hR=>by
  have hr:Region.ready .any l.toArray x.toArray = []:=by
   apply List.eq_nil_iff_forall_not_mem.2
   intro i hi
   obtain ⟨o,_,h2,_⟩:=ready_facts hx hi
   exact no_false hn i h2
  exact ⟨hr,hend x a w hR hx hr⟩
 | n + 1,x,a,w,hn,hx,hR=>by
  refine ⟨fun hr=>hend x a w hR hx hr,fun i hi=>?_⟩
  obtain ⟨o,h1,h2,h3⟩:=ready_facts hx hi
  have hs:=hstep x a w i o hR hx h1 h2 h3
  have hc:=count_set x i h2
  have hnext:∀ a' w',R (x.set i true) a' w'→wpAny P .any l.toArray Q n (x.toArray.setIfInBounds i true) a' w':=fun a' w' h=>by
   have:=wpAny_inv hend hstep n (x.set i true) a' w' (by omega) (by simpa using hx) h
   simpa using this
  have ho:l.toArray[i]? = some o:=by simpa using h1
  unfold wpOp
  rw [ho]
  simp only
  split
  ·next hw=>rw [if_pos hw] at hs; exact .inl (Oper.wp_mono hnext hs)
  ·next hw=>rw [if_neg hw] at hs; exact hnext _ _ hs
theorem zay {id:Nat} {a:Act} {w:World} (hm:P.follows .mixedOrders = true)
  (h0:R (List.replicate l.length false) a { w with drawn:=w.drawn + 1 })
  (hend:∀ x a w,R x a w→x.length = l.length→Region.ready .any l.toArray x.toArray = []→Q .normal a w)
  (hstep:∀ x a w i o,R x a w→x.length = l.length→l[i]? = some o→x[i]? = some false→(∀ e ∈ o.after,Region.binds .any e = true→x[e.on]? = some true) →
   (if Region.wanted o (yielded l.toArray a.tmps) then o.wp P a w (fun a' w'=>R (x.set i true) a' w') Q else R (x.set i true) (a.put o.dst undef) w)) :
  (Code.region id l.toArray true).wp P Q a w:=by
 refine wp_region_any hm ?_
 have:=wpAny_inv R hend hstep l.length (List.replicate l.length false) a { w with drawn:=w.drawn + 1 } (by simp) (by simp) h0
 simpa using this
end
def RGrow (base:World) (F:(Nat→Value)→Act) (C:Nat→Value→Prop) (x:List Bool) (A:Act) (W:World):Prop :=
 ∃ f,A = F f∧Below base.heap.size base W∧∀ j,x[j]? = some true→C j (f j)
theorem zv {C:Nat→Value→Prop} {x:List Bool} {f:Nat→Value} {i:Nat} {v:Value} (h:∀ j,x[j]? = some true→C j (f j)) (hv:C i v):∀ j,(x.set i true)[j]? = some true→C j (upd f i v j):=fun j hj=>by
 by_cases hji:j = i
 ·subst hji; rw [zp]; exact hv
 ·rw [zq _ _ hji]; rw [List.getElem?_set_ne (fun e=>hji e.symm)] at hj; exact h j hj
theorem zab {l:List Oper} {x:List Bool} (h:Region.ready .any l.toArray x.toArray = []) (hx:x.length = l.length) (hacy:∀ (i:Nat) (o:Oper),l[i]? = some o→∀ e ∈ o.after,e.on < i):∀ i,i < l.length→x[i]? = some true:=by
 intro i
 induction i using Nat.strongRecOn with
 | _ i ih =>
  intro hi
  refine ready_none h hx i l[i] (List.getElem?_eq_getElem hi) fun e he _=>?_
  have:=hacy i l[i] (List.getElem?_eq_getElem hi) e he
  exact ih e.on this (by omega)
end Go.Proofs.YtopjoogdpjaocaaGreat
