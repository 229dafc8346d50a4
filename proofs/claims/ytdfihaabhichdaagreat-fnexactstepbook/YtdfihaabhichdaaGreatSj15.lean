/-
  Commands held against each other, by the program: proved by walking the function.
-/
import Derived.Test.YtdfihaabhichdaaGreatSj04
import Derived.Test.YtdfihaabhichdaaGreatSj14
namespace Go.Proofs.YtdfihaabhichdaaGreat
open Go.RowKit
set_option linter.unusedVariables false

def ofC (c:Cm):Ev:=⟨0,c,0,0,0,0,0⟩
def zay (c d:Cm):Bool:=(c.k == d.k) && ((c.s == d.s) && ((c.t == d.t) && ((c.l == d.l) && ((c.q == d.q) && ((c.i == d.i) && ((fbit c.p == fbit d.p) && decide (c.g.toList = d.g.toList)))))))
theorem eqVl (c d:Cm) (W:World):(binOp .eql 182 (vlV (ofC c)) (vlV (ofC d))).run Tryz.prog W = .ok (.bool (zay c d)) W:=by
 unfold vlV ofC
 simp only
 go_simp
 unfold zay
 by_cases h1:c.k = d.k
 ·by_cases h2:c.s = d.s
  ·by_cases h3:c.t = d.t
   ·by_cases h4:c.l = d.l
    ·by_cases h5:c.q = d.q
     ·by_cases h6:c.i = d.i
      ·by_cases h7:fbit c.p = fbit d.p
       ·by_cases h8:c.g.toList = d.g.toList
        ·simp [h1,h2,h3,h4,h5,h6,h7,h8]
        ·simp [h1,h2,h3,h4,h5,h6,h7,h8]
       ·have h7':¬ ((fbit c.p:Int) = fbit d.p):=by omega
        have h7b:(fbit c.p == fbit d.p) = false:=by simpa using h7
        rw [if_neg h7',h7b]
        simp [h1,h2,h3,h4,h5,h6]
      ·simp [h1,h2,h3,h4,h5,h6]
     ·simp [h1,h2,h3,h4,h5]
    ·simp [h1,h2,h3,h4]
   ·simp [h1,h2,h3]
  ·simp [h1,h2]
 ·simp [h1]
theorem eqGd (c d:Cm) (W:World):(eqGuard .eql 182 (.tmp 7) (.tmp 10) (vlV (ofC c)) (vlV (ofC d))).run Tryz.prog W = .ok () W:=by
 unfold vlV ofC
 simp only
 go_simp
def CS (c d:Cm):Nat→Value→Prop
 | 0,v=>v = cmV c
 | 1,v=>v = evV (ofC c)
 | 2,v=>v = vlV (ofC c)
 | 3,v=>v = cmV d
 | 4,v=>v = evV (ofC d)
 | 5,v=>v = vlV (ofC d)
 | 6,v=>v = .bool (zay c d)
 | 7,v=>v = .bool (zay c d)
 | _,_=>True
set_option maxRecDepth 100000 in
set_option maxHeartbeats 1600000 in
theorem zbW (c d:Cm) (w:World) :
  Calls Tryz.prog 112 #[cmV c,cmV d] w fun e w'=>e = .returned (.bool (zay c d))∧Below w.heap.size w w':=by
 have hs1:(w.alloc (Obj.cells c.vs.toArray 37)).heap.size = w.heap.size + 1:=ze _ _
 have hs2:((w.alloc (Obj.cells c.vs.toArray 37)).alloc (Obj.cells d.vs.toArray 37)).heap.size = w.heap.size + 1 + 1:=by rw [ze,hs1]
 have r0:=zb (zh w c.vs 37) (C:=w.heap.size + 1) ((Below.refl _ _).alloc (by rw [hs1]; omega) (Obj.cells d.vs.toArray 37)) (by omega)
 have r1:=zh (w.alloc (Obj.cells c.vs.toArray 37)) d.vs 37
 rw [hs1] at r1
 have HB0:Hid (Below w.heap.size w ((w.alloc (Obj.cells c.vs.toArray 37)).alloc (Obj.cells d.vs.toArray 37))):=((Below.refl _ _).alloc (Nat.le_refl _) _).alloc (by rw [hs1]; omega) _
 have HX:Hid (_∧_):=⟨r0,r1⟩
 have HS2:=hide hs2
 clear r0 r1 hs1 hs2
 unfold cmV
 go_enter Tryz.func112,Tryz.ntmps112
 go_wp2_with fail
 unfold Cm.vs at HB0 HX HS2
 generalize hW:((w.alloc (Obj.cells (List.toArray [.int .i64 c.k,.int .i64 c.s,.int .i64 c.t,.int .i64 c.l,.int .i64 c.q,.int .i64 c.i,.float .f64 c.p,.string c.g]) 37)).alloc (Obj.cells (List.toArray [.int .i64 d.k,.int .i64 d.s,.int .i64 d.t,.int .i64 d.l,.int .i64 d.q,.int .i64 d.i,.float .f64 d.p,.string d.g]) 37)) = W at HB0 HX HS2
 refine zax (RGrow W (fun f=>{ tmps:=#[cmV c,cmV d,.pointer (some ⟨w.heap.size,0,none⟩),.pointer (some ⟨w.heap.size + 1,0,none⟩),f 7,f 0,f 1,f 2,f 3,f 4,f 5,f 6],defers:=[] }) (CS c d)) (by kernel_rfl) ?_ ?_ ?_
 ·refine ⟨upd (fun _=>undef) 7 (.bool false),rfl,?_,fun j hj=>by rw [List.getElem?_replicate] at hj; split at hj <;> simp at hj⟩
  rw [← hW]
  exact ⟨rfl,rfl,rfl,Nat.le_refl _,fun _ _=>rfl⟩
 ·rintro x A V ⟨f,rfl,hbel,hC⟩ hx hrd
  have hall7:=zab hrd hx (acyc _ (by kernel_rfl)) 7 (by simp)
  have e7:f 7 = .bool (zay c d):=hC 7 hall7
  simp only [e7]
  have HBV:=hide hbel
  clear hC hx hrd hall7 e7 hbel
  go_wp2_with fail
  go_ret
  exact ⟨rfl,(za HB0).trans ((za HBV).mono (za HB0).size)⟩
 ·rintro x A V i o ⟨f,rfl,hbel,hC⟩ hx ho hxi hall
  have HBV:=hide hbel
  have HC:=hide hC
  have hw0:w.heap.size < W.heap.size:=by rw [za HS2]; omega
  have hw1:w.heap.size + 1 < W.heap.size:=by rw [za HS2]; omega
  match i,ho with
  | 0,ho =>
   obtain rfl:=Option.some.inj ho
   obtain ⟨x0,x1,x2,x3,x4,x5,x6,x7⟩:=cm_cells (c:=c) (zb (za HX).1 hbel hw0)
   simp only [Nat.zero_add] at x0 x1 x2 x3 x4 x5 x6 x7
   clear hall hC hbel
   rw [if_pos (by rfl)]
   unfold Oper.wp
   go_simp
   exact ⟨upd f 0 (cmV c),by simp [upd,cmV],za HBV,zG (za HC) rfl⟩
  | 1,ho =>
   obtain rfl:=Option.some.inj ho
   have g0:f 0 = cmV c:=hC 0 (hall ⟨0,.data⟩ (by simp) rfl)
   clear hall hC hbel
   rw [if_pos (by rfl)]
   unfold Oper.wp
   unfold cmV at g0
   go_simp
   exact ⟨upd f 1 (evV (ofC c)),by simp [upd,evV,ofC,cmV,g0],za HBV,zG (za HC) rfl⟩
  | 2,ho =>
   obtain rfl:=Option.some.inj ho
   have g1:f 1 = evV (ofC c):=hC 1 (hall ⟨1,.data⟩ (by simp) rfl)
   clear hall hC hbel
   rw [if_pos (by rfl)]
   unfold Oper.wp
   go_simp
   refine (valueOf_any (ofC c) V).mono ?_
   rintro e w4 ⟨rfl,hb4⟩
   exact ⟨upd f 2 (vlV (ofC c)),by simp [upd,g1],(za HBV).trans (hb4.mono (za HBV).size),zG (za HC) rfl⟩
  | 3,ho =>
   obtain rfl:=Option.some.inj ho
   obtain ⟨x0,x1,x2,x3,x4,x5,x6,x7⟩:=cm_cells (c:=d) (zb (za HX).2 hbel hw1)
   simp only [Nat.zero_add] at x0 x1 x2 x3 x4 x5 x6 x7
   clear hall hC hbel
   rw [if_pos (by rfl)]
   unfold Oper.wp
   go_simp
   exact ⟨upd f 3 (cmV d),by simp [upd,cmV],za HBV,zG (za HC) rfl⟩
  | 4,ho =>
   obtain rfl:=Option.some.inj ho
   have g0:f 3 = cmV d:=hC 3 (hall ⟨3,.data⟩ (by simp) rfl)
   clear hall hC hbel
   rw [if_pos (by rfl)]
   unfold Oper.wp
   unfold cmV at g0
   go_simp
   exact ⟨upd f 4 (evV (ofC d)),by simp [upd,evV,ofC,cmV,g0],za HBV,zG (za HC) rfl⟩
  | 5,ho =>
   obtain rfl:=Option.some.inj ho
   have g1:f 4 = evV (ofC d):=hC 4 (hall ⟨4,.data⟩ (by simp) rfl)
   clear hall hC hbel
   rw [if_pos (by rfl)]
   unfold Oper.wp
   go_simp
   refine (valueOf_any (ofC d) V).mono ?_
   rintro e w4 ⟨rfl,hb4⟩
   exact ⟨upd f 5 (vlV (ofC d)),by simp [upd,g1],(za HBV).trans (hb4.mono (za HBV).size),zG (za HC) rfl⟩
  | 6,ho =>
   obtain rfl:=Option.some.inj ho
   have g2:f 2 = vlV (ofC c):=hC 2 (hall ⟨2,.data⟩ (by simp) rfl)
   have g5:f 5 = vlV (ofC d):=hC 5 (hall ⟨5,.data⟩ (by simp) rfl)
   have he:=eqVl c d V
   have hg:=eqGd c d V
   clear hall hC hbel
   rw [if_pos (by rfl)]
   unfold Oper.wp
   go_simp
   exact ⟨upd f 6 (.bool (zay c d)),by simp [upd,g2,g5],za HBV,zG (za HC) rfl⟩
  | 7,ho =>
   obtain rfl:=Option.some.inj ho
   have g6:f 6 = .bool (zay c d):=hC 6 (hall ⟨6,.data⟩ (by simp) rfl)
   clear hall hC hbel
   rw [if_pos (by rfl)]
   unfold Oper.wp
   go_simp
   exact ⟨upd f 7 (.bool (zay c d)),by simp [upd,g6],za HBV,zG (za HC) rfl⟩
  | n + 8,ho=>simp at ho
end Go.Proofs.YtdfihaabhichdaaGreat
namespace Go.Proofs.YtdfihaabhichdaaGreat
open Go.RowKit
set_option linter.unusedVariables false

def okI (next:Int) (l:List Od):Bool:=betB next 1 1000000 && decide (l.length ≤ 20) && idsR next 0 l && l.all ordB &&
  (decide ((zaA true 1 (zr l 1)).length + (zaA false 2 (zr l 2)).length ≤ 8) && !meetB (quOf true (zr l 1)) (quOf false (zr l 2)))
set_option maxRecDepth 100000 in
set_option maxHeartbeats 800000 in
theorem implBookOK_any (next:Int) (v:Value) (l:List Od) (w:World) (hr:RdR Od.vs 6 w v l) (hg:∀ c ∈ l,c.tag.size ≤ maxLen) :
    Calls Tryz.prog 37 #[.agg #[.int .i64 next,v]] w fun e w'=>e = .returned (.bool (okI next l))∧Below w.heap.size w w':=by
  have HR:=hide hr
  have HG:=hide hg
  obtain ⟨a,cap,rfl,hlen,hc⟩:=hr
  have hcell:∀ (k:Nat) (c:Od),l[k]? = some c→∃ b off,a = some ⟨b,off,none⟩∧b < w.heap.size∧w.rangeAt b (off + k * 6) c.vs:=by
    intro k c hk
    obtain ⟨b,off,h1,h2,h3⟩:=hc (by intro h; rw [h] at hk; simp at hk)
    exact ⟨b,off,h1,h2,h3 k c hk⟩
  have HC:=hide hcell
  clear hcell hc hg
  have HB0:Hid (Below w.heap.size w (w.alloc (Obj.cells #[.int .i64 next,.slice a l.length cap] 32))):=(Below.refl _ _).alloc (Nat.le_refl _) _
  have hbx:=zh w [.int .i64 next,.slice a l.length cap] 32
  have HX:Hid (World.cell? (w.alloc (Obj.cells #[.int .i64 next,.slice a l.length cap] 32)) ⟨w.heap.size,0,none⟩ = some (.int .i64 next)∧World.cell? (w.alloc (Obj.cells #[.int .i64 next,.slice a l.length cap] 32)) ⟨w.heap.size,1,none⟩ = some (.slice a l.length cap)∧w.heap.size < (w.alloc (Obj.cells #[.int .i64 next,.slice a l.length cap] 32)).heap.size):=⟨hbx 0 _ rfl,hbx 1 _ rfl,by rw [ze]; omega⟩
  clear hbx
  cases h1:betB next 1 1000000
  · go_enter Tryz.func37,Tryz.ntmps37
    go_wp2_with fail
    refine (zJ next 1 1000000 _).mono ?_
    rintro e w1 ⟨rfl,rfl⟩
    go_wp2_with fail
    go_ret
    exact ⟨zl (by simp [okI,h1]),za HB0⟩
  by_cases h2:l.length ≤ 20
  rotate_left
  · have h2':(20:Int) < l.length:=by omega
    go_enter Tryz.func37,Tryz.ntmps37
    go_wp2_with fail
    refine (zJ next 1 1000000 _).mono ?_
    rintro e w1 ⟨rfl,rfl⟩
    go_wp2_with fail
    go_ret
    exact ⟨zl (by simp [okI,h1,h2]),za HB0⟩
  have h2':¬ ((20:Int) < l.length):=by omega
  cases h3:idsR next 0 l
  · go_enter Tryz.func37,Tryz.ntmps37
    go_wp2_with fail
    refine (zJ next 1 1000000 _).mono ?_
    rintro e w1 ⟨rfl,rfl⟩
    go_wp2_with fail
    refine (idsRise_any next _ l _ (zj (za HR) (za HB0) (Nat.le_refl _))).mono ?_
    rintro e w2 ⟨rfl,hb2⟩
    have HB2:=hide ((za HB0).trans (hb2.mono (za HB0).size))
    clear hb2
    go_wp2_with fail
    go_ret
    exact ⟨zl (by simp [okI,h3]),za HB2⟩
  go_enter Tryz.func37,Tryz.ntmps37
  go_wp2_with fail
  refine (zJ next 1 1000000 _).mono ?_
  rintro e w1 ⟨rfl,rfl⟩
  go_wp2_with fail
  refine (idsRise_any next _ l _ (zj (za HR) (za HB0) (Nat.le_refl _))).mono ?_
  rintro e w2 ⟨rfl,hb2⟩
  have HB2:=hide ((za HB0).trans (hb2.mono (za HB0).size))
  have x0:=(hb2.cell (p:=⟨w.heap.size,0,none⟩) (za HX).2.2).trans (za HX).1
  have x1:=(hb2.cell (p:=⟨w.heap.size,1,none⟩) (za HX).2.2).trans (za HX).2.1
  have hsz2:w.heap.size < w2.heap.size:=Nat.lt_of_lt_of_le (za HX).2.2 hb2.size
  have HX2:Hid (w2.cell? ⟨w.heap.size,0,none⟩ = some (.int .i64 next)∧w2.cell? ⟨w.heap.size,1,none⟩ = some (.slice a l.length cap)):=⟨x0,x1⟩
  clear hb2 x0
  go_wp2_with fail
  go_loopw [25] (fun iv wr=>∃ (k:Nat),k ≤ l.length∧iv = .int .i64 k∧Hid (l.all ordB = (l.drop k).all ordB)∧Below w2.heap.size w2 wr) (fun iv _=>l.length - (intOf iv).toNat)
  case atStart=>exact ⟨0,Nat.zero_le _,rfl,by simp [Hid],Below.refl _ _⟩
  case round =>
    obtain ⟨k,hk,rfl,hall,hbel⟩:=hrel
    have HB:=hide hbel
    clear hbel x1
    by_cases hlt:k < l.length
    · obtain ⟨c,hkc⟩:∃ c,l[k]? = some c:=⟨_,List.getElem?_eq_getElem hlt⟩
      have hdr:l.drop k = c :: l.drop (k + 1):=by
        obtain ⟨h1,rfl⟩:=List.getElem?_eq_some_iff.1 hkc
        exact List.drop_eq_getElem_cons h1
      have HI:Hid (l.all ordB = (ordB c && (l.drop (k + 1)).all ordB)):=by
        have:=za hall
        rw [hdr] at this
        exact this
      obtain ⟨b,off,rfl,hb,hcl⟩:=za HC k c hkc
      obtain ⟨g0,g1,g2,g3,g4,g5⟩:=zy (zb hcl ((za HB2).trans ((za HB).mono (za HB2).size)) hb)
      have HS:=hide (za HG c (List.mem_of_getElem? hkc))
      have hlt':(k:Int) < l.length:=by omega
      have hszr:=(za HB).size
      clear hkc hcl hb hdr hall
      go_wp2_with fail
      refine (orderOK_any c _ (za HS)).mono ?_
      rintro e w3 ⟨rfl,hb3⟩
      have HB3:=hide (((za HB).alloc hszr _).trans (hb3.mono (by rw [ze]; omega)))
      clear hb3
      cases ho:ordB c
      · have HN:Hid (l.all ordB = false):=by
          have:=za HI
          rw [ho,Bool.false_and] at this
          exact this
        go_wp2_with fail
        go_ret
        exact ⟨zl (by rw [okI,za HN]; simp),(za HB2).trans ((za HB3).mono (za HB2).size)⟩
      · have HN:Hid (l.all ordB = (l.drop (k + 1)).all ordB):=by
          have:=za HI
          rw [ho,Bool.true_and] at this
          exact this
        go_wp2_with fail
        go_roundw
        case rel=>exact ⟨k + 1,by omega,by go_num,za HN,za HB3⟩
        case measure=>simp [intOf]; omega
    · have hall2:l.all ordB = true:=by
        have h:=za hall
        rw [List.drop_of_length_le (by omega)] at h
        rw [h]; rfl
      have HALL:=hide hall2
      clear hall hall2
      have y0:=((za HB).cell (p:=⟨w.heap.size,0,none⟩) hsz2).trans (za HX2).1
      have y1:=((za HB).cell (p:=⟨w.heap.size,1,none⟩) hsz2).trans (za HX2).2
      go_wp2_with fail
      have HRr:=hide (zj (zj (za HR) (za HB2) (Nat.le_refl _)) (za HB) (Nat.le_refl _))
      have hwr:w.heap.size < wr.heap.size:=Nat.lt_of_lt_of_le hsz2 (za HB).size
      have HLB:Hid (∀ o' ∈ l,0 ≤ o'.left∧o'.left ≤ 1000000):=fun o' ho'=>by
        have:=List.all_eq_true.1 (za HALL) o' ho'
        simp [ordB,betB] at this
        omega
      have HY:Hid (wr.cell? ⟨w.heap.size,0,none⟩ = some (.int .i64 next)∧wr.cell? ⟨w.heap.size,1,none⟩ = some (.slice a l.length cap)):=⟨y0,y1⟩
      clear y0 y1
      refine zax (fun x A W=>∃ v33 v34 v35 v36 v5 v6 b1 b2 p5 p6,A = { tmps:=#[.agg #[.int .i64 next,.slice a l.length cap],.pointer (some ⟨w.heap.size,0,none⟩),u2,undef,u4,v5,v6,.pointer (some ⟨w.heap.size,0,none⟩),.int .i64 next,.bool true,.bool false,.bool false,.pointer (some ⟨w.heap.size,1,none⟩),.slice a l.length cap,.int .i64 l.length,.bool (decide ((20:Int) < l.length)),.bool (decide ((20:Int) < l.length)),.bool (decide ((20:Int) < l.length)),.agg #[.int .i64 next,.slice a l.length cap],.bool true,.bool false,.bool (decide ((20:Int) < l.length)),.pointer (some ⟨w.heap.size,1,none⟩),.slice a l.length cap,.int .i64 l.length,.int .i64 k,.bool false,u27,u28,u29,u30,u31,u32,v33,v34,v35,v36,undef,undef,undef,undef,undef,undef,undef,undef,undef,undef],defers:=[] }∧RW9 wr (.agg #[.int .i64 next,.slice a l.length cap]) (zr l 1) (zr l 2) x v33 v34 v35 v36 v5 v6 b1 b2 p5 p6 W) (by kernel_rfl) ?_ ?_ ?_
      · refine ⟨undef,undef,undef,undef,undef,undef,0,0,0,0,rfl,?_⟩
        refine ⟨⟨rfl,rfl,rfl,Nat.le_refl _,fun _ _=>rfl⟩,?_,?_,?_,?_,?_,?_,?_,?_,?_,?_,?_,?_,?_⟩ <;> simp
      · rintro x A W ⟨v33,v34,v35,v36,v5,v6,b1,b2,p5,p6,rfl,hR⟩ hx hrd
        have q0:=zao hrd hx 0 _ rfl (by simp)
        have q2:=zao hrd hx 2 _ rfl (by simp)
        have q4:=zao hrd hx 4 _ rfl (by simp)
        have q5:=zao hrd hx 5 _ rfl (by simp)
        have q1:=zao hrd hx 1 _ rfl (by simp [q0])
        have q3:=zao hrd hx 3 _ rfl (by simp [q1,q2])
        have q6:=zao hrd hx 6 _ rfl (by simp [q0,q1,q2,q3,q4,q5])
        have q7:=zao hrd hx 7 _ rfl (by simp [q0,q1,q2,q3,q4,q5,q6])
        obtain ⟨e1,e2⟩:=hR.c34 q1
        obtain ⟨e3,e4⟩:=hR.c36 q3
        obtain ⟨e5,e6,e7,e8⟩:=hR.c5 q4
        obtain ⟨f5,f6,f7,f8⟩:=hR.c6 q5
        have e9:=(hR.s5 q6).2
        have f9:=(hR.s6 q7).2
        have hbW:=hR.bel
        subst e1 e3 e5 f5
        have HW:Hid (Tb W b1 (zr l 1)∧Ts W b2 (zr l 2)∧W.rangeAt p5 0 (zbX b1)∧W.rangeAt p6 0 (zcp b2)∧p5 < W.heap.size∧p6 < W.heap.size∧Below wr.heap.size wr W):=⟨e2,e4,e9,f9,e6,f6,hbW⟩
        clear hR q0 q1 q2 q3 q4 q5 q6 q7 e2 e4 e6 e7 e8 f6 f7 f8 e9 f9 hbW hrd hx
        have n1:(zr l 1).length ≤ 20:=Nat.le_trans (List.length_filter_le _ _) h2
        have n2:(zr l 2).length ≤ 20:=Nat.le_trans (List.length_filter_le _ _) h2
        obtain ⟨hT1,hT2,r5,r6,hp5,hp6,-⟩:=za HW
        have HBW:=hide ((za HB2).trans (((za HB).trans ((za HW).2.2.2.2.2.2.mono (za HB).size)).mono (za HB2).size))
        have HT1:=hide hT1
        have HT2:=hide hT2
        have HR5:=hide r5
        have HR6:=hide r6
        have hb1s:=zM hT1
        have hb2s:=zM hT2
        clear hT1 hT2 r5 r6
        generalize hL1:(zaA true 1 (zr l 1)).length = N1
        generalize hL2:(zaA false 2 (zr l 2)).length = N2
        generalize hmt:meetB (quOf true (zr l 1)) (quOf false (zr l 2)) = mt
        have HOK:Hid (okI next l = (decide (N1 + N2 ≤ 8) && !mt)):=by
          show okI next l = _
          rw [okI,h1,h3,za HALL,hL1,hL2,hmt,decide_eq_true h2]; rfl
        have HLL:Hid ((zaA true 1 (zr l 1)).length = N1∧(zaA false 2 (zr l 2)).length = N2∧meetB (quOf true (zr l 1)) (quOf false (zr l 2)) = mt):=⟨hL1,hL2,hmt⟩
        clear hL1 hL2 hmt
        have d0:=za HR5 0 _ rfl
        have d1:=za HR5 1 _ rfl
        have d2:=za HR5 2 _ rfl
        have e0:=za HR6 0 _ rfl
        have e1:=za HR6 1 _ rfl
        have e2:=za HR6 2 _ rfl
        rw [Nat.zero_add] at d0 d1 d2 e0 e1 e2
        go_wp2_with fail
        refine (zcg b1 b2 1 2 (zr l 1) (zr l 2) W (za HT1) (za HT2) n1 n2).mono ?_
        rw [(za HLL).1,(za HLL).2.1]
        rintro e w4 ⟨rfl,hb4⟩
        have HB4:=hide ((za HBW).trans (hb4.mono (za HBW).size))
        have HT14:=hide (zv (za HT1) (hb4.block _ hb1s))
        have HT24:=hide (zv (za HT2) (hb4.block _ hb2s))
        have d0:=zb (za HR5) hb4 hp5 0 _ rfl
        have d1:=zb (za HR5) hb4 hp5 1 _ rfl
        have d2:=zb (za HR5) hb4 hp5 2 _ rfl
        have e0:=zb (za HR6) hb4 hp6 0 _ rfl
        have e1:=zb (za HR6) hb4 hp6 1 _ rfl
        have e2:=zb (za HR6) hb4 hp6 2 _ rfl
        rw [Nat.zero_add] at d0 d1 d2 e0 e1 e2
        clear hb4
        by_cases h8:N1 + N2 ≤ 8
        · have h8':(N1:Int) + N2 ≤ 8:=by omega
          have HK:Hid (okI next l = !mt):=by
            have:=za HOK
            rw [decide_eq_true h8,Bool.true_and] at this
            exact this
          go_wp2_with fail
          refine (sidesMeet_any b1 b2 1 2 (zr l 1) (zr l 2) w4 (za HT14) (za HT24) n1 n2).mono ?_
          rw [(za HLL).2.2]
          rintro e w5 ⟨rfl,hb5⟩
          have HB5:=hide ((za HB4).trans (hb5.mono (za HB4).size))
          clear hb5
          go_wp2_with fail
          go_ret
          exact ⟨zl (za HK).symm,za HB5⟩
        · have h8':¬ ((N1:Int) + N2 ≤ 8):=by omega
          have HK:Hid (okI next l = false):=by
            have:=za HOK
            rw [decide_eq_false h8,Bool.false_and] at this
            exact this
          go_wp2_with fail
          go_ret
          exact ⟨zl (za HK).symm,za HB4⟩
      · rintro x A W i o ⟨v33,v34,v35,v36,v5,v6,b1,b2,p5,p6,rfl,hR⟩ hx ho hxi hall
        have HRR:=hide hR
        have z0:=(hR.bel.cell (p:=⟨w.heap.size,0,none⟩) hwr).trans (za HY).1
        have z1:=(hR.bel.cell (p:=⟨w.heap.size,1,none⟩) hwr).trans (za HY).2
        have HRD:=hide (zj (za HRr) hR.bel (Nat.le_refl _))
        match i,ho with
        | 0,ho =>
          obtain rfl:=Option.some.inj ho
          rw [if_pos (by rfl)]
          unfold Oper.wp
          clear hall hR
          go_simp
          exact ⟨_,_,_,_,_,_,⟨rfl,rfl,rfl,rfl,rfl,rfl⟩,_,_,_,_,rw9_0 (za HRR)⟩
        | 1,ho =>
          obtain rfl:=Option.some.inj ho
          have h0:x[0]? = some true:=hall ⟨0,.data⟩ (by simp) rfl
          obtain rfl:=hR.c33 h0
          have h6:x[6]? ≠ some true:=fun e=>by have:=(hR.s5 e).1.1; rw [hxi] at this; cases this
          clear hall hR
          rw [if_pos (by rfl)]
          unfold Oper.wp
          go_simp
          refine (sideOf_buy next _ l W (za HRD) h2 (za HLB)).mono ?_
          rintro e w3 ⟨b,rfl,ht,hle,hb⟩
          exact ⟨_,_,_,_,_,_,⟨rfl,rfl,rfl,rfl,rfl,rfl⟩,b,_,_,_,rw9_1 (za HRR) h6 hb hle ht⟩
        | 2,ho =>
          obtain rfl:=Option.some.inj ho
          rw [if_pos (by rfl)]
          unfold Oper.wp
          clear hall hR
          go_simp
          exact ⟨_,_,_,_,_,_,⟨rfl,rfl,rfl,rfl,rfl,rfl⟩,_,_,_,_,rw9_2 (za HRR)⟩
        | 3,ho =>
          obtain rfl:=Option.some.inj ho
          have h22:x[2]? = some true:=hall ⟨2,.data⟩ (by simp) rfl
          obtain rfl:=hR.c35 h22
          have h7:x[7]? ≠ some true:=fun e=>by have:=(hR.s6 e).1.1; rw [hxi] at this; cases this
          clear hall hR
          rw [if_pos (by rfl)]
          unfold Oper.wp
          go_simp
          refine (zcJ next 2 (by omega) _ l W (za HRD) h2 (za HLB)).mono ?_
          rintro e w3 ⟨b,rfl,ht,hle,hb⟩
          exact ⟨_,_,_,_,_,_,⟨rfl,rfl,rfl,rfl,rfl,rfl⟩,_,b,_,_,rw9_3 (za HRR) h7 hb hle ht⟩
        | 4,ho =>
          obtain rfl:=Option.some.inj ho
          have h6:x[6]? ≠ some true:=fun e=>by have:=(hR.s5 e).1.2; rw [hxi] at this; cases this
          clear hall hR
          rw [if_pos (by rfl)]
          unfold Oper.wp
          go_simp
          exact ⟨_,_,_,_,_,_,⟨rfl,rfl,rfl,rfl,rfl,rfl⟩,_,_,_,_,rw9_4 (za HRR) h6 _⟩
        | 5,ho =>
          obtain rfl:=Option.some.inj ho
          have h7:x[7]? ≠ some true:=fun e=>by have:=(hR.s6 e).1.2; rw [hxi] at this; cases this
          clear hall hR
          rw [if_pos (by rfl)]
          unfold Oper.wp
          go_simp
          exact ⟨_,_,_,_,_,_,⟨rfl,rfl,rfl,rfl,rfl,rfl⟩,_,_,_,_,rw9_5 (za HRR) h7 _⟩
        | 6,ho =>
          obtain rfl:=Option.some.inj ho
          have k1:x[1]? = some true:=hall ⟨1,.data⟩ (by simp) rfl
          have k3:x[3]? = some true:=hall ⟨3,.chain⟩ (by simp) rfl
          have k4:x[4]? = some true:=hall ⟨4,.data⟩ (by simp) rfl
          have k5:x[5]? = some true:=hall ⟨5,.phase⟩ (by simp) rfl
          obtain rfl:=(hR.c34 k1).1
          obtain ⟨e5,-,-,e8⟩:=hR.c5 k4
          subst e5
          obtain ⟨⟨x0,y0,z0'⟩,⟨x1,y1,z1'⟩,x2,y2,z2'⟩:(∃ v,W.cell? ⟨p5,0,none⟩ = some v∧W.frozen? ⟨p5,0,none⟩ = false)∧(∃ v,W.cell? ⟨p5,1,none⟩ = some v∧W.frozen? ⟨p5,1,none⟩ = false)∧(∃ v,W.cell? ⟨p5,2,none⟩ = some v∧W.frozen? ⟨p5,2,none⟩ = false):=⟨by simpa using zaW e8 0 (by omega),by simpa using zaW e8 1 (by omega),by simpa using zaW e8 2 (by omega)⟩
          have HE:=hide (rw9_6 (za HRR) k1 k3 k4 k5 (F0:=_) (F1:=_) (F2:=_) rfl)
          clear hall hR z0 z1 e8
          unfold zbm at HE ⊢
          generalize hF0:Value.func (.func 131) #[.pointer (some ⟨b1,0,none⟩)] #[] = F0 at HE ⊢
          generalize hF1:Value.func (.func 132) #[.pointer (some ⟨b1,0,none⟩)] #[] = F1 at HE ⊢
          generalize hF2:Value.func (.func 133) #[.pointer (some ⟨b1,0,none⟩)] #[] = F2 at HE ⊢
          have hst:∀ (V:World) (o:Nat) (m:Mode),((store ⟨p5,o,none⟩ F0 m).run Tryz.prog V = stored Tryz.prog V ⟨p5,o,none⟩ F0 m)∧((store ⟨p5,o,none⟩ F1 m).run Tryz.prog V = stored Tryz.prog V ⟨p5,o,none⟩ F1 m)∧((store ⟨p5,o,none⟩ F2 m).run Tryz.prog V = stored Tryz.prog V ⟨p5,o,none⟩ F2 m):=fun V o m=>by
            subst hF0 hF1 hF2
            exact ⟨run_store _ V _ _ m rfl,run_store _ V _ _ m rfl,run_store _ V _ _ m rfl⟩
          have hst0:=fun V o m=>(hst V o m).1
          have hst1:=fun V o m=>(hst V o m).2.1
          have hst2:=fun V o m=>(hst V o m).2.2
          clear hst hF0 hF1 hF2
          rw [if_pos (by rfl)]
          unfold Oper.wp
          go_simp
          exact ⟨_,_,_,_,_,_,⟨rfl,rfl,rfl,rfl,rfl,rfl⟩,_,_,_,_,za HE⟩
        | 7,ho =>
          obtain rfl:=Option.some.inj ho
          have k1:x[1]? = some true:=hall ⟨1,.phase⟩ (by simp) rfl
          have k3:x[3]? = some true:=hall ⟨3,.data⟩ (by simp) rfl
          have k4:x[4]? = some true:=hall ⟨4,.phase⟩ (by simp) rfl
          have k5:x[5]? = some true:=hall ⟨5,.data⟩ (by simp) rfl
          obtain rfl:=(hR.c36 k3).1
          obtain ⟨e5,-,-,e8⟩:=hR.c6 k5
          subst e5
          obtain ⟨⟨x0,y0,z0'⟩,⟨x1,y1,z1'⟩,x2,y2,z2'⟩:(∃ v,W.cell? ⟨p6,0,none⟩ = some v∧W.frozen? ⟨p6,0,none⟩ = false)∧(∃ v,W.cell? ⟨p6,1,none⟩ = some v∧W.frozen? ⟨p6,1,none⟩ = false)∧(∃ v,W.cell? ⟨p6,2,none⟩ = some v∧W.frozen? ⟨p6,2,none⟩ = false):=⟨by simpa using zaW e8 0 (by omega),by simpa using zaW e8 1 (by omega),by simpa using zaW e8 2 (by omega)⟩
          have HE:=hide (rw9_7 (za HRR) k1 k3 k4 k5 (F0:=_) (F1:=_) (F2:=_) rfl)
          clear hall hR z0 z1 e8
          unfold zbn at HE ⊢
          generalize hF0:Value.func (.func 135) #[.pointer (some ⟨b2,0,none⟩)] #[] = F0 at HE ⊢
          generalize hF1:Value.func (.func 136) #[.pointer (some ⟨b2,0,none⟩)] #[] = F1 at HE ⊢
          generalize hF2:Value.func (.func 137) #[.pointer (some ⟨b2,0,none⟩)] #[] = F2 at HE ⊢
          have hst:∀ (V:World) (o:Nat) (m:Mode),((store ⟨p6,o,none⟩ F0 m).run Tryz.prog V = stored Tryz.prog V ⟨p6,o,none⟩ F0 m)∧((store ⟨p6,o,none⟩ F1 m).run Tryz.prog V = stored Tryz.prog V ⟨p6,o,none⟩ F1 m)∧((store ⟨p6,o,none⟩ F2 m).run Tryz.prog V = stored Tryz.prog V ⟨p6,o,none⟩ F2 m):=fun V o m=>by
            subst hF0 hF1 hF2
            exact ⟨run_store _ V _ _ m rfl,run_store _ V _ _ m rfl,run_store _ V _ _ m rfl⟩
          have hst0:=fun V o m=>(hst V o m).1
          have hst1:=fun V o m=>(hst V o m).2.1
          have hst2:=fun V o m=>(hst V o m).2.2
          clear hst hF0 hF1 hF2
          rw [if_pos (by rfl)]
          unfold Oper.wp
          go_simp
          exact ⟨_,_,_,_,_,_,⟨rfl,rfl,rfl,rfl,rfl,rfl⟩,_,_,_,_,za HE⟩
        | n + 8,ho=>simp at ho
end Go.Proofs.YtdfihaabhichdaaGreat
