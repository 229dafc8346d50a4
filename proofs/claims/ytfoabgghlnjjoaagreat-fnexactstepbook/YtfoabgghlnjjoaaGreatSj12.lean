/-
  How many levels two sides have together, by the program: proved by walking the function.
-/
import Derived.Test.YtfoabgghlnjjoaaGreatSj11
namespace Go.Proofs.YtfoabgghlnjjoaaGreat
open Go.RowKit
set_option linter.unusedVariables false

theorem insT_len (s:Bool) (k:Int):∀ T:List Int,(insT s k T).length ≤ T.length + 1
  | []=>by simp [insT]
  | a :: r=>by
    have:=insT_len s k r
    rw [insT]; split
    · simp
    · split <;> simp <;> omega
theorem tks_len (s:Bool):∀ seq:List Od,(tks s seq).length ≤ seq.length
  | []=>by simp [tks]
  | o :: r=>by
    have h1:=insT_len s o.ticks (tks s r)
    have h2:=tks_len s r
    rw [tks]; simp; omega
def backB:Nat→List Oper→Bool
  | _,[]=>true
  | i,o :: r=>o.after.toList.all (fun e=>decide (e.on < i)) && backB (i + 1) r
theorem back_spec:∀ (l:List Oper) (n:Nat),backB n l = true→∀ (i:Nat) (o:Oper),l[i]? = some o→∀ e ∈ o.after,e.on < n + i
  | [],_,_,i,o,h,_,_=>by simp at h
  | a :: r,n,hb,0,o,h,e,he=>by
    simp at h; subst h
    simp only [backB,Bool.and_eq_true,List.all_eq_true,decide_eq_true_eq] at hb
    exact hb.1 e (by simpa using he)
  | a :: r,n,hb,i + 1,o,h,e,he=>by
    simp only [backB,Bool.and_eq_true] at hb
    have:=back_spec r (n + 1) hb.2 i o (by simpa using h) e he
    omega
theorem acyc (l:List Oper) (h:backB 0 l = true):∀ (i:Nat) (o:Oper),l[i]? = some o→∀ e ∈ o.after,e.on < i:=fun i o ho e he=>by
  have:=back_spec l 0 h i o ho e he; omega
def C10 (b1 b2 p5 p6 N1 N2:Nat):Nat→Value→Prop
  | 0,v=>v = .pointer (some ⟨p5,2,none⟩)
  | 1,v=>v = .func (.func 133) #[.pointer (some ⟨b1,0,none⟩)] #[]
  | 2,v=>∃ a c,v = .slice a N1 c
  | 3,v=>v = .int .i64 N1
  | 4,v=>v = .pointer (some ⟨p6,2,none⟩)
  | 5,v=>v = .func (.func 137) #[.pointer (some ⟨b2,0,none⟩)] #[]
  | 6,v=>∃ a c,v = .slice a N2 c
  | 7,v=>v = .int .i64 N2
  | 8,v=>v = .int .i64 ((N1:Int) + N2)
  | 9,v=>v = .int .i64 ((N1:Int) + N2)
  | _,_=>True
set_option maxRecDepth 100000 in
set_option maxHeartbeats 800000 in
theorem zcg (b1 b2:Nat) (sd1 sd2:Int) (s1 s2:List Od) (w:World) (h1:zai 196 true w b1 sd1 s1) (h2:zai 199 false w b2 sd2 s2) (n1:s1.length ≤ 20) (n2:s2.length ≤ 20) :
    Calls Tryz.prog 76 #[zbm b1,zbn b2] w fun e w'=>e = .returned (.int .i64 (((zaA true sd1 s1).length:Int) + (zaA false sd2 s2).length))∧Below w.heap.size w w':=by
  have hb1:=zM h1
  have hb2:=zM h2
  generalize hL1:(zaA true sd1 s1).length = N1
  generalize hL2:(zaA false sd2 s2).length = N2
  have hN1:N1 ≤ 20:=by rw [← hL1,zaA,List.length_map]; exact Nat.le_trans (tks_len _ _) n1
  have hN2:N2 ≤ 20:=by rw [← hL2,zaA,List.length_map]; exact Nat.le_trans (tks_len _ _) n2
  have HLL:Hid ((zaA true sd1 s1).length = N1∧(zaA false sd2 s2).length = N2):=⟨hL1,hL2⟩
  have hs1:(w.alloc (Obj.cells (zbX b1).toArray 117)).heap.size = w.heap.size + 1:=ze _ _
  have hs2:((w.alloc (Obj.cells (zbX b1).toArray 117)).alloc (Obj.cells (zcp b2).toArray 117)).heap.size = w.heap.size + 1 + 1:=by rw [ze,hs1]
  have r0:=zh w (zbX b1) 117
  have r1:=zh (w.alloc (Obj.cells (zbX b1).toArray 117)) (zcp b2) 117
  rw [hs1] at r1
  have r0':=zb r0 (C:=w.heap.size + 1) ((Below.refl _ _).alloc (by rw [hs1]; omega) (Obj.cells (zcp b2).toArray 117)) (by omega)
  have HB0:Hid (Below w.heap.size w ((w.alloc (Obj.cells (zbX b1).toArray 117)).alloc (Obj.cells (zcp b2).toArray 117))):=((Below.refl _ _).alloc (Nat.le_refl _) _).alloc (by rw [hs1]; omega) _
  have HR5:=hide r0'
  have HR6:=hide r1
  have HS2:=hide hs2
  have HT1:=hide (zv h1 ((za HB0).block _ hb1))
  have HT2:=hide (zv h2 ((za HB0).block _ hb2))
  clear r0 r1 r0' hs1 hs2 hL1 hL2 h1 h2
  unfold zbm zbn
  go_enter Tryz.func76,Tryz.ntmps76
  go_wp2_with fail
  unfold zbX zcp at HB0 HR5 HR6 HS2 HT1 HT2
  generalize hW:((w.alloc (Obj.cells (List.toArray [.func (.func 131) #[.pointer (some ⟨b1,0,none⟩)] #[],.func (.func 132) #[.pointer (some ⟨b1,0,none⟩)] #[],.func (.func 133) #[.pointer (some ⟨b1,0,none⟩)] #[]]) 117)).alloc (Obj.cells (List.toArray [.func (.func 135) #[.pointer (some ⟨b2,0,none⟩)] #[],.func (.func 136) #[.pointer (some ⟨b2,0,none⟩)] #[],.func (.func 137) #[.pointer (some ⟨b2,0,none⟩)] #[]]) 117)) = W at HB0 HR5 HR6 HS2 HT1 HT2
  have hb1s:b1 < W.heap.size:=zM (za HT1)
  have hb2s:b2 < W.heap.size:=zM (za HT2)
  have hp5:w.heap.size < W.heap.size:=by rw [za HS2]; omega
  have hp6:w.heap.size + 1 < W.heap.size:=by rw [za HS2]; omega
  refine zax (RGrow W (fun f=>{ tmps:=#[zbm b1,zbn b2,.pointer (some ⟨w.heap.size,0,none⟩),.pointer (some ⟨w.heap.size + 1,0,none⟩),f 9,f 0,f 1,f 2,f 3,f 4,f 5,f 6,f 7,f 8],defers:=[] }) (C10 b1 b2 w.heap.size (w.heap.size + 1) N1 N2)) (by kernel_rfl) ?_ ?_ ?_
  · refine ⟨upd (fun _=>undef) 9 (.int .i64 0),rfl,?_,fun j hj=>by rw [List.getElem?_replicate] at hj; split at hj <;> simp at hj⟩
    rw [← hW]
    exact ⟨rfl,rfl,rfl,Nat.le_refl _,fun _ _=>rfl⟩
  · rintro x A V ⟨f,rfl,hbel,hC⟩ hx hrd
    have hall9:=zab hrd hx (acyc _ (by kernel_rfl)) 9 (by simp)
    have e9:f 9 = .int .i64 ((N1:Int) + N2):=hC 9 hall9
    simp only [e9]
    have HBV:=hide hbel
    clear hC hx hrd hall9 e9 hbel
    go_wp2_with fail
    go_ret
    exact ⟨rfl,(za HB0).trans ((za HBV).mono (za HB0).size)⟩
  · rintro x A V i o ⟨f,rfl,hbel,hC⟩ hx ho hxi hall
    have HBV:=hide hbel
    have HC:=hide hC
    match i,ho with
    | 0,ho =>
      obtain rfl:=Option.some.inj ho
      clear hall hC hbel
      rw [if_pos (by rfl)]
      unfold Oper.wp
      go_simp
      exact ⟨upd f 0 (.pointer (some ⟨w.heap.size,2,none⟩)),by simp [upd],za HBV,zG (za HC) rfl⟩
    | 1,ho =>
      obtain rfl:=Option.some.inj ho
      have g0:C10 b1 b2 w.heap.size (w.heap.size + 1) N1 N2 0 (f 0):=hC 0 (hall ⟨0,.data⟩ (by simp) rfl)
      simp only [C10] at g0
      have d2:=zb (za HR5) hbel hp5 2 _ rfl
      clear hall hC hbel
      rw [if_pos (by rfl)]
      unfold Oper.wp
      go_simp
      exact ⟨upd f 1 (.func (.func 133) #[.pointer (some ⟨b1,0,none⟩)] #[]),by simp [upd,g0],za HBV,zG (za HC) rfl⟩
    | 2,ho =>
      obtain rfl:=Option.some.inj ho
      have g1:C10 b1 b2 w.heap.size (w.heap.size + 1) N1 N2 1 (f 1):=hC 1 (hall ⟨1,.data⟩ (by simp) rfl)
      simp only [C10] at g1
      have ht:=zv (za HT1) (hbel.block _ hb1s)
      have HTV:=hide ht
      clear hall hC hbel ht
      rw [if_pos (by rfl)]
      unfold Oper.wp
      go_simp
      refine (levels_b b1 sd1 s1 V (za HTV) n1).mono ?_
      rintro e w4 ⟨v4,rfl,⟨al,cp,rfl,-,-⟩,hb4⟩
      rw [(za HLL).1]
      exact ⟨upd f 2 (.slice al N1 cp),by simp [upd,g1],(za HBV).trans (hb4.mono (za HBV).size),zG (za HC) ⟨al,cp,rfl⟩⟩
    | 3,ho =>
      obtain rfl:=Option.some.inj ho
      have g2:C10 b1 b2 w.heap.size (w.heap.size + 1) N1 N2 2 (f 2):=hC 2 (hall ⟨2,.data⟩ (by simp) rfl)
      obtain ⟨al,cp,g2⟩:=g2
      clear hall hC hbel
      rw [if_pos (by rfl)]
      unfold Oper.wp
      go_simp
      exact ⟨upd f 3 (.int .i64 N1),by simp [upd,g2],za HBV,zG (za HC) rfl⟩
    | 4,ho =>
      obtain rfl:=Option.some.inj ho
      clear hall hC hbel
      rw [if_pos (by rfl)]
      unfold Oper.wp
      go_simp
      exact ⟨upd f 4 (.pointer (some ⟨w.heap.size + 1,2,none⟩)),by simp [upd],za HBV,zG (za HC) rfl⟩
    | 5,ho =>
      obtain rfl:=Option.some.inj ho
      have g4:C10 b1 b2 w.heap.size (w.heap.size + 1) N1 N2 4 (f 4):=hC 4 (hall ⟨4,.data⟩ (by simp) rfl)
      simp only [C10] at g4
      have d2:=zb (za HR6) hbel hp6 2 _ rfl
      clear hall hC hbel
      rw [if_pos (by rfl)]
      unfold Oper.wp
      go_simp
      exact ⟨upd f 5 (.func (.func 137) #[.pointer (some ⟨b2,0,none⟩)] #[]),by simp [upd,g4],za HBV,zG (za HC) rfl⟩
    | 6,ho =>
      obtain rfl:=Option.some.inj ho
      have g5:C10 b1 b2 w.heap.size (w.heap.size + 1) N1 N2 5 (f 5):=hC 5 (hall ⟨5,.data⟩ (by simp) rfl)
      simp only [C10] at g5
      have ht:=zv (za HT2) (hbel.block _ hb2s)
      have HTV:=hide ht
      clear hall hC hbel ht
      rw [if_pos (by rfl)]
      unfold Oper.wp
      go_simp
      refine (levels_s b2 sd2 s2 V (za HTV) n2).mono ?_
      rintro e w4 ⟨v4,rfl,⟨al,cp,rfl,-,-⟩,hb4⟩
      rw [(za HLL).2]
      exact ⟨upd f 6 (.slice al N2 cp),by simp [upd,g5],(za HBV).trans (hb4.mono (za HBV).size),zG (za HC) ⟨al,cp,rfl⟩⟩
    | 7,ho =>
      obtain rfl:=Option.some.inj ho
      have g6:C10 b1 b2 w.heap.size (w.heap.size + 1) N1 N2 6 (f 6):=hC 6 (hall ⟨6,.data⟩ (by simp) rfl)
      obtain ⟨al,cp,g6⟩:=g6
      clear hall hC hbel
      rw [if_pos (by rfl)]
      unfold Oper.wp
      go_simp
      exact ⟨upd f 7 (.int .i64 N2),by simp [upd,g6],za HBV,zG (za HC) rfl⟩
    | 8,ho =>
      obtain rfl:=Option.some.inj ho
      have g3:C10 b1 b2 w.heap.size (w.heap.size + 1) N1 N2 3 (f 3):=hC 3 (hall ⟨3,.data⟩ (by simp) rfl)
      have g7:C10 b1 b2 w.heap.size (w.heap.size + 1) N1 N2 7 (f 7):=hC 7 (hall ⟨7,.data⟩ (by simp) rfl)
      simp only [C10] at g3
      simp only [C10] at g7
      have hwr8:IntKind.i64.wrap ((N1:Int) + N2) = (N1:Int) + N2:=by rw [IntKind.wrap_i64]; omega
      clear hall hC hbel
      rw [if_pos (by rfl)]
      unfold Oper.wp
      go_simp
      exact ⟨upd f 8 (.int .i64 ((N1:Int) + N2)),by simp [upd,g3,g7],za HBV,zG (za HC) rfl⟩
    | 9,ho =>
      obtain rfl:=Option.some.inj ho
      have g8:C10 b1 b2 w.heap.size (w.heap.size + 1) N1 N2 8 (f 8):=hC 8 (hall ⟨8,.data⟩ (by simp) rfl)
      simp only [C10] at g8
      clear hall hC hbel
      rw [if_pos (by rfl)]
      unfold Oper.wp
      go_simp
      exact ⟨upd f 9 (.int .i64 ((N1:Int) + N2)),by simp [upd,g8],za HBV,zG (za HC) rfl⟩
    | n + 10,ho=>simp at ho
end Go.Proofs.YtfoabgghlnjjoaaGreat
/-
  Commands held against each other, by the program: proved by walking the function.
-/
namespace Go.Proofs.YtfoabgghlnjjoaaGreat
open Go.RowKit
set_option linter.unusedVariables false

def ofC (c:Cm):Ev:=⟨0,c,0,0,0,0,0⟩
def zay (c d:Cm):Bool:=(c.k == d.k) && ((c.s == d.s) && ((c.t == d.t) && ((c.l == d.l) && ((c.q == d.q) && ((c.i == d.i) && ((fbit c.p == fbit d.p) && decide (c.g.toList = d.g.toList)))))))
theorem eqVl (c d:Cm) (W:World):(binOp .eql 182 (vlV (ofC c)) (vlV (ofC d))).run Tryz.prog W = .ok (.bool (zay c d)) W:=by
 unfold vlV ofC
 simp only
 go_simp
 unfold zay
 by_cases h1:c.k = d.k
 ·by_cases h2:c.s = d.s
  ·by_cases h3:c.t = d.t
   ·by_cases h4:c.l = d.l
    ·by_cases h5:c.q = d.q
     ·by_cases h6:c.i = d.i
      ·by_cases h7:fbit c.p = fbit d.p
       ·by_cases h8:c.g.toList = d.g.toList
        ·simp [h1,h2,h3,h4,h5,h6,h7,h8]
        ·simp [h1,h2,h3,h4,h5,h6,h7,h8]
       ·have h7':¬ ((fbit c.p:Int) = fbit d.p):=by omega
        have h7b:(fbit c.p == fbit d.p) = false:=by simpa using h7
        rw [if_neg h7',h7b]
        simp [h1,h2,h3,h4,h5,h6]
      ·simp [h1,h2,h3,h4,h5,h6]
     ·simp [h1,h2,h3,h4,h5]
    ·simp [h1,h2,h3,h4]
   ·simp [h1,h2,h3]
  ·simp [h1,h2]
 ·simp [h1]
theorem eqGd (c d:Cm) (W:World):(eqGuard .eql 182 (.tmp 7) (.tmp 10) (vlV (ofC c)) (vlV (ofC d))).run Tryz.prog W = .ok () W:=by
 unfold vlV ofC
 simp only
 go_simp
def CS (c d:Cm):Nat→Value→Prop
 | 0,v=>v = cmV c
 | 1,v=>v = evV (ofC c)
 | 2,v=>v = vlV (ofC c)
 | 3,v=>v = cmV d
 | 4,v=>v = evV (ofC d)
 | 5,v=>v = vlV (ofC d)
 | 6,v=>v = .bool (zay c d)
 | 7,v=>v = .bool (zay c d)
 | _,_=>True
set_option maxRecDepth 100000 in
set_option maxHeartbeats 1600000 in
theorem zbW (c d:Cm) (w:World) :
  Calls Tryz.prog 112 #[cmV c,cmV d] w fun e w'=>e = .returned (.bool (zay c d))∧Below w.heap.size w w':=by
 have hs1:(w.alloc (Obj.cells c.vs.toArray 37)).heap.size = w.heap.size + 1:=ze _ _
 have hs2:((w.alloc (Obj.cells c.vs.toArray 37)).alloc (Obj.cells d.vs.toArray 37)).heap.size = w.heap.size + 1 + 1:=by rw [ze,hs1]
 have r0:=zb (zh w c.vs 37) (C:=w.heap.size + 1) ((Below.refl _ _).alloc (by rw [hs1]; omega) (Obj.cells d.vs.toArray 37)) (by omega)
 have r1:=zh (w.alloc (Obj.cells c.vs.toArray 37)) d.vs 37
 rw [hs1] at r1
 have HB0:Hid (Below w.heap.size w ((w.alloc (Obj.cells c.vs.toArray 37)).alloc (Obj.cells d.vs.toArray 37))):=((Below.refl _ _).alloc (Nat.le_refl _) _).alloc (by rw [hs1]; omega) _
 have HX:Hid (_∧_):=⟨r0,r1⟩
 have HS2:=hide hs2
 clear r0 r1 hs1 hs2
 unfold cmV
 go_enter Tryz.func112,Tryz.ntmps112
 go_wp2_with fail
 unfold Cm.vs at HB0 HX HS2
 generalize hW:((w.alloc (Obj.cells (List.toArray [.int .i64 c.k,.int .i64 c.s,.int .i64 c.t,.int .i64 c.l,.int .i64 c.q,.int .i64 c.i,.float .f64 c.p,.string c.g]) 37)).alloc (Obj.cells (List.toArray [.int .i64 d.k,.int .i64 d.s,.int .i64 d.t,.int .i64 d.l,.int .i64 d.q,.int .i64 d.i,.float .f64 d.p,.string d.g]) 37)) = W at HB0 HX HS2
 refine zax (RGrow W (fun f=>{ tmps:=#[cmV c,cmV d,.pointer (some ⟨w.heap.size,0,none⟩),.pointer (some ⟨w.heap.size + 1,0,none⟩),f 7,f 0,f 1,f 2,f 3,f 4,f 5,f 6],defers:=[] }) (CS c d)) (by kernel_rfl) ?_ ?_ ?_
 ·refine ⟨upd (fun _=>undef) 7 (.bool false),rfl,?_,fun j hj=>by rw [List.getElem?_replicate] at hj; split at hj <;> simp at hj⟩
  rw [← hW]
  exact ⟨rfl,rfl,rfl,Nat.le_refl _,fun _ _=>rfl⟩
 ·rintro x A V ⟨f,rfl,hbel,hC⟩ hx hrd
  have hall7:=zab hrd hx (acyc _ (by kernel_rfl)) 7 (by simp)
  have e7:f 7 = .bool (zay c d):=hC 7 hall7
  simp only [e7]
  have HBV:=hide hbel
  clear hC hx hrd hall7 e7 hbel
  go_wp2_with fail
  go_ret
  exact ⟨rfl,(za HB0).trans ((za HBV).mono (za HB0).size)⟩
 ·rintro x A V i o ⟨f,rfl,hbel,hC⟩ hx ho hxi hall
  have HBV:=hide hbel
  have HC:=hide hC
  have hw0:w.heap.size < W.heap.size:=by rw [za HS2]; omega
  have hw1:w.heap.size + 1 < W.heap.size:=by rw [za HS2]; omega
  match i,ho with
  | 0,ho =>
   obtain rfl:=Option.some.inj ho
   obtain ⟨x0,x1,x2,x3,x4,x5,x6,x7⟩:=cm_cells (c:=c) (zb (za HX).1 hbel hw0)
   simp only [Nat.zero_add] at x0 x1 x2 x3 x4 x5 x6 x7
   clear hall hC hbel
   rw [if_pos (by rfl)]
   unfold Oper.wp
   go_simp
   exact ⟨upd f 0 (cmV c),by simp [upd,cmV],za HBV,zG (za HC) rfl⟩
  | 1,ho =>
   obtain rfl:=Option.some.inj ho
   have g0:f 0 = cmV c:=hC 0 (hall ⟨0,.data⟩ (by simp) rfl)
   clear hall hC hbel
   rw [if_pos (by rfl)]
   unfold Oper.wp
   unfold cmV at g0
   go_simp
   exact ⟨upd f 1 (evV (ofC c)),by simp [upd,evV,ofC,cmV,g0],za HBV,zG (za HC) rfl⟩
  | 2,ho =>
   obtain rfl:=Option.some.inj ho
   have g1:f 1 = evV (ofC c):=hC 1 (hall ⟨1,.data⟩ (by simp) rfl)
   clear hall hC hbel
   rw [if_pos (by rfl)]
   unfold Oper.wp
   go_simp
   refine (valueOf_any (ofC c) V).mono ?_
   rintro e w4 ⟨rfl,hb4⟩
   exact ⟨upd f 2 (vlV (ofC c)),by simp [upd,g1],(za HBV).trans (hb4.mono (za HBV).size),zG (za HC) rfl⟩
  | 3,ho =>
   obtain rfl:=Option.some.inj ho
   obtain ⟨x0,x1,x2,x3,x4,x5,x6,x7⟩:=cm_cells (c:=d) (zb (za HX).2 hbel hw1)
   simp only [Nat.zero_add] at x0 x1 x2 x3 x4 x5 x6 x7
   clear hall hC hbel
   rw [if_pos (by rfl)]
   unfold Oper.wp
   go_simp
   exact ⟨upd f 3 (cmV d),by simp [upd,cmV],za HBV,zG (za HC) rfl⟩
  | 4,ho =>
   obtain rfl:=Option.some.inj ho
   have g0:f 3 = cmV d:=hC 3 (hall ⟨3,.data⟩ (by simp) rfl)
   clear hall hC hbel
   rw [if_pos (by rfl)]
   unfold Oper.wp
   unfold cmV at g0
   go_simp
   exact ⟨upd f 4 (evV (ofC d)),by simp [upd,evV,ofC,cmV,g0],za HBV,zG (za HC) rfl⟩
  | 5,ho =>
   obtain rfl:=Option.some.inj ho
   have g1:f 4 = evV (ofC d):=hC 4 (hall ⟨4,.data⟩ (by simp) rfl)
   clear hall hC hbel
   rw [if_pos (by rfl)]
   unfold Oper.wp
   go_simp
   refine (valueOf_any (ofC d) V).mono ?_
   rintro e w4 ⟨rfl,hb4⟩
   exact ⟨upd f 5 (vlV (ofC d)),by simp [upd,g1],(za HBV).trans (hb4.mono (za HBV).size),zG (za HC) rfl⟩
  | 6,ho =>
   obtain rfl:=Option.some.inj ho
   have g2:f 2 = vlV (ofC c):=hC 2 (hall ⟨2,.data⟩ (by simp) rfl)
   have g5:f 5 = vlV (ofC d):=hC 5 (hall ⟨5,.data⟩ (by simp) rfl)
   have he:=eqVl c d V
   have hg:=eqGd c d V
   clear hall hC hbel
   rw [if_pos (by rfl)]
   unfold Oper.wp
   go_simp
   exact ⟨upd f 6 (.bool (zay c d)),by simp [upd,g2,g5],za HBV,zG (za HC) rfl⟩
  | 7,ho =>
   obtain rfl:=Option.some.inj ho
   have g6:f 6 = .bool (zay c d):=hC 6 (hall ⟨6,.data⟩ (by simp) rfl)
   clear hall hC hbel
   rw [if_pos (by rfl)]
   unfold Oper.wp
   go_simp
   exact ⟨upd f 7 (.bool (zay c d)),by simp [upd,g6],za HBV,zG (za HC) rfl⟩
  | n + 8,ho=>simp at ho
end Go.Proofs.YtfoabgghlnjjoaaGreat
