/-
  The reasons of a new order, by the program: proved by walking the function.
-/
import Derived.Test.YtdfihaabhichdaaGreatRj16
import Derived.Test.YtdfihaabhichdaaGreatRj17
namespace Go.Proofs.YtdfihaabhichdaaGreat
open Go.RowKit
set_option linter.unusedVariables false

def lifW (c:Cm):Bool:=!betB c.l 0 1 || (decide (c.l = 1) && !zaM c.t)
def newR (next:Int) (l:List Od) (c:Cm):Int :=
 if betB c.s 1 2 = false then 3 else if betB c.t 1 5 = false then 4 else if lifW c = true then 5 else if prcB c = false then 6 else if betB c.q 1 1000000 = false then 7 else if tagB c.g = false then 8 else matR next c (matL c next 21 l c.q [])
set_option maxRecDepth 100000 in
set_option maxHeartbeats 1600000 in
theorem newRefusal_any (next:Int) (vb:Value) (l:List Od) (c:Cm) (w:World) (hr:RdR Od.vs 6 w vb l) (hs:SlOk vb) (hg:GoodL l) (h0:0 ≤ next) (h1:next ≤ 1000000) (ht:c.g.size ≤ maxLen) :
  Calls Tryz.prog 113 #[.agg #[.int .i64 next,vb],noV c] w fun e w'=>e = .returned (.int .i64 (newR next l c))∧Below w.heap.size w w':=by
 have HR:=hide hr
 have HG:=hide hg
 have HSL:=hide hs
 have HNUM:Hid (0 ≤ next∧next ≤ 1000000):=⟨h0,h1⟩
 have HTG:=hide ht
 obtain ⟨a,cap,rfl,hlen,hc⟩:=hr
 clear hc hg hs h0 h1 ht hlen
 generalize hres:newR next l c = res
 have HN0:Hid (_ = res):=hres
 clear hres
 obtain ⟨kk,s,ty,li,qt,ii,pr,tg⟩:=c
 unfold newR at HN0
 unfold noV
 simp only at *
 have hs1:(w.alloc (Obj.cells #[.int .i64 next,.slice a l.length cap] 32)).heap.size = w.heap.size + 1:=zf _ _
 have hs2:((w.alloc (Obj.cells #[.int .i64 next,.slice a l.length cap] 32)).alloc (Obj.cells #[.int .i64 s,.int .i64 ty,.int .i64 li,.int .i64 qt,.float .f64 pr,.string tg] 128)).heap.size = w.heap.size + 1 + 1:=by rw [zf,hs1]
 have r1:=zg w [.int .i64 next,.slice a l.length cap] 32
 have r2:=zg (w.alloc (Obj.cells #[.int .i64 next,.slice a l.length cap] 32)) [.int .i64 s,.int .i64 ty,.int .i64 li,.int .i64 qt,.float .f64 pr,.string tg] 128
 rw [hs1] at r2
 have b12:Below (w.heap.size + 1) (w.alloc (Obj.cells #[.int .i64 next,.slice a l.length cap] 32)) ((w.alloc (Obj.cells #[.int .i64 next,.slice a l.length cap] 32)).alloc (Obj.cells #[.int .i64 s,.int .i64 ty,.int .i64 li,.int .i64 qt,.float .f64 pr,.string tg] 128)):=(Below.refl _ _).alloc (by rw [hs1]; omega) _
 have HB2:Hid (Below w.heap.size w ((w.alloc (Obj.cells #[.int .i64 next,.slice a l.length cap] 32)).alloc (Obj.cells #[.int .i64 s,.int .i64 ty,.int .i64 li,.int .i64 qt,.float .f64 pr,.string tg] 128))):=((Below.refl _ _).alloc (Nat.le_refl _) _).alloc (by rw [hs1]; omega) _
 have HX:Hid (_∧_):=⟨zb r1 b12 (by omega),r2⟩
 have HLT:Hid (w.heap.size < ((w.alloc (Obj.cells #[.int .i64 next,.slice a l.length cap] 32)).alloc (Obj.cells #[.int .i64 s,.int .i64 ty,.int .i64 li,.int .i64 qt,.float .f64 pr,.string tg] 128)).heap.size∧w.heap.size + 1 < ((w.alloc (Obj.cells #[.int .i64 next,.slice a l.length cap] 32)).alloc (Obj.cells #[.int .i64 s,.int .i64 ty,.int .i64 li,.int .i64 qt,.float .f64 pr,.string tg] 128)).heap.size):=⟨by omega,by omega⟩
 clear hs1 hs2 r1 r2 b12
 go_enter Tryz.func113,Tryz.ntmps113
 refine wp_seq_k fun K hK=>?_
 have HK1:=hide hK
 clear hK
 go_wp2_with fail
 refine za HK1 _ _ ?_
 clear HK1
 generalize ((w.alloc (Obj.cells #[.int .i64 next,.slice a l.length cap] 32)).alloc (Obj.cells #[.int .i64 s,.int .i64 ty,.int .i64 li,.int .i64 qt,.float .f64 pr,.string tg] 128)) = X2 at HB2 HX HLT ⊢
 have HX:Hid (X2.rangeAt w.heap.size 0 [.int .i64 next,.slice a l.length cap]∧X2.rangeAt (w.heap.size + 1) 0 [.int .i64 s,.int .i64 ty,.int .i64 li,.int .i64 qt,.float .f64 pr,.string tg]):=za HX
 have k0:=zb (za HX).1 (Below.refl _ _) (za HLT).1 0 _ rfl
 have k1:=zb (za HX).1 (Below.refl _ _) (za HLT).1 1 _ rfl
 have o0:=zb (za HX).2 (Below.refl _ _) (za HLT).2 0 _ rfl
 have o1:=zb (za HX).2 (Below.refl _ _) (za HLT).2 1 _ rfl
 have o2:=zb (za HX).2 (Below.refl _ _) (za HLT).2 2 _ rfl
 have o3:=zb (za HX).2 (Below.refl _ _) (za HLT).2 3 _ rfl
 have o4:=zb (za HX).2 (Below.refl _ _) (za HLT).2 4 _ rfl
 have o5:=zb (za HX).2 (Below.refl _ _) (za HLT).2 5 _ rfl
 simp only [Nat.zero_add] at k0 k1 o0 o1 o2 o3 o4 o5
 go_wp2_with fail
 refine (isSide_any s X2).mono ?_
 rintro e w' ⟨rfl,rfl⟩
 cases h3:betB s 1 2
 ·have HK:Hid (3 = res):=by have:=za HN0; rw [if_pos h3] at this; exact this
  clear h3
  go_wp2_with fail
  go_ret
  exact ⟨zo (za HK),za HB2⟩
 have HN1:Hid (_ = res):=(if_neg (fun h=>by rw [h3] at h; cases h)).symm.trans (za HN0)
 clear h3 HN0
 go_wp2_with fail
 refine (isType_any ty w').mono ?_
 rintro e w1 ⟨rfl,rfl⟩
 cases h4:betB ty 1 5
 ·have HK:Hid (4 = res):=by have:=za HN1; rw [if_pos h4] at this; exact this
  clear h4
  go_wp2_with fail
  go_ret
  exact ⟨zo (za HK),za HB2⟩
 have HN2:Hid (_ = res):=(if_neg (fun h=>by rw [h4] at h; cases h)).symm.trans (za HN1)
 clear h4 HN1
 go_wp2_with fail
 refine (isLife_any li w1).mono ?_
 rintro e w2 ⟨rfl,rfl⟩
 cases h5:betB li 0 1
 ·have HK:Hid (5 = res):=by have:=za HN2; rw [if_pos (by simp [lifW,h5])] at this; exact this
  clear h5
  go_wp2_with fail
  go_ret
  exact ⟨zo (za HK),za HB2⟩
 by_cases hli:li = 1
 ·subst hli
  go_wp2_with fail
  refine (zbY ⟨kk,s,ty,1,qt,ii,pr,tg⟩ w2).mono ?_
  rintro e w3 ⟨rfl,hb3⟩
  dsimp only
  have HBV:=hide hb3
  clear hb3 k0 k1 o0 o1 o2 o3 o4 o5
  cases h6:zaM ty
  ·have HK:Hid (5 = res):=by have:=za HN2; rw [if_pos (by simp [lifW,h6])] at this; exact this
   clear h6 h5
   go_wp2_with fail
   go_ret
   exact ⟨zo (za HK),(za HB2).trans ((za HBV).mono (za HB2).size)⟩
  have HN3:Hid (_ = res):=(if_neg (by simp [lifW,h5,h6])).symm.trans (za HN2)
  clear h5 h6 HN2
  have k0:=zb (za HX).1 (za HBV) (za HLT).1 0 _ rfl
  have k1:=zb (za HX).1 (za HBV) (za HLT).1 1 _ rfl
  have o0:=zb (za HX).2 (za HBV) (za HLT).2 0 _ rfl
  have o1:=zb (za HX).2 (za HBV) (za HLT).2 1 _ rfl
  have o2:=zb (za HX).2 (za HBV) (za HLT).2 2 _ rfl
  have o3:=zb (za HX).2 (za HBV) (za HLT).2 3 _ rfl
  have o4:=zb (za HX).2 (za HBV) (za HLT).2 4 _ rfl
  have o5:=zb (za HX).2 (za HBV) (za HLT).2 5 _ rfl
  simp only [Nat.zero_add] at k0 k1 o0 o1 o2 o3 o4 o5
  go_wp2_with fail
  refine (hasPrice_any ⟨kk,s,ty,1,qt,ii,pr,tg⟩ w3).mono ?_
  rintro e w4 ⟨rfl,hb4⟩
  have HB4:=hide ((za HBV).trans (hb4.mono (za HBV).size))
  clear hb4 k0 k1 o0 o1 o2 o3 o4 o5 HBV
  cases h7:prcB ⟨kk,s,ty,1,qt,ii,pr,tg⟩
  ·have HK:Hid (6 = res):=by have:=za HN3; rw [if_pos h7] at this; exact this
   clear h7
   go_wp2_with fail
   go_ret
   exact ⟨zo (za HK),(za HB2).trans ((za HB4).mono (za HB2).size)⟩
  have HN4:Hid (_ = res):=(if_neg (fun h=>by rw [h7] at h; cases h)).symm.trans (za HN3)
  clear h7 HN3
  have k0:=zb (za HX).1 (za HB4) (za HLT).1 0 _ rfl
  have k1:=zb (za HX).1 (za HB4) (za HLT).1 1 _ rfl
  have o0:=zb (za HX).2 (za HB4) (za HLT).2 0 _ rfl
  have o1:=zb (za HX).2 (za HB4) (za HLT).2 1 _ rfl
  have o2:=zb (za HX).2 (za HB4) (za HLT).2 2 _ rfl
  have o3:=zb (za HX).2 (za HB4) (za HLT).2 3 _ rfl
  have o4:=zb (za HX).2 (za HB4) (za HLT).2 4 _ rfl
  have o5:=zb (za HX).2 (za HB4) (za HLT).2 5 _ rfl
  simp only [Nat.zero_add] at k0 k1 o0 o1 o2 o3 o4 o5
  go_wp2_with fail
  refine (isQty_any qt w4).mono ?_
  rintro e w5 ⟨rfl,rfl⟩
  cases h8:betB qt 1 1000000
  ·have HK:Hid (7 = res):=by have:=za HN4; rw [if_pos h8] at this; exact this
   clear h8
   go_wp2_with fail
   go_ret
   exact ⟨zo (za HK),(za HB2).trans ((za HB4).mono (za HB2).size)⟩
  have HN5:Hid (_ = res):=(if_neg (fun h=>by rw [h8] at h; cases h)).symm.trans (za HN4)
  have HQB:Hid (0 ≤ qt∧qt ≤ 1000000):=by
   simp only [betB,Bool.and_eq_true,decide_eq_true_eq] at h8
   exact ⟨by omega,h8.2⟩
  clear h8 HN4
  go_wp2_with fail
  refine (isTag_any tg w5 (za HTG)).mono ?_
  rintro e w6 ⟨rfl,rfl⟩
  cases h9:tagB tg
  ·have HK:Hid (8 = res):=by have:=za HN5; rw [if_pos h9] at this; exact this
   clear h9
   go_wp2_with fail
   go_ret
   exact ⟨zo (za HK),(za HB2).trans ((za HB4).mono (za HB2).size)⟩
  have HN6:Hid (_ = res):=(if_neg (fun h=>by rw [h9] at h; cases h)).symm.trans (za HN5)
  clear h9 HN5
  go_wp2_with fail
  refine (zbT next _ l ⟨kk,s,ty,1,qt,ii,pr,tg⟩ w6 (zi (za HR) ((za HB2).trans ((za HB4).mono (za HB2).size)) (Nat.le_refl _)) (za HSL) (za HG) (za HNUM).1 (za HNUM).2 (za HQB).1 (za HQB).2).mono ?_
  dsimp only
  rw [za HN6]
  rintro e w7 ⟨rfl,hb7⟩
  have HB7:=hide (((za HB2).trans ((za HB4).mono (za HB2).size)).trans (hb7.mono ((za HB2).trans ((za HB4).mono (za HB2).size)).size))
  clear hb7
  go_wp2_with fail
  go_ret
  exact ⟨rfl,za HB7⟩
 have hlb:(li == 1) = false:=by rw [beq_eq_false_iff_ne]; exact hli
 have HN3:Hid (_ = res):=(if_neg (by simp [lifW,h5,hli])).symm.trans (za HN2)
 have HBV:Hid (Below w2.heap.size w2 w2):=Below.refl _ _
 clear h5 hli HN2
 go_wp2_with fail
 refine (hasPrice_any ⟨kk,s,ty,li,qt,ii,pr,tg⟩ w2).mono ?_
 rintro e w4 ⟨rfl,hb4⟩
 have HB4:=hide ((za HBV).trans (hb4.mono (za HBV).size))
 clear hb4 k0 k1 o0 o1 o2 o3 o4 o5 HBV
 cases h7:prcB ⟨kk,s,ty,li,qt,ii,pr,tg⟩
 ·have HK:Hid (6 = res):=by have:=za HN3; rw [if_pos h7] at this; exact this
  clear h7
  go_wp2_with fail
  go_ret
  exact ⟨zo (za HK),(za HB2).trans ((za HB4).mono (za HB2).size)⟩
 have HN4:Hid (_ = res):=(if_neg (fun h=>by rw [h7] at h; cases h)).symm.trans (za HN3)
 clear h7 HN3
 have k0:=zb (za HX).1 (za HB4) (za HLT).1 0 _ rfl
 have k1:=zb (za HX).1 (za HB4) (za HLT).1 1 _ rfl
 have o0:=zb (za HX).2 (za HB4) (za HLT).2 0 _ rfl
 have o1:=zb (za HX).2 (za HB4) (za HLT).2 1 _ rfl
 have o2:=zb (za HX).2 (za HB4) (za HLT).2 2 _ rfl
 have o3:=zb (za HX).2 (za HB4) (za HLT).2 3 _ rfl
 have o4:=zb (za HX).2 (za HB4) (za HLT).2 4 _ rfl
 have o5:=zb (za HX).2 (za HB4) (za HLT).2 5 _ rfl
 simp only [Nat.zero_add] at k0 k1 o0 o1 o2 o3 o4 o5
 go_wp2_with fail
 refine (isQty_any qt w4).mono ?_
 rintro e w5 ⟨rfl,rfl⟩
 cases h8:betB qt 1 1000000
 ·have HK:Hid (7 = res):=by have:=za HN4; rw [if_pos h8] at this; exact this
  clear h8
  go_wp2_with fail
  go_ret
  exact ⟨zo (za HK),(za HB2).trans ((za HB4).mono (za HB2).size)⟩
 have HN5:Hid (_ = res):=(if_neg (fun h=>by rw [h8] at h; cases h)).symm.trans (za HN4)
 have HQB:Hid (0 ≤ qt∧qt ≤ 1000000):=by
  simp only [betB,Bool.and_eq_true,decide_eq_true_eq] at h8
  exact ⟨by omega,h8.2⟩
 clear h8 HN4
 go_wp2_with fail
 refine (isTag_any tg w5 (za HTG)).mono ?_
 rintro e w6 ⟨rfl,rfl⟩
 cases h9:tagB tg
 ·have HK:Hid (8 = res):=by have:=za HN5; rw [if_pos h9] at this; exact this
  clear h9
  go_wp2_with fail
  go_ret
  exact ⟨zo (za HK),(za HB2).trans ((za HB4).mono (za HB2).size)⟩
 have HN6:Hid (_ = res):=(if_neg (fun h=>by rw [h9] at h; cases h)).symm.trans (za HN5)
 clear h9 HN5
 go_wp2_with fail
 refine (zbT next _ l ⟨kk,s,ty,li,qt,ii,pr,tg⟩ w6 (zi (za HR) ((za HB2).trans ((za HB4).mono (za HB2).size)) (Nat.le_refl _)) (za HSL) (za HG) (za HNUM).1 (za HNUM).2 (za HQB).1 (za HQB).2).mono ?_
 dsimp only
 rw [za HN6]
 rintro e w7 ⟨rfl,hb7⟩
 have HB7:=hide (((za HB2).trans ((za HB4).mono (za HB2).size)).trans (hb7.mono ((za HB2).trans ((za HB4).mono (za HB2).size)).size))
 clear hb7
 go_wp2_with fail
 go_ret
 exact ⟨rfl,za HB7⟩
end Go.Proofs.YtdfihaabhichdaaGreat
namespace Go.Proofs.YtdfihaabhichdaaGreat
open Go.RowKit
set_option linter.unusedVariables false

def idR (l:List Od) (id:Int):Int:=if plc l id < 0 then 9 else 0
def redR (l:List Od) (id qty:Int):Int:=if betB qty 1 1000000 = true then (if plc l id < 0 then 9 else match l[(plc l id).toNat]? with | some o=>if o.left ≤ qty then 10 else 0 | none=>0) else 7
theorem zbW (l:List Od) (id:Int):plc l id = -1 ∨ ∃ (k:Nat) (o:Od),plc l id = k∧l[k]? = some o:=by
 rcases plcF_spec id l 0 with ⟨h1,_⟩ | ⟨i,o,h1,h2,_⟩
 ·exact .inl h1
 ·exact .inr ⟨i,o,by rw [plc,h1]; congr 1; omega,h2⟩
set_option maxHeartbeats 400000 in
theorem idRefusal_any (next:Int) (v:Value) (l:List Od) (id:Int) (w:World) (hr:RdR Od.vs 6 w v l) :
  Calls Tryz.prog 114 #[.agg #[.int .i64 next,v],.int .i64 id] w fun e w'=>e = .returned (.int .i64 (idR l id))∧Below w.heap.size w w':=by
 have HR:=hide hr
 obtain ⟨a,cap,rfl,hlen,hc⟩:=hr
 have HB0:Hid (Below w.heap.size w (w.alloc (Obj.cells #[.int .i64 next,.slice a l.length cap] 32))):=(Below.refl _ _).alloc (Nat.le_refl _) _
 clear hc
 go_enter Tryz.func114,Tryz.ntmps114
 go_wp2_with fail
 refine (zbs next _ l id _ (zi (za HR) (za HB0) (Nat.le_refl _))).mono ?_
 rintro e w3 ⟨rfl,hb3⟩
 have HB3:=hide ((za HB0).trans (hb3.mono (za HB0).size))
 clear hb3
 by_cases hp:plc l id < 0
 ·have HK:Hid (idR l id = 9):=if_pos hp
  go_wp2_with fail
  go_ret
  exact ⟨zo (za HK).symm,za HB3⟩
 ·have HK:Hid (idR l id = 0):=if_neg hp
  go_wp2_with fail
  go_ret
  exact ⟨zo (za HK).symm,za HB3⟩
end Go.Proofs.YtdfihaabhichdaaGreat
namespace Go.Proofs.YtdfihaabhichdaaGreat
open Go.RowKit
set_option linter.unusedVariables false

def DZ (b2 b3 b off cap k:Nat) (next id qty:Int) (l:List Od) (o:Od) (p:Prop) (V:World):Nat→Value→Prop
 | 0,v=>v = .pointer (some ⟨b3,1,none⟩)
 | 1,v=>v = .int .i64 qty
 | 2,v=>v = .pointer (some ⟨b2,1,none⟩)
 | 3,v=>v = .slice (some ⟨b,off,none⟩) l.length cap
 | 4,v=>v = .agg #[.int .i64 next,.slice (some ⟨b,off,none⟩) l.length cap]
 | 5,v=>v = .pointer (some ⟨b3,0,none⟩)
 | 6,v=>v = .int .i64 id
 | 7,v=>v = .int .i64 k
 | 8,v=>v = .pointer (some ⟨b,off + k * 6,none⟩)
 | 9,v=>v = .pointer (some ⟨b,off + k * 6 + 3,none⟩)
 | 10,v=>v = .int .i64 o.left
 | 11,v=>v = .bool (decide (o.left ≤ qty))
 | _,_=>True
set_option maxRecDepth 100000 in
set_option maxHeartbeats 1600000 in
theorem reduceRefusal_any (next:Int) (vb:Value) (l:List Od) (id qty:Int) (w:World) (hr:RdR Od.vs 6 w vb l) :
  Calls Tryz.prog 115 #[.agg #[.int .i64 next,vb],.agg #[.int .i64 id,.int .i64 qty]] w fun e w'=>e = .returned (.int .i64 (redR l id qty))∧Below w.heap.size w w':=by
 have HR:=hide hr
 obtain ⟨a,cap,rfl,hlen,hc⟩:=hr
 have HCL:=hide hc
 clear hc
 have hs1:(w.alloc (Obj.cells #[.int .i64 next,.slice a l.length cap] 32)).heap.size = w.heap.size + 1:=zf _ _
 have hs2:((w.alloc (Obj.cells #[.int .i64 next,.slice a l.length cap] 32)).alloc (Obj.cells #[.int .i64 id,.int .i64 qty] 134)).heap.size = w.heap.size + 1 + 1:=by rw [zf,hs1]
 have r1:=zg w [.int .i64 next,.slice a l.length cap] 32
 have r2:=zg (w.alloc (Obj.cells #[.int .i64 next,.slice a l.length cap] 32)) [.int .i64 id,.int .i64 qty] 134
 rw [hs1] at r2
 have b12:Below (w.heap.size + 1) (w.alloc (Obj.cells #[.int .i64 next,.slice a l.length cap] 32)) ((w.alloc (Obj.cells #[.int .i64 next,.slice a l.length cap] 32)).alloc (Obj.cells #[.int .i64 id,.int .i64 qty] 134)):=(Below.refl _ _).alloc (by rw [hs1]; omega) _
 have HB2:Hid (Below w.heap.size w ((w.alloc (Obj.cells #[.int .i64 next,.slice a l.length cap] 32)).alloc (Obj.cells #[.int .i64 id,.int .i64 qty] 134))):=((Below.refl _ _).alloc (Nat.le_refl _) _).alloc (by rw [hs1]; omega) _
 have HX:Hid (_∧_):=⟨zb r1 b12 (by omega),r2⟩
 have HLT:Hid (w.heap.size < ((w.alloc (Obj.cells #[.int .i64 next,.slice a l.length cap] 32)).alloc (Obj.cells #[.int .i64 id,.int .i64 qty] 134)).heap.size∧w.heap.size + 1 < ((w.alloc (Obj.cells #[.int .i64 next,.slice a l.length cap] 32)).alloc (Obj.cells #[.int .i64 id,.int .i64 qty] 134)).heap.size):=⟨by omega,by omega⟩
 clear hs1 hs2 r1 r2 b12
 go_enter Tryz.func115,Tryz.ntmps115
 refine wp_seq_k fun K hK=>?_
 have HK1:=hide hK
 clear hK
 go_wp2_with fail
 refine za HK1 _ _ ?_
 clear HK1
 generalize ((w.alloc (Obj.cells #[.int .i64 next,.slice a l.length cap] 32)).alloc (Obj.cells #[.int .i64 id,.int .i64 qty] 134)) = X2 at HB2 HX HLT ⊢
 have HX:Hid (X2.rangeAt w.heap.size 0 [.int .i64 next,.slice a l.length cap]∧X2.rangeAt (w.heap.size + 1) 0 [.int .i64 id,.int .i64 qty]):=za HX
 have k0:X2.cell? ⟨w.heap.size,0,none⟩ = some (.int .i64 next):=(za HX).1 0 _ rfl
 have k1:X2.cell? ⟨w.heap.size,1,none⟩ = some (.slice a l.length cap):=(za HX).1 1 _ rfl
 have o0:X2.cell? ⟨w.heap.size + 1,0,none⟩ = some (.int .i64 id):=(za HX).2 0 _ rfl
 have o1:X2.cell? ⟨w.heap.size + 1,1,none⟩ = some (.int .i64 qty):=(za HX).2 1 _ rfl
 go_wp2_with fail
 refine (isQty_any qty X2).mono ?_
 rintro e w3 ⟨rfl,rfl⟩
 cases hq:betB qty 1 1000000
 ·have HK:Hid (redR l id qty = 7):=by show _ = _; rw [redR,if_neg (by rw [hq]; simp)]
  clear hq
  go_wp2_with fail
  go_ret
  exact ⟨zo (za HK).symm,za HB2⟩
 have HQ:=hide hq
 clear hq
 go_wp2_with fail
 refine (idRefusal_any next _ l id w3 (zi (za HR) (za HB2) (Nat.le_refl _))).mono ?_
 rcases zbW l id with hp | ⟨k,o,hp,hk⟩
 ·have hid:idR l id = 9:=by rw [idR,if_pos (by omega)]
  rw [hid]
  have HK:Hid (redR l id qty = 9):=by show _ = _; rw [redR,if_pos (za HQ),if_pos (by omega)]
  clear hp hid
  rintro e w4 ⟨rfl,hb4⟩
  have HB4:=hide ((za HB2).trans (hb4.mono (za HB2).size))
  clear hb4
  go_wp2_with fail
  go_ret
  exact ⟨zo (za HK).symm,za HB4⟩
 have hid:idR l id = 0:=by rw [idR,if_neg (by omega)]
 rw [hid]
 have HPL:=hide hp
 have HRE:Hid (redR l id qty = if o.left ≤ qty then 10 else 0):=by
  show _ = _
  rw [redR,if_pos (za HQ),if_neg (by omega),hp,Int.toNat_natCast,hk]
 have hkl:=(List.getElem?_eq_some_iff.1 hk).1
 obtain ⟨b,off,rfl,hbw,hcl⟩:=za HCL (by intro h; rw [h] at hkl; simp at hkl)
 have HCE:=hide (hcl k o hk)
 have hkl':(k:Int) < l.length:=by omega
 have hk0:(0:Int) ≤ k:=by omega
 clear hp hid hcl hk
 rintro e w4 ⟨rfl,hb4⟩
 have HB4:=hide ((za HB2).trans (hb4.mono (za HB2).size))
 have HX4:Hid (w4.rangeAt w.heap.size 0 [.int .i64 next,.slice (some ⟨b,off,none⟩) l.length cap]∧w4.rangeAt (w.heap.size + 1) 0 [.int .i64 id,.int .i64 qty]∧w.heap.size < w4.heap.size∧w.heap.size + 1 < w4.heap.size):=⟨zb (za HX).1 hb4 (za HLT).1,zb (za HX).2 hb4 (za HLT).2,Nat.lt_of_lt_of_le (za HLT).1 hb4.size,Nat.lt_of_lt_of_le (za HLT).2 hb4.size⟩
 clear hb4 k0 k1 o0 o1
 go_wp2_with fail
 refine zj (RG w4 (fun f=>{ tmps:=#[.agg #[.int .i64 next,.slice (some ⟨b,off,none⟩) l.length cap],.agg #[.int .i64 id,.int .i64 qty],.pointer (some ⟨w.heap.size,0,none⟩),.pointer (some ⟨w.heap.size + 1,0,none⟩),.int .i64 0,.int .i64 0,.pointer (some ⟨w.heap.size + 1,1,none⟩),.int .i64 qty,.bool true,.bool false,.agg #[.int .i64 next,.slice (some ⟨b,off,none⟩) l.length cap],.pointer (some ⟨w.heap.size + 1,0,none⟩),.int .i64 id,.int .i64 0,.int .i64 0,.bool false,undef,f 0,f 1,f 2,f 3,f 4,f 5,f 6,f 7,f 8,f 9,f 10,f 11],defers:=[] }) 99 (DZ w.heap.size (w.heap.size + 1) b off cap k next id qty l o)) (by kernel_rfl) ?_ ?_ ?_
 ·exact ⟨fun _=>undef,rfl,⟨rfl,rfl,rfl,Nat.le_refl _,fun _ _=>rfl⟩,fun j hj=>by rw [List.getElem?_replicate] at hj; split at hj <;> simp at hj⟩
 ·rintro x A V ⟨f,rfl,hbel,hD⟩ hx hrd
  have hallx:=zS hrd hx (by kernel_rfl)
  have e11:f 11 = .bool (decide (o.left ≤ qty)):=hD 11 (hallx 11 (by simp))
  have HBV:=hide ((za HB4).trans (hbel.mono (za HB4).size))
  simp only [e11]
  clear hD hallx e11 hrd hx hbel
  by_cases hle:o.left ≤ qty
  ·have HK:Hid (redR l id qty = 10):=(za HRE).trans (if_pos hle)
   go_wp2_with fail
   go_ret
   exact ⟨zo (za HK).symm,za HBV⟩
  ·have HK:Hid (redR l id qty = 0):=(za HRE).trans (if_neg hle)
   go_wp2_with fail
   go_ret
   exact ⟨zo (za HK).symm,za HBV⟩
 ·rintro x A V i op ⟨f,rfl,hbel,hD⟩ hcl hx ho hxi hall
  clear hcl
  have HBV:=hide hbel
  have HD:=hide hD
  have z0:=zb (za HX4).1 hbel (za HX4).2.2.1 0 _ rfl
  have z1:=zb (za HX4).1 hbel (za HX4).2.2.1 1 _ rfl
  have u0:=zb (za HX4).2.1 hbel (za HX4).2.2.2 0 _ rfl
  have u1:=zb (za HX4).2.1 hbel (za HX4).2.2.2 1 _ rfl
  rw [Nat.zero_add] at z0 z1 u0 u1
  have HRD:=hide (zi (za HR) ((za HB4).trans (hbel.mono (za HB4).size)) (Nat.le_refl _))
  obtain ⟨-,-,-,y3,-⟩:=zC (zb (za HCE) ((za HB4).trans (hbel.mono (za HB4).size)) hbw)
  match i,ho with
  | 0,ho =>
   obtain rfl:=Option.some.inj ho
   clear hall hD hbel
   rw [if_pos (by rfl)]
   unfold Oper.wp
   go_simp
   exact ⟨upd f 0 (.pointer (some ⟨w.heap.size + 1,1,none⟩)),by simp [upd],ze (za HBV) (za HD) (by decide) rfl⟩
  | 1,ho =>
   obtain rfl:=Option.some.inj ho
   have g:f 0 = .pointer (some ⟨w.heap.size + 1,1,none⟩):=hD 0 (hall ⟨0,.data⟩ (by simp) rfl)
   clear hall hD hbel
   rw [if_pos (by rfl)]
   unfold Oper.wp
   go_simp
   exact ⟨upd f 1 (.int .i64 qty),by simp [upd,g],ze (za HBV) (za HD) (by decide) rfl⟩
  | 2,ho =>
   obtain rfl:=Option.some.inj ho
   clear hall hD hbel
   rw [if_pos (by rfl)]
   unfold Oper.wp
   go_simp
   exact ⟨upd f 2 (.pointer (some ⟨w.heap.size,1,none⟩)),by simp [upd],ze (za HBV) (za HD) (by decide) rfl⟩
  | 3,ho =>
   obtain rfl:=Option.some.inj ho
   have g:f 2 = .pointer (some ⟨w.heap.size,1,none⟩):=hD 2 (hall ⟨2,.data⟩ (by simp) rfl)
   clear hall hD hbel
   rw [if_pos (by rfl)]
   unfold Oper.wp
   go_simp
   exact ⟨upd f 3 (.slice (some ⟨b,off,none⟩) l.length cap),by simp [upd,g],ze (za HBV) (za HD) (by decide) rfl⟩
  | 4,ho =>
   obtain rfl:=Option.some.inj ho
   clear hall hD hbel
   rw [if_pos (by rfl)]
   unfold Oper.wp
   go_simp
   exact ⟨upd f 4 (.agg #[.int .i64 next,.slice (some ⟨b,off,none⟩) l.length cap]),by simp [upd],ze (za HBV) (za HD) (by decide) rfl⟩
  | 5,ho =>
   obtain rfl:=Option.some.inj ho
   clear hall hD hbel
   rw [if_pos (by rfl)]
   unfold Oper.wp
   go_simp
   exact ⟨upd f 5 (.pointer (some ⟨w.heap.size + 1,0,none⟩)),by simp [upd],ze (za HBV) (za HD) (by decide) rfl⟩
  | 6,ho =>
   obtain rfl:=Option.some.inj ho
   have g:f 5 = .pointer (some ⟨w.heap.size + 1,0,none⟩):=hD 5 (hall ⟨5,.data⟩ (by simp) rfl)
   clear hall hD hbel
   rw [if_pos (by rfl)]
   unfold Oper.wp
   go_simp
   exact ⟨upd f 6 (.int .i64 id),by simp [upd,g],ze (za HBV) (za HD) (by decide) rfl⟩
  | 7,ho =>
   obtain rfl:=Option.some.inj ho
   have g4:f 4 = .agg #[.int .i64 next,.slice (some ⟨b,off,none⟩) l.length cap]:=hD 4 (hall ⟨4,.data⟩ (by simp) rfl)
   have g6:f 6 = .int .i64 id:=hD 6 (hall ⟨6,.data⟩ (by simp) rfl)
   clear hall hD hbel
   rw [if_pos (by rfl)]
   unfold Oper.wp
   go_simp
   refine (zbs next _ l id V (za HRD)).mono ?_
   rw [za HPL]
   rintro e w4 ⟨rfl,hb4⟩
   exact ⟨upd f 7 (.int .i64 k),by simp [upd,g4,g6],zai (za HBV) (za HD) hb4 (by decide) (fun j v h=>h) rfl⟩
  | 8,ho =>
   obtain rfl:=Option.some.inj ho
   have g3:f 3 = .slice (some ⟨b,off,none⟩) l.length cap:=hD 3 (hall ⟨3,.data⟩ (by simp) rfl)
   have g7:f 7 = .int .i64 k:=hD 7 (hall ⟨7,.data⟩ (by simp) rfl)
   clear hall hD hbel
   rw [if_pos (by rfl)]
   unfold Oper.wp
   go_simp
   exact ⟨upd f 8 (.pointer (some ⟨b,off + k * 6,none⟩)),by simp [upd,g3,g7],ze (za HBV) (za HD) (by decide) rfl⟩
  | 9,ho =>
   obtain rfl:=Option.some.inj ho
   have g:f 8 = .pointer (some ⟨b,off + k * 6,none⟩):=hD 8 (hall ⟨8,.data⟩ (by simp) rfl)
   clear hall hD hbel
   rw [if_pos (by rfl)]
   unfold Oper.wp
   go_simp
   exact ⟨upd f 9 (.pointer (some ⟨b,off + k * 6 + 3,none⟩)),by simp [upd,g],ze (za HBV) (za HD) (by decide) rfl⟩
  | 10,ho =>
   obtain rfl:=Option.some.inj ho
   have g:f 9 = .pointer (some ⟨b,off + k * 6 + 3,none⟩):=hD 9 (hall ⟨9,.data⟩ (by simp) rfl)
   clear hall hD hbel
   rw [if_pos (by rfl)]
   unfold Oper.wp
   go_simp
   exact ⟨upd f 10 (.int .i64 o.left),by simp [upd,g],ze (za HBV) (za HD) (by decide) rfl⟩
  | 11,ho =>
   obtain rfl:=Option.some.inj ho
   have g1:f 1 = .int .i64 qty:=hD 1 (hall ⟨1,.data⟩ (by simp) rfl)
   have g:f 10 = .int .i64 o.left:=hD 10 (hall ⟨10,.data⟩ (by simp) rfl)
   clear hall hD hbel
   rw [if_pos (by rfl)]
   unfold Oper.wp
   go_simp
   exact ⟨upd f 11 (.bool (decide (o.left ≤ qty))),by simp [upd,g,g1],ze (za HBV) (za HD) (by decide) rfl⟩
  | n + 12,ho=>simp at ho
end Go.Proofs.YtdfihaabhichdaaGreat
