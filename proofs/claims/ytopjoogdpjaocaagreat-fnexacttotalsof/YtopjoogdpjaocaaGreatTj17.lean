/-
  Whether an order of an Id is there, and by how much it may be reduced, by the program: proved by walking both functions.
-/
import Derived.Test.YtopjoogdpjaocaaGreatTj16
import Derived.Deep.RegionHeld3
set_option linter.unusedVariables false
set_option maxHeartbeats 6400000
set_option maxRecDepth 100000
namespace Go.Proofs.YtopjoogdpjaocaaGreat
open Go.RowKit
def idR (l:List Od) (id:Int):Int:=if plc l id < 0 then 9 else 0
def redR (l:List Od) (id qty:Int):Int:=if betB qty 1 1000000 = true then (if plc l id < 0 then 9 else match l[(plc l id).toNat]? with | some o=>if o.left ≤ qty then 10 else 0 | none=>0) else 7
theorem zbU (l:List Od) (id:Int):plc l id = -1 ∨ ∃ (k:Nat) (o:Od),plc l id = k∧l[k]? = some o:=by
 rcases plcF_spec id l 0 with ⟨h1,_⟩ | ⟨i,o,h1,h2,_⟩
 ·exact .inl h1
 ·exact .inr ⟨i,o,by rw [plc,h1]; congr 1; omega,h2⟩
set_option maxHeartbeats 400000 in
theorem idRefusal_any (next:Int) (v:Value) (l:List Od) (id:Int) (w:World) (hr:RdR Od.vs 6 w v l) :
  Calls Tryz.prog 67 #[.agg #[.int .i64 next,v],.int .i64 id] w fun e w'=>e = .returned (.int .i64 (idR l id))∧Below w.heap.size w w':=by
 have HR:=hide hr
 obtain ⟨a,cap,rfl,hlen,hc⟩:=hr
 have HB0:Hid (Below w.heap.size w (w.alloc (Obj.cells #[.int .i64 next,.slice a l.length cap] 46))):=(Below.refl _ _).alloc (Nat.le_refl _) _
 clear hc
 go_enter Tryz.func67,Tryz.ntmps67
 go_wp2_with fail
 refine (zbo next _ l id _ (zl (za HR) (za HB0) (Nat.le_refl _))).mono ?_
 rintro e w3 ⟨rfl,hb3⟩
 have HB3:=hide ((za HB0).trans (hb3.mono (za HB0).size))
 clear hb3
 by_cases hp:plc l id < 0
 ·have HK:Hid (idR l id = 9):=if_pos hp
  go_wp2_with fail
  go_ret
  exact ⟨zr (za HK).symm,za HB3⟩
 ·have HK:Hid (idR l id = 0):=if_neg hp
  go_wp2_with fail
  go_ret
  exact ⟨zr (za HK).symm,za HB3⟩
set_option maxRecDepth 100000 in
set_option maxHeartbeats 1600000 in
theorem reduceRefusal_any (next:Int) (vb:Value) (l:List Od) (id qty:Int) (w:World) (hr:RdR Od.vs 6 w vb l) :
  Calls Tryz.prog 68 #[.agg #[.int .i64 next,vb],.agg #[.int .i64 id,.int .i64 qty]] w fun e w'=>e = .returned (.int .i64 (redR l id qty))∧Below w.heap.size w w':=by
 have HR:=hide hr
 obtain ⟨a,cap,rfl,hlen,hc⟩:=hr
 have HCL:=hide hc
 clear hc
 have hs1:(w.alloc (Obj.cells #[.int .i64 next,.slice a l.length cap] 46)).heap.size = w.heap.size + 1:=ze _ _
 have hs2:((w.alloc (Obj.cells #[.int .i64 next,.slice a l.length cap] 46)).alloc (Obj.cells #[.int .i64 id,.int .i64 qty] 105)).heap.size = w.heap.size + 1 + 1:=by rw [ze,hs1]
 have r1:=zh w [.int .i64 next,.slice a l.length cap] 46
 have r2:=zh (w.alloc (Obj.cells #[.int .i64 next,.slice a l.length cap] 46)) [.int .i64 id,.int .i64 qty] 105
 rw [hs1] at r2
 have b12:Below (w.heap.size + 1) (w.alloc (Obj.cells #[.int .i64 next,.slice a l.length cap] 46)) ((w.alloc (Obj.cells #[.int .i64 next,.slice a l.length cap] 46)).alloc (Obj.cells #[.int .i64 id,.int .i64 qty] 105)):=(Below.refl _ _).alloc (by rw [hs1]; omega) _
 have HB2:Hid (Below w.heap.size w ((w.alloc (Obj.cells #[.int .i64 next,.slice a l.length cap] 46)).alloc (Obj.cells #[.int .i64 id,.int .i64 qty] 105))):=((Below.refl _ _).alloc (Nat.le_refl _) _).alloc (by rw [hs1]; omega) _
 have HX:Hid (_∧_):=⟨zb r1 b12 (by omega),r2⟩
 have HLT:Hid (w.heap.size < ((w.alloc (Obj.cells #[.int .i64 next,.slice a l.length cap] 46)).alloc (Obj.cells #[.int .i64 id,.int .i64 qty] 105)).heap.size∧w.heap.size + 1 < ((w.alloc (Obj.cells #[.int .i64 next,.slice a l.length cap] 46)).alloc (Obj.cells #[.int .i64 id,.int .i64 qty] 105)).heap.size):=⟨by omega,by omega⟩
 clear hs1 hs2 r1 r2 b12
 go_enter Tryz.func68,Tryz.ntmps68
 refine wp_seq_k fun K hK=>?_
 have HK1:=hide hK
 clear hK
 go_wp2_with fail
 refine za HK1 _ _ ?_
 clear HK1
 generalize ((w.alloc (Obj.cells #[.int .i64 next,.slice a l.length cap] 46)).alloc (Obj.cells #[.int .i64 id,.int .i64 qty] 105)) = X2 at HB2 HX HLT ⊢
 have HX:Hid (X2.rangeAt w.heap.size 0 [.int .i64 next,.slice a l.length cap]∧X2.rangeAt (w.heap.size + 1) 0 [.int .i64 id,.int .i64 qty]):=za HX
 have k0:X2.cell? ⟨w.heap.size,0,none⟩ = some (.int .i64 next):=(za HX).1 0 _ rfl
 have k1:X2.cell? ⟨w.heap.size,1,none⟩ = some (.slice a l.length cap):=(za HX).1 1 _ rfl
 have o0:X2.cell? ⟨w.heap.size + 1,0,none⟩ = some (.int .i64 id):=(za HX).2 0 _ rfl
 have o1:X2.cell? ⟨w.heap.size + 1,1,none⟩ = some (.int .i64 qty):=(za HX).2 1 _ rfl
 go_wp2_with fail
 refine (isQty_any qty X2).mono ?_
 rintro e w3 ⟨rfl,rfl⟩
 cases hq:betB qty 1 1000000
 ·have HK:Hid (redR l id qty = 7):=by show _ = _; rw [redR,if_neg (by rw [hq]; simp)]
  clear hq
  go_wp2_with fail
  go_ret
  exact ⟨zr (za HK).symm,za HB2⟩
 have HQ:=hide hq
 clear hq
 go_wp2_with fail
 refine (idRefusal_any next _ l id w3 (zl (za HR) (za HB2) (Nat.le_refl _))).mono ?_
 rcases zbU l id with hp | ⟨k,o,hp,hk⟩
 ·have hid:idR l id = 9:=by rw [idR,if_pos (by omega)]
  rw [hid]
  have HK:Hid (redR l id qty = 9):=by show _ = _; rw [redR,if_pos (za HQ),if_pos (by omega)]
  clear hp hid
  rintro e w4 ⟨rfl,hb4⟩
  have HB4:=hide ((za HB2).trans (hb4.mono (za HB2).size))
  clear hb4
  go_wp2_with fail
  go_ret
  exact ⟨zr (za HK).symm,za HB4⟩
 have hid:idR l id = 0:=by rw [idR,if_neg (by omega)]
 rw [hid]
 have HPL:=hide hp
 have HRE:Hid (redR l id qty = if o.left ≤ qty then 10 else 0):=by
  show _ = _
  rw [redR,if_pos (za HQ),if_neg (by omega),hp,Int.toNat_natCast,hk]
 have hkl:=(List.getElem?_eq_some_iff.1 hk).1
 obtain ⟨b,off,rfl,hbw,hcl⟩:=za HCL (by intro h; rw [h] at hkl; simp at hkl)
 have HCE:=hide (hcl k o hk)
 have hkl':(k:Int) < l.length:=by omega
 have hk0:(0:Int) ≤ k:=by omega
 clear hp hid hcl hk
 rintro e w4 ⟨rfl,hb4⟩
 have HB4:=hide ((za HB2).trans (hb4.mono (za HB2).size))
 have HX4:Hid (w4.rangeAt w.heap.size 0 [.int .i64 next,.slice (some ⟨b,off,none⟩) l.length cap]∧w4.rangeAt (w.heap.size + 1) 0 [.int .i64 id,.int .i64 qty]∧w.heap.size < w4.heap.size∧w.heap.size + 1 < w4.heap.size):=⟨zb (za HX).1 hb4 (za HLT).1,zb (za HX).2 hb4 (za HLT).2,Nat.lt_of_lt_of_le (za HLT).1 hb4.size,Nat.lt_of_lt_of_le (za HLT).2 hb4.size⟩
 clear hb4 k0 k1 o0 o1
 go_wp2_with fail
 have HWD:Hid (Below w4.heap.size w4 w4.drew):=(Below.refl _ _).drew
 have HPO:Hid (∀ V,Below w4.heap.size w4 V→Calls Tryz.prog 74 #[.agg #[.int .i64 next,.slice (some ⟨b,off,none⟩) l.length cap],.int .i64 id] V fun e w'=>e = .returned (.int .i64 k)∧Below w4.heap.size w4 w'):=fun V hV=>(zbo next _ l id V (zl (za HR) ((za HB4).trans (hV.mono (za HB4).size)) (Nat.le_refl _))).mono fun e w' ⟨h1,h2⟩=>⟨by rw [h1,za HPL],hV.trans (h2.mono hV.size)⟩
 have HSK:Hid (∀ V,Below w4.heap.size w4 V→V.cell? ⟨w.heap.size + 1,1,none⟩ = some (.int .i64 qty)∧V.cell? ⟨w.heap.size + 1,0,none⟩ = some (.int .i64 id)∧V.cell? ⟨w.heap.size,0,none⟩ = some (.int .i64 next)∧V.cell? ⟨w.heap.size,1,none⟩ = some (.slice (some ⟨b,off,none⟩) l.length cap)∧V.cell? ⟨b,off + k * 6 + 3,none⟩ = some (.int .i64 o.left)):=fun V hV=>by
  have h1:=zb (za HX4).1 hV (za HX4).2.2.1
  have h2:=zb (za HX4).2.1 hV (za HX4).2.2.2
  obtain ⟨-,-,-,y3,-⟩:=zD (zb (za HCE) ((za HB4).trans (hV.mono (za HB4).size)) hbw)
  exact ⟨h2 1 _ rfl,h2 0 _ rfl,h1 0 _ rfl,h1 1 _ rfl,y3⟩
 go_region_held3 (fun w'=>w'.cell? ⟨w.heap.size + 1,1,none⟩ = some (.int .i64 qty)∧w'.cell? ⟨w.heap.size + 1,0,none⟩ = some (.int .i64 id)∧w'.cell? ⟨w.heap.size,0,none⟩ = some (.int .i64 next)∧w'.cell? ⟨w.heap.size,1,none⟩ = some (.slice (some ⟨b,off,none⟩) l.length cap)∧w'.cell? ⟨b,off + k * 6 + 3,none⟩ = some (.int .i64 o.left)) (first | exact za HSK _ hq | exact za HSK _ (za HWD) | go_keep) ((go_at_call 74; refine (za HPO _ (za HWD)).mono ?_; rintro e V ⟨rfl,hq⟩))
 have HBV:=hide ((za HB4).trans (hq.mono (za HB4).size))
 clear hq HPO HSK HWD
 by_cases hle:o.left ≤ qty
 ·have HK:Hid (redR l id qty = 10):=(za HRE).trans (if_pos hle)
  go_wp2_with fail
  go_ret
  exact ⟨zr (za HK).symm,za HBV⟩
 ·have HK:Hid (redR l id qty = 0):=(za HRE).trans (if_neg hle)
  go_wp2_with fail
  go_ret
  exact ⟨zr (za HK).symm,za HBV⟩
set_option maxRecDepth 100000 in
set_option maxHeartbeats 1600000 in
theorem refusal_1 (next:Int) (vb:Value) (l:List Od) (s ty li qt ii:Int) (pr:Nat) (tg:ByteArray) (w:World) (hr:RdR Od.vs 6 w vb l) (hs:SlOk vb) (hg:GoodL l) (h0:0 ≤ next) (h1:next ≤ 1000000) (ht:tg.size ≤ maxLen) :
  Calls Tryz.prog 46 #[.agg #[.int .i64 next,vb],.agg #[.int .i64 1,.int .i64 s,.int .i64 ty,.int .i64 li,.int .i64 qt,.int .i64 ii,.float .f64 pr,.string tg]] w fun e w'=>e = .returned (.int .i64 (if zaz ⟨1,s,ty,li,qt,0,pr,tg⟩ ⟨1,s,ty,li,qt,ii,pr,tg⟩ = true then newR next l ⟨1,s,ty,li,qt,ii,pr,tg⟩ else 2))∧Below w.heap.size w w':=by
 have HR:=hide hr
 have HG:=hide hg
 have HSL:=hide hs
 have HNUM:Hid (0 ≤ next∧next ≤ 1000000):=⟨h0,h1⟩
 have HTG:=hide ht
 obtain ⟨a,cap,rfl,hlen,hc⟩:=hr
 clear hc hg hs h0 h1 ht hlen
 generalize hsm:zaz ⟨1,s,ty,li,qt,0,pr,tg⟩ ⟨1,s,ty,li,qt,ii,pr,tg⟩ = sm
 have HSM:=hide hsm
 clear hsm
 have hs1:(w.alloc (Obj.cells #[.int .i64 next,.slice a l.length cap] 46)).heap.size = w.heap.size + 1:=ze _ _
 have hs2:((w.alloc (Obj.cells #[.int .i64 next,.slice a l.length cap] 46)).alloc (Obj.cells #[.int .i64 1,.int .i64 s,.int .i64 ty,.int .i64 li,.int .i64 qt,.int .i64 ii,.float .f64 pr,.string tg] 39)).heap.size = w.heap.size + 1 + 1:=by rw [ze,hs1]
 have r1:=zh w [.int .i64 next,.slice a l.length cap] 46
 have r2:=zh (w.alloc (Obj.cells #[.int .i64 next,.slice a l.length cap] 46)) [.int .i64 1,.int .i64 s,.int .i64 ty,.int .i64 li,.int .i64 qt,.int .i64 ii,.float .f64 pr,.string tg] 39
 rw [hs1] at r2
 have b12:Below (w.heap.size + 1) (w.alloc (Obj.cells #[.int .i64 next,.slice a l.length cap] 46)) ((w.alloc (Obj.cells #[.int .i64 next,.slice a l.length cap] 46)).alloc (Obj.cells #[.int .i64 1,.int .i64 s,.int .i64 ty,.int .i64 li,.int .i64 qt,.int .i64 ii,.float .f64 pr,.string tg] 39)):=(Below.refl _ _).alloc (by rw [hs1]; omega) _
 have HB2:Hid (Below w.heap.size w ((w.alloc (Obj.cells #[.int .i64 next,.slice a l.length cap] 46)).alloc (Obj.cells #[.int .i64 1,.int .i64 s,.int .i64 ty,.int .i64 li,.int .i64 qt,.int .i64 ii,.float .f64 pr,.string tg] 39))):=((Below.refl _ _).alloc (Nat.le_refl _) _).alloc (by rw [hs1]; omega) _
 have HX:Hid (_∧_):=⟨zb r1 b12 (by omega),r2⟩
 have HLT:Hid (w.heap.size < ((w.alloc (Obj.cells #[.int .i64 next,.slice a l.length cap] 46)).alloc (Obj.cells #[.int .i64 1,.int .i64 s,.int .i64 ty,.int .i64 li,.int .i64 qt,.int .i64 ii,.float .f64 pr,.string tg] 39)).heap.size∧w.heap.size + 1 < ((w.alloc (Obj.cells #[.int .i64 next,.slice a l.length cap] 46)).alloc (Obj.cells #[.int .i64 1,.int .i64 s,.int .i64 ty,.int .i64 li,.int .i64 qt,.int .i64 ii,.float .f64 pr,.string tg] 39)).heap.size):=⟨by omega,by omega⟩
 clear hs1 hs2 r1 r2 b12
 go_enter Tryz.func46,Tryz.ntmps46
 refine wp_seq_k fun K hK=>?_
 have HK1:=hide hK
 clear hK
 go_wp2_with fail
 refine za HK1 _ _ ?_
 clear HK1
 generalize ((w.alloc (Obj.cells #[.int .i64 next,.slice a l.length cap] 46)).alloc (Obj.cells #[.int .i64 1,.int .i64 s,.int .i64 ty,.int .i64 li,.int .i64 qt,.int .i64 ii,.float .f64 pr,.string tg] 39)) = X2 at HB2 HX HLT ⊢
 have HX:Hid (X2.rangeAt w.heap.size 0 [.int .i64 next,.slice a l.length cap]∧X2.rangeAt (w.heap.size + 1) 0 [.int .i64 1,.int .i64 s,.int .i64 ty,.int .i64 li,.int .i64 qt,.int .i64 ii,.float .f64 pr,.string tg]):=za HX
 have o0:X2.cell? ⟨w.heap.size + 1,0,none⟩ = some (.int .i64 1):=(za HX).2 0 _ rfl
 have o1:X2.cell? ⟨w.heap.size + 1,1,none⟩ = some (.int .i64 s):=(za HX).2 1 _ rfl
 have o2:X2.cell? ⟨w.heap.size + 1,2,none⟩ = some (.int .i64 ty):=(za HX).2 2 _ rfl
 have o3:X2.cell? ⟨w.heap.size + 1,3,none⟩ = some (.int .i64 li):=(za HX).2 3 _ rfl
 have o4:X2.cell? ⟨w.heap.size + 1,4,none⟩ = some (.int .i64 qt):=(za HX).2 4 _ rfl
 have o5:X2.cell? ⟨w.heap.size + 1,5,none⟩ = some (.int .i64 ii):=(za HX).2 5 _ rfl
 have o6:X2.cell? ⟨w.heap.size + 1,6,none⟩ = some (.float .f64 pr):=(za HX).2 6 _ rfl
 have o7:X2.cell? ⟨w.heap.size + 1,7,none⟩ = some (.string tg):=(za HX).2 7 _ rfl
 go_wp2_with fail
 refine (zag ⟨1,s,ty,li,qt,ii,pr,tg⟩ X2).mono ?_
 have hci:cmdI ⟨1,s,ty,li,qt,ii,pr,tg⟩ = .iface 99 (.agg #[.int .i64 s,.int .i64 ty,.int .i64 li,.int .i64 qt,.float .f64 pr,.string tg]):=by simp [cmdI,noV]
 rw [hci]
 clear hci
 rintro e w4 ⟨rfl,hb4⟩
 have HB4:=hide ((za HB2).trans (hb4.mono (za HB2).size))
 have HX4:Hid (w4.rangeAt w.heap.size 0 [.int .i64 next,.slice a l.length cap]∧w4.rangeAt (w.heap.size + 1) 0 [.int .i64 1,.int .i64 s,.int .i64 ty,.int .i64 li,.int .i64 qt,.int .i64 ii,.float .f64 pr,.string tg]∧w.heap.size < w4.heap.size∧w.heap.size + 1 < w4.heap.size):=⟨zb (za HX).1 hb4 (za HLT).1,zb (za HX).2 hb4 (za HLT).2,Nat.lt_of_lt_of_le (za HLT).1 hb4.size,Nat.lt_of_lt_of_le (za HLT).2 hb4.size⟩
 clear hb4 o0 o1 o2 o3 o4 o5 o6 o7
 go_wp2_with fail
 have hm:∀ W:World,Sem.run Tryz.prog (method 298 99 (.agg #[.int .i64 s,.int .i64 ty,.int .i64 li,.int .i64 qt,.float .f64 pr,.string tg]) "loop.example/g00092/impl.told") W = .ok (71,.agg #[.int .i64 s,.int .i64 ty,.int .i64 li,.int .i64 qt,.float .f64 pr,.string tg]) W:=fun W=>by kernel_rfl
 have HWD:Hid (Below w4.heap.size w4 w4.drew):=(Below.refl _ _).drew
 have HSC:=hide (fun W=>zbH ⟨1,s,ty,li,qt,0,pr,tg⟩ ⟨1,s,ty,li,qt,ii,pr,tg⟩ W)
 rw [za HSM] at HSC
 unfold cmV at HSC
 simp only at HSC
 have HTO:=hide (fun W=>toldNew_any ⟨1,s,ty,li,qt,ii,pr,tg⟩ W)
 unfold noV at HTO
 simp only at HTO
 have HSK:Hid (∀ V,Below w4.heap.size w4 V→V.cell? ⟨w.heap.size + 1,0,none⟩ = some (.int .i64 1)∧V.cell? ⟨w.heap.size + 1,1,none⟩ = some (.int .i64 s)∧V.cell? ⟨w.heap.size + 1,2,none⟩ = some (.int .i64 ty)∧V.cell? ⟨w.heap.size + 1,3,none⟩ = some (.int .i64 li)∧V.cell? ⟨w.heap.size + 1,4,none⟩ = some (.int .i64 qt)∧V.cell? ⟨w.heap.size + 1,5,none⟩ = some (.int .i64 ii)∧V.cell? ⟨w.heap.size + 1,6,none⟩ = some (.float .f64 pr)∧V.cell? ⟨w.heap.size + 1,7,none⟩ = some (.string tg)):=fun V hV=>⟨zb (za HX4).2.1 hV (za HX4).2.2.2 0 _ rfl,zb (za HX4).2.1 hV (za HX4).2.2.2 1 _ rfl,zb (za HX4).2.1 hV (za HX4).2.2.2 2 _ rfl,zb (za HX4).2.1 hV (za HX4).2.2.2 3 _ rfl,zb (za HX4).2.1 hV (za HX4).2.2.2 4 _ rfl,zb (za HX4).2.1 hV (za HX4).2.2.2 5 _ rfl,zb (za HX4).2.1 hV (za HX4).2.2.2 6 _ rfl,zb (za HX4).2.1 hV (za HX4).2.2.2 7 _ rfl⟩
 go_region_held3 (fun w'=>w'.cell? ⟨w.heap.size + 1,0,none⟩ = some (.int .i64 1)∧w'.cell? ⟨w.heap.size + 1,1,none⟩ = some (.int .i64 s)∧w'.cell? ⟨w.heap.size + 1,2,none⟩ = some (.int .i64 ty)∧w'.cell? ⟨w.heap.size + 1,3,none⟩ = some (.int .i64 li)∧w'.cell? ⟨w.heap.size + 1,4,none⟩ = some (.int .i64 qt)∧w'.cell? ⟨w.heap.size + 1,5,none⟩ = some (.int .i64 ii)∧w'.cell? ⟨w.heap.size + 1,6,none⟩ = some (.float .f64 pr)∧w'.cell? ⟨w.heap.size + 1,7,none⟩ = some (.string tg)) (first | exact za HSK _ hbel | exact za HSK _ (za HWD) | go_keep) (first | (go_at_call 71; refine (za HTO _).mono ?_; rintro e V5 ⟨rfl,hb5⟩; have hbel:=(za HWD).trans hb5) | (go_at_call 65; refine (za HSC _).mono ?_; rintro e V ⟨rfl,hb6⟩; have hbel:=hbel.trans (hb6.mono hbel.size)))
 have HBV:=hide ((za HB4).trans (hbel.mono (za HB4).size))
 have z0:=zb (za HX4).1 hbel (za HX4).2.2.1 0 _ rfl
 have z1:=zb (za HX4).1 hbel (za HX4).2.2.1 1 _ rfl
 rw [Nat.zero_add] at z0 z1
 have ta1:∀ W:World,Sem.run Tryz.prog (Instr.typeAssert (.iface 99 (.agg #[.int .i64 s,.int .i64 ty,.int .i64 li,.int .i64 qt,.float .f64 pr,.string tg])) 96 99 true) W = .ok (.tuple #[.agg #[.int .i64 s,.int .i64 ty,.int .i64 li,.int .i64 qt,.float .f64 pr,.string tg],.bool true]) W:=fun W=>by kernel_rfl
 clear hbel HTO HSC hm
 cases sm
 ·go_wp2_with fail
  go_ret
  exact ⟨rfl,za HBV⟩
 ·have hlt:w.heap.size < V.heap.size:=World.block_lt_of_cell? V ⟨w.heap.size,0,none⟩ z0
  have y0:World.cell? (V.alloc (Obj.cells #[.int .i64 s,.int .i64 ty,.int .i64 li,.int .i64 qt,.float .f64 pr,.string tg] 99)) ⟨w.heap.size,0,none⟩ = some (.int .i64 next):=(World.cell?_alloc_lt _ _ _ hlt).trans z0
  have y1:World.cell? (V.alloc (Obj.cells #[.int .i64 s,.int .i64 ty,.int .i64 li,.int .i64 qt,.float .f64 pr,.string tg] 99)) ⟨w.heap.size,1,none⟩ = some (.slice a l.length cap):=(World.cell?_alloc_lt _ _ _ hlt).trans z1
  have HBA:Hid (Below w.heap.size w (V.alloc (Obj.cells #[.int .i64 s,.int .i64 ty,.int .i64 li,.int .i64 qt,.float .f64 pr,.string tg] 99))):=(za HBV).alloc (za HBV).size _
  clear z0 z1 hlt
  have hsf:=sfl
  go_wp2_with fail
  refine (newRefusal_any next _ l ⟨1,s,ty,li,qt,ii,pr,tg⟩ _ (zl (za HR) (za HBA) (Nat.le_refl _)) (za HSL) (za HG) (za HNUM).1 (za HNUM).2 (za HTG)).mono ?_
  rintro e w7 ⟨rfl,hb7⟩
  have HB7:=hide ((za HBA).trans (hb7.mono (za HBA).size))
  clear hb7
  go_wp2_with fail
  go_ret
  exact ⟨rfl,za HB7⟩
set_option maxRecDepth 100000 in
set_option maxHeartbeats 1600000 in
theorem refusal_2 (next:Int) (vb:Value) (l:List Od) (s ty li qt ii:Int) (pr:Nat) (tg:ByteArray) (w:World) (hr:RdR Od.vs 6 w vb l) (hs:SlOk vb) (hg:GoodL l) (h0:0 ≤ next) (h1:next ≤ 1000000) (ht:tg.size ≤ maxLen) :
  Calls Tryz.prog 46 #[.agg #[.int .i64 next,vb],.agg #[.int .i64 2,.int .i64 s,.int .i64 ty,.int .i64 li,.int .i64 qt,.int .i64 ii,.float .f64 pr,.string tg]] w fun e w'=>e = .returned (.int .i64 (if zaz ⟨2,0,0,0,0,ii,0,⟨#[]⟩⟩ ⟨2,s,ty,li,qt,ii,pr,tg⟩ = true then idR l ii else 2))∧Below w.heap.size w w':=by
 have HR:=hide hr
 have HG:=hide hg
 have HSL:=hide hs
 have HNUM:Hid (0 ≤ next∧next ≤ 1000000):=⟨h0,h1⟩
 have HTG:=hide ht
 obtain ⟨a,cap,rfl,hlen,hc⟩:=hr
 clear hc hg hs h0 h1 ht hlen
 generalize hsm:zaz ⟨2,0,0,0,0,ii,0,⟨#[]⟩⟩ ⟨2,s,ty,li,qt,ii,pr,tg⟩ = sm
 have HSM:=hide hsm
 clear hsm
 have hs1:(w.alloc (Obj.cells #[.int .i64 next,.slice a l.length cap] 46)).heap.size = w.heap.size + 1:=ze _ _
 have hs2:((w.alloc (Obj.cells #[.int .i64 next,.slice a l.length cap] 46)).alloc (Obj.cells #[.int .i64 2,.int .i64 s,.int .i64 ty,.int .i64 li,.int .i64 qt,.int .i64 ii,.float .f64 pr,.string tg] 39)).heap.size = w.heap.size + 1 + 1:=by rw [ze,hs1]
 have r1:=zh w [.int .i64 next,.slice a l.length cap] 46
 have r2:=zh (w.alloc (Obj.cells #[.int .i64 next,.slice a l.length cap] 46)) [.int .i64 2,.int .i64 s,.int .i64 ty,.int .i64 li,.int .i64 qt,.int .i64 ii,.float .f64 pr,.string tg] 39
 rw [hs1] at r2
 have b12:Below (w.heap.size + 1) (w.alloc (Obj.cells #[.int .i64 next,.slice a l.length cap] 46)) ((w.alloc (Obj.cells #[.int .i64 next,.slice a l.length cap] 46)).alloc (Obj.cells #[.int .i64 2,.int .i64 s,.int .i64 ty,.int .i64 li,.int .i64 qt,.int .i64 ii,.float .f64 pr,.string tg] 39)):=(Below.refl _ _).alloc (by rw [hs1]; omega) _
 have HB2:Hid (Below w.heap.size w ((w.alloc (Obj.cells #[.int .i64 next,.slice a l.length cap] 46)).alloc (Obj.cells #[.int .i64 2,.int .i64 s,.int .i64 ty,.int .i64 li,.int .i64 qt,.int .i64 ii,.float .f64 pr,.string tg] 39))):=((Below.refl _ _).alloc (Nat.le_refl _) _).alloc (by rw [hs1]; omega) _
 have HX:Hid (_∧_):=⟨zb r1 b12 (by omega),r2⟩
 have HLT:Hid (w.heap.size < ((w.alloc (Obj.cells #[.int .i64 next,.slice a l.length cap] 46)).alloc (Obj.cells #[.int .i64 2,.int .i64 s,.int .i64 ty,.int .i64 li,.int .i64 qt,.int .i64 ii,.float .f64 pr,.string tg] 39)).heap.size∧w.heap.size + 1 < ((w.alloc (Obj.cells #[.int .i64 next,.slice a l.length cap] 46)).alloc (Obj.cells #[.int .i64 2,.int .i64 s,.int .i64 ty,.int .i64 li,.int .i64 qt,.int .i64 ii,.float .f64 pr,.string tg] 39)).heap.size):=⟨by omega,by omega⟩
 clear hs1 hs2 r1 r2 b12
 go_enter Tryz.func46,Tryz.ntmps46
 refine wp_seq_k fun K hK=>?_
 have HK1:=hide hK
 clear hK
 go_wp2_with fail
 refine za HK1 _ _ ?_
 clear HK1
 generalize ((w.alloc (Obj.cells #[.int .i64 next,.slice a l.length cap] 46)).alloc (Obj.cells #[.int .i64 2,.int .i64 s,.int .i64 ty,.int .i64 li,.int .i64 qt,.int .i64 ii,.float .f64 pr,.string tg] 39)) = X2 at HB2 HX HLT ⊢
 have HX:Hid (X2.rangeAt w.heap.size 0 [.int .i64 next,.slice a l.length cap]∧X2.rangeAt (w.heap.size + 1) 0 [.int .i64 2,.int .i64 s,.int .i64 ty,.int .i64 li,.int .i64 qt,.int .i64 ii,.float .f64 pr,.string tg]):=za HX
 have o0:X2.cell? ⟨w.heap.size + 1,0,none⟩ = some (.int .i64 2):=(za HX).2 0 _ rfl
 have o1:X2.cell? ⟨w.heap.size + 1,1,none⟩ = some (.int .i64 s):=(za HX).2 1 _ rfl
 have o2:X2.cell? ⟨w.heap.size + 1,2,none⟩ = some (.int .i64 ty):=(za HX).2 2 _ rfl
 have o3:X2.cell? ⟨w.heap.size + 1,3,none⟩ = some (.int .i64 li):=(za HX).2 3 _ rfl
 have o4:X2.cell? ⟨w.heap.size + 1,4,none⟩ = some (.int .i64 qt):=(za HX).2 4 _ rfl
 have o5:X2.cell? ⟨w.heap.size + 1,5,none⟩ = some (.int .i64 ii):=(za HX).2 5 _ rfl
 have o6:X2.cell? ⟨w.heap.size + 1,6,none⟩ = some (.float .f64 pr):=(za HX).2 6 _ rfl
 have o7:X2.cell? ⟨w.heap.size + 1,7,none⟩ = some (.string tg):=(za HX).2 7 _ rfl
 go_wp2_with fail
 refine (zag ⟨2,s,ty,li,qt,ii,pr,tg⟩ X2).mono ?_
 have hci:cmdI ⟨2,s,ty,li,qt,ii,pr,tg⟩ = .iface 102 (.agg #[.int .i64 ii]):=by simp [cmdI]
 rw [hci]
 clear hci
 rintro e w4 ⟨rfl,hb4⟩
 have HB4:=hide ((za HB2).trans (hb4.mono (za HB2).size))
 have HX4:Hid (w4.rangeAt w.heap.size 0 [.int .i64 next,.slice a l.length cap]∧w4.rangeAt (w.heap.size + 1) 0 [.int .i64 2,.int .i64 s,.int .i64 ty,.int .i64 li,.int .i64 qt,.int .i64 ii,.float .f64 pr,.string tg]∧w.heap.size < w4.heap.size∧w.heap.size + 1 < w4.heap.size):=⟨zb (za HX).1 hb4 (za HLT).1,zb (za HX).2 hb4 (za HLT).2,Nat.lt_of_lt_of_le (za HLT).1 hb4.size,Nat.lt_of_lt_of_le (za HLT).2 hb4.size⟩
 clear hb4 o0 o1 o2 o3 o4 o5 o6 o7
 go_wp2_with fail
 have hm:∀ W:World,Sem.run Tryz.prog (method 298 102 (.agg #[.int .i64 ii]) "loop.example/g00092/impl.told") W = .ok (138,.agg #[.int .i64 ii]) W:=fun W=>by kernel_rfl
 have HWD:Hid (Below w4.heap.size w4 w4.drew):=(Below.refl _ _).drew
 have HSC:=hide (fun W=>zbH ⟨2,0,0,0,0,ii,0,⟨#[]⟩⟩ ⟨2,s,ty,li,qt,ii,pr,tg⟩ W)
 rw [za HSM] at HSC
 unfold cmV at HSC
 simp only at HSC
 have HTO:=hide (fun W=>toldCancel_any ii W)
 have HSK:Hid (∀ V,Below w4.heap.size w4 V→V.cell? ⟨w.heap.size + 1,0,none⟩ = some (.int .i64 2)∧V.cell? ⟨w.heap.size + 1,1,none⟩ = some (.int .i64 s)∧V.cell? ⟨w.heap.size + 1,2,none⟩ = some (.int .i64 ty)∧V.cell? ⟨w.heap.size + 1,3,none⟩ = some (.int .i64 li)∧V.cell? ⟨w.heap.size + 1,4,none⟩ = some (.int .i64 qt)∧V.cell? ⟨w.heap.size + 1,5,none⟩ = some (.int .i64 ii)∧V.cell? ⟨w.heap.size + 1,6,none⟩ = some (.float .f64 pr)∧V.cell? ⟨w.heap.size + 1,7,none⟩ = some (.string tg)):=fun V hV=>⟨zb (za HX4).2.1 hV (za HX4).2.2.2 0 _ rfl,zb (za HX4).2.1 hV (za HX4).2.2.2 1 _ rfl,zb (za HX4).2.1 hV (za HX4).2.2.2 2 _ rfl,zb (za HX4).2.1 hV (za HX4).2.2.2 3 _ rfl,zb (za HX4).2.1 hV (za HX4).2.2.2 4 _ rfl,zb (za HX4).2.1 hV (za HX4).2.2.2 5 _ rfl,zb (za HX4).2.1 hV (za HX4).2.2.2 6 _ rfl,zb (za HX4).2.1 hV (za HX4).2.2.2 7 _ rfl⟩
 go_region_held3 (fun w'=>w'.cell? ⟨w.heap.size + 1,0,none⟩ = some (.int .i64 2)∧w'.cell? ⟨w.heap.size + 1,1,none⟩ = some (.int .i64 s)∧w'.cell? ⟨w.heap.size + 1,2,none⟩ = some (.int .i64 ty)∧w'.cell? ⟨w.heap.size + 1,3,none⟩ = some (.int .i64 li)∧w'.cell? ⟨w.heap.size + 1,4,none⟩ = some (.int .i64 qt)∧w'.cell? ⟨w.heap.size + 1,5,none⟩ = some (.int .i64 ii)∧w'.cell? ⟨w.heap.size + 1,6,none⟩ = some (.float .f64 pr)∧w'.cell? ⟨w.heap.size + 1,7,none⟩ = some (.string tg)) (first | exact za HSK _ hbel | exact za HSK _ (za HWD) | go_keep) (first | (go_at_call 138; refine (za HTO _).mono ?_; rintro e V5 ⟨rfl,hb5⟩; have hbel:=(za HWD).trans hb5) | (go_at_call 65; refine (za HSC _).mono ?_; rintro e V ⟨rfl,hb6⟩; have hbel:=hbel.trans (hb6.mono hbel.size)))
 have HBV:=hide ((za HB4).trans (hbel.mono (za HB4).size))
 have z0:=zb (za HX4).1 hbel (za HX4).2.2.1 0 _ rfl
 have z1:=zb (za HX4).1 hbel (za HX4).2.2.1 1 _ rfl
 rw [Nat.zero_add] at z0 z1
 have ta1:∀ W:World,Sem.run Tryz.prog (Instr.typeAssert (.iface 102 (.agg #[.int .i64 ii])) 96 99 true) W = .ok (.tuple #[.agg #[.int .i64 0,.int .i64 0,.int .i64 0,.int .i64 0,.float .f64 0,.string ⟨#[]⟩],.bool false]) W:=fun W=>by kernel_rfl
 have ta2:∀ W:World,Sem.run Tryz.prog (Instr.typeAssert (.iface 102 (.agg #[.int .i64 ii])) 96 102 true) W = .ok (.tuple #[.agg #[.int .i64 ii],.bool true]) W:=fun W=>by kernel_rfl
 clear hbel HTO HSC hm
 cases sm
 ·go_wp2_with fail
  go_ret
  exact ⟨rfl,za HBV⟩
 ·have hlt:w.heap.size < V.heap.size:=World.block_lt_of_cell? V ⟨w.heap.size,0,none⟩ z0
  have y0:World.cell? (V.alloc (Obj.cells #[.int .i64 ii] 102)) ⟨w.heap.size,0,none⟩ = some (.int .i64 next):=(World.cell?_alloc_lt _ _ _ hlt).trans z0
  have y1:World.cell? (V.alloc (Obj.cells #[.int .i64 ii] 102)) ⟨w.heap.size,1,none⟩ = some (.slice a l.length cap):=(World.cell?_alloc_lt _ _ _ hlt).trans z1
  have HBA:Hid (Below w.heap.size w (V.alloc (Obj.cells #[.int .i64 ii] 102))):=(za HBV).alloc (za HBV).size _
  clear z0 z1 hlt
  go_wp2_with fail
  refine (idRefusal_any next _ l ii _ (zl (za HR) (za HBA) (Nat.le_refl _))).mono ?_
  rintro e w7 ⟨rfl,hb7⟩
  have HB7:=hide ((za HBA).trans (hb7.mono (za HBA).size))
  clear hb7
  go_wp2_with fail
  go_ret
  exact ⟨rfl,za HB7⟩
set_option maxRecDepth 100000 in
set_option maxHeartbeats 1600000 in
theorem refusal_3 (next:Int) (vb:Value) (l:List Od) (s ty li qt ii:Int) (pr:Nat) (tg:ByteArray) (w:World) (hr:RdR Od.vs 6 w vb l) (hs:SlOk vb) (hg:GoodL l) (h0:0 ≤ next) (h1:next ≤ 1000000) (ht:tg.size ≤ maxLen) :
  Calls Tryz.prog 46 #[.agg #[.int .i64 next,vb],.agg #[.int .i64 3,.int .i64 s,.int .i64 ty,.int .i64 li,.int .i64 qt,.int .i64 ii,.float .f64 pr,.string tg]] w fun e w'=>e = .returned (.int .i64 (if zaz ⟨3,0,0,0,qt,ii,0,⟨#[]⟩⟩ ⟨3,s,ty,li,qt,ii,pr,tg⟩ = true then redR l ii qt else 2))∧Below w.heap.size w w':=by
 have HR:=hide hr
 have HG:=hide hg
 have HSL:=hide hs
 have HNUM:Hid (0 ≤ next∧next ≤ 1000000):=⟨h0,h1⟩
 have HTG:=hide ht
 obtain ⟨a,cap,rfl,hlen,hc⟩:=hr
 clear hc hg hs h0 h1 ht hlen
 generalize hsm:zaz ⟨3,0,0,0,qt,ii,0,⟨#[]⟩⟩ ⟨3,s,ty,li,qt,ii,pr,tg⟩ = sm
 have HSM:=hide hsm
 clear hsm
 have hs1:(w.alloc (Obj.cells #[.int .i64 next,.slice a l.length cap] 46)).heap.size = w.heap.size + 1:=ze _ _
 have hs2:((w.alloc (Obj.cells #[.int .i64 next,.slice a l.length cap] 46)).alloc (Obj.cells #[.int .i64 3,.int .i64 s,.int .i64 ty,.int .i64 li,.int .i64 qt,.int .i64 ii,.float .f64 pr,.string tg] 39)).heap.size = w.heap.size + 1 + 1:=by rw [ze,hs1]
 have r1:=zh w [.int .i64 next,.slice a l.length cap] 46
 have r2:=zh (w.alloc (Obj.cells #[.int .i64 next,.slice a l.length cap] 46)) [.int .i64 3,.int .i64 s,.int .i64 ty,.int .i64 li,.int .i64 qt,.int .i64 ii,.float .f64 pr,.string tg] 39
 rw [hs1] at r2
 have b12:Below (w.heap.size + 1) (w.alloc (Obj.cells #[.int .i64 next,.slice a l.length cap] 46)) ((w.alloc (Obj.cells #[.int .i64 next,.slice a l.length cap] 46)).alloc (Obj.cells #[.int .i64 3,.int .i64 s,.int .i64 ty,.int .i64 li,.int .i64 qt,.int .i64 ii,.float .f64 pr,.string tg] 39)):=(Below.refl _ _).alloc (by rw [hs1]; omega) _
 have HB2:Hid (Below w.heap.size w ((w.alloc (Obj.cells #[.int .i64 next,.slice a l.length cap] 46)).alloc (Obj.cells #[.int .i64 3,.int .i64 s,.int .i64 ty,.int .i64 li,.int .i64 qt,.int .i64 ii,.float .f64 pr,.string tg] 39))):=((Below.refl _ _).alloc (Nat.le_refl _) _).alloc (by rw [hs1]; omega) _
 have HX:Hid (_∧_):=⟨zb r1 b12 (by omega),r2⟩
 have HLT:Hid (w.heap.size < ((w.alloc (Obj.cells #[.int .i64 next,.slice a l.length cap] 46)).alloc (Obj.cells #[.int .i64 3,.int .i64 s,.int .i64 ty,.int .i64 li,.int .i64 qt,.int .i64 ii,.float .f64 pr,.string tg] 39)).heap.size∧w.heap.size + 1 < ((w.alloc (Obj.cells #[.int .i64 next,.slice a l.length cap] 46)).alloc (Obj.cells #[.int .i64 3,.int .i64 s,.int .i64 ty,.int .i64 li,.int .i64 qt,.int .i64 ii,.float .f64 pr,.string tg] 39)).heap.size):=⟨by omega,by omega⟩
 clear hs1 hs2 r1 r2 b12
 go_enter Tryz.func46,Tryz.ntmps46
 refine wp_seq_k fun K hK=>?_
 have HK1:=hide hK
 clear hK
 go_wp2_with fail
 refine za HK1 _ _ ?_
 clear HK1
 generalize ((w.alloc (Obj.cells #[.int .i64 next,.slice a l.length cap] 46)).alloc (Obj.cells #[.int .i64 3,.int .i64 s,.int .i64 ty,.int .i64 li,.int .i64 qt,.int .i64 ii,.float .f64 pr,.string tg] 39)) = X2 at HB2 HX HLT ⊢
 have HX:Hid (X2.rangeAt w.heap.size 0 [.int .i64 next,.slice a l.length cap]∧X2.rangeAt (w.heap.size + 1) 0 [.int .i64 3,.int .i64 s,.int .i64 ty,.int .i64 li,.int .i64 qt,.int .i64 ii,.float .f64 pr,.string tg]):=za HX
 have o0:X2.cell? ⟨w.heap.size + 1,0,none⟩ = some (.int .i64 3):=(za HX).2 0 _ rfl
 have o1:X2.cell? ⟨w.heap.size + 1,1,none⟩ = some (.int .i64 s):=(za HX).2 1 _ rfl
 have o2:X2.cell? ⟨w.heap.size + 1,2,none⟩ = some (.int .i64 ty):=(za HX).2 2 _ rfl
 have o3:X2.cell? ⟨w.heap.size + 1,3,none⟩ = some (.int .i64 li):=(za HX).2 3 _ rfl
 have o4:X2.cell? ⟨w.heap.size + 1,4,none⟩ = some (.int .i64 qt):=(za HX).2 4 _ rfl
 have o5:X2.cell? ⟨w.heap.size + 1,5,none⟩ = some (.int .i64 ii):=(za HX).2 5 _ rfl
 have o6:X2.cell? ⟨w.heap.size + 1,6,none⟩ = some (.float .f64 pr):=(za HX).2 6 _ rfl
 have o7:X2.cell? ⟨w.heap.size + 1,7,none⟩ = some (.string tg):=(za HX).2 7 _ rfl
 go_wp2_with fail
 refine (zag ⟨3,s,ty,li,qt,ii,pr,tg⟩ X2).mono ?_
 have hci:cmdI ⟨3,s,ty,li,qt,ii,pr,tg⟩ = .iface 105 (.agg #[.int .i64 ii,.int .i64 qt]):=by simp [cmdI]
 rw [hci]
 clear hci
 rintro e w4 ⟨rfl,hb4⟩
 have HB4:=hide ((za HB2).trans (hb4.mono (za HB2).size))
 have HX4:Hid (w4.rangeAt w.heap.size 0 [.int .i64 next,.slice a l.length cap]∧w4.rangeAt (w.heap.size + 1) 0 [.int .i64 3,.int .i64 s,.int .i64 ty,.int .i64 li,.int .i64 qt,.int .i64 ii,.float .f64 pr,.string tg]∧w.heap.size < w4.heap.size∧w.heap.size + 1 < w4.heap.size):=⟨zb (za HX).1 hb4 (za HLT).1,zb (za HX).2 hb4 (za HLT).2,Nat.lt_of_lt_of_le (za HLT).1 hb4.size,Nat.lt_of_lt_of_le (za HLT).2 hb4.size⟩
 clear hb4 o0 o1 o2 o3 o4 o5 o6 o7
 go_wp2_with fail
 have hm:∀ W:World,Sem.run Tryz.prog (method 298 105 (.agg #[.int .i64 ii,.int .i64 qt]) "loop.example/g00092/impl.told") W = .ok (139,.agg #[.int .i64 ii,.int .i64 qt]) W:=fun W=>by kernel_rfl
 have HWD:Hid (Below w4.heap.size w4 w4.drew):=(Below.refl _ _).drew
 have HSC:=hide (fun W=>zbH ⟨3,0,0,0,qt,ii,0,⟨#[]⟩⟩ ⟨3,s,ty,li,qt,ii,pr,tg⟩ W)
 rw [za HSM] at HSC
 unfold cmV at HSC
 simp only at HSC
 have HTO:=hide (fun W=>toldReduce_any ii qt W)
 have HSK:Hid (∀ V,Below w4.heap.size w4 V→V.cell? ⟨w.heap.size + 1,0,none⟩ = some (.int .i64 3)∧V.cell? ⟨w.heap.size + 1,1,none⟩ = some (.int .i64 s)∧V.cell? ⟨w.heap.size + 1,2,none⟩ = some (.int .i64 ty)∧V.cell? ⟨w.heap.size + 1,3,none⟩ = some (.int .i64 li)∧V.cell? ⟨w.heap.size + 1,4,none⟩ = some (.int .i64 qt)∧V.cell? ⟨w.heap.size + 1,5,none⟩ = some (.int .i64 ii)∧V.cell? ⟨w.heap.size + 1,6,none⟩ = some (.float .f64 pr)∧V.cell? ⟨w.heap.size + 1,7,none⟩ = some (.string tg)):=fun V hV=>⟨zb (za HX4).2.1 hV (za HX4).2.2.2 0 _ rfl,zb (za HX4).2.1 hV (za HX4).2.2.2 1 _ rfl,zb (za HX4).2.1 hV (za HX4).2.2.2 2 _ rfl,zb (za HX4).2.1 hV (za HX4).2.2.2 3 _ rfl,zb (za HX4).2.1 hV (za HX4).2.2.2 4 _ rfl,zb (za HX4).2.1 hV (za HX4).2.2.2 5 _ rfl,zb (za HX4).2.1 hV (za HX4).2.2.2 6 _ rfl,zb (za HX4).2.1 hV (za HX4).2.2.2 7 _ rfl⟩
 go_region_held3 (fun w'=>w'.cell? ⟨w.heap.size + 1,0,none⟩ = some (.int .i64 3)∧w'.cell? ⟨w.heap.size + 1,1,none⟩ = some (.int .i64 s)∧w'.cell? ⟨w.heap.size + 1,2,none⟩ = some (.int .i64 ty)∧w'.cell? ⟨w.heap.size + 1,3,none⟩ = some (.int .i64 li)∧w'.cell? ⟨w.heap.size + 1,4,none⟩ = some (.int .i64 qt)∧w'.cell? ⟨w.heap.size + 1,5,none⟩ = some (.int .i64 ii)∧w'.cell? ⟨w.heap.size + 1,6,none⟩ = some (.float .f64 pr)∧w'.cell? ⟨w.heap.size + 1,7,none⟩ = some (.string tg)) (first | exact za HSK _ hbel | exact za HSK _ (za HWD) | go_keep) (first | (go_at_call 139; refine (za HTO _).mono ?_; rintro e V5 ⟨rfl,hb5⟩; have hbel:=(za HWD).trans hb5) | (go_at_call 65; refine (za HSC _).mono ?_; rintro e V ⟨rfl,hb6⟩; have hbel:=hbel.trans (hb6.mono hbel.size)))
 have HBV:=hide ((za HB4).trans (hbel.mono (za HB4).size))
 have z0:=zb (za HX4).1 hbel (za HX4).2.2.1 0 _ rfl
 have z1:=zb (za HX4).1 hbel (za HX4).2.2.1 1 _ rfl
 rw [Nat.zero_add] at z0 z1
 have ta1:∀ W:World,Sem.run Tryz.prog (Instr.typeAssert (.iface 105 (.agg #[.int .i64 ii,.int .i64 qt])) 96 99 true) W = .ok (.tuple #[.agg #[.int .i64 0,.int .i64 0,.int .i64 0,.int .i64 0,.float .f64 0,.string ⟨#[]⟩],.bool false]) W:=fun W=>by kernel_rfl
 have ta2:∀ W:World,Sem.run Tryz.prog (Instr.typeAssert (.iface 105 (.agg #[.int .i64 ii,.int .i64 qt])) 96 102 true) W = .ok (.tuple #[.agg #[.int .i64 0],.bool false]) W:=fun W=>by kernel_rfl
 have ta3:∀ W:World,Sem.run Tryz.prog (Instr.typeAssert (.iface 105 (.agg #[.int .i64 ii,.int .i64 qt])) 96 105 true) W = .ok (.tuple #[.agg #[.int .i64 ii,.int .i64 qt],.bool true]) W:=fun W=>by kernel_rfl
 clear hbel HTO HSC hm
 cases sm
 ·go_wp2_with fail
  go_ret
  exact ⟨rfl,za HBV⟩
 ·have hlt:w.heap.size < V.heap.size:=World.block_lt_of_cell? V ⟨w.heap.size,0,none⟩ z0
  have y0:World.cell? (V.alloc (Obj.cells #[.int .i64 ii,.int .i64 qt] 105)) ⟨w.heap.size,0,none⟩ = some (.int .i64 next):=(World.cell?_alloc_lt _ _ _ hlt).trans z0
  have y1:World.cell? (V.alloc (Obj.cells #[.int .i64 ii,.int .i64 qt] 105)) ⟨w.heap.size,1,none⟩ = some (.slice a l.length cap):=(World.cell?_alloc_lt _ _ _ hlt).trans z1
  have HBA:Hid (Below w.heap.size w (V.alloc (Obj.cells #[.int .i64 ii,.int .i64 qt] 105))):=(za HBV).alloc (za HBV).size _
  clear z0 z1 hlt
  go_wp2_with fail
  refine (reduceRefusal_any next _ l ii qt _ (zl (za HR) (za HBA) (Nat.le_refl _))).mono ?_
  rintro e w7 ⟨rfl,hb7⟩
  have HB7:=hide ((za HBA).trans (hb7.mono (za HBA).size))
  clear hb7
  go_wp2_with fail
  go_ret
  exact ⟨rfl,za HB7⟩
set_option maxRecDepth 100000 in
set_option maxHeartbeats 1600000 in
theorem refusal_4 (next:Int) (vb:Value) (l:List Od) (s ty li qt ii:Int) (pr:Nat) (tg:ByteArray) (w:World) (hr:RdR Od.vs 6 w vb l) (hs:SlOk vb) (hg:GoodL l) (h0:0 ≤ next) (h1:next ≤ 1000000) (ht:tg.size ≤ maxLen) :
  Calls Tryz.prog 46 #[.agg #[.int .i64 next,vb],.agg #[.int .i64 4,.int .i64 s,.int .i64 ty,.int .i64 li,.int .i64 qt,.int .i64 ii,.float .f64 pr,.string tg]] w fun e w'=>e = .returned (.int .i64 (if zaz ⟨4,0,0,0,0,0,0,⟨#[]⟩⟩ ⟨4,s,ty,li,qt,ii,pr,tg⟩ = true then 0 else 2))∧Below w.heap.size w w':=by
 have HR:=hide hr
 have HG:=hide hg
 have HSL:=hide hs
 have HNUM:Hid (0 ≤ next∧next ≤ 1000000):=⟨h0,h1⟩
 have HTG:=hide ht
 obtain ⟨a,cap,rfl,hlen,hc⟩:=hr
 clear hc hg hs h0 h1 ht hlen
 generalize hsm:zaz ⟨4,0,0,0,0,0,0,⟨#[]⟩⟩ ⟨4,s,ty,li,qt,ii,pr,tg⟩ = sm
 have HSM:=hide hsm
 clear hsm
 have hs1:(w.alloc (Obj.cells #[.int .i64 next,.slice a l.length cap] 46)).heap.size = w.heap.size + 1:=ze _ _
 have hs2:((w.alloc (Obj.cells #[.int .i64 next,.slice a l.length cap] 46)).alloc (Obj.cells #[.int .i64 4,.int .i64 s,.int .i64 ty,.int .i64 li,.int .i64 qt,.int .i64 ii,.float .f64 pr,.string tg] 39)).heap.size = w.heap.size + 1 + 1:=by rw [ze,hs1]
 have r1:=zh w [.int .i64 next,.slice a l.length cap] 46
 have r2:=zh (w.alloc (Obj.cells #[.int .i64 next,.slice a l.length cap] 46)) [.int .i64 4,.int .i64 s,.int .i64 ty,.int .i64 li,.int .i64 qt,.int .i64 ii,.float .f64 pr,.string tg] 39
 rw [hs1] at r2
 have b12:Below (w.heap.size + 1) (w.alloc (Obj.cells #[.int .i64 next,.slice a l.length cap] 46)) ((w.alloc (Obj.cells #[.int .i64 next,.slice a l.length cap] 46)).alloc (Obj.cells #[.int .i64 4,.int .i64 s,.int .i64 ty,.int .i64 li,.int .i64 qt,.int .i64 ii,.float .f64 pr,.string tg] 39)):=(Below.refl _ _).alloc (by rw [hs1]; omega) _
 have HB2:Hid (Below w.heap.size w ((w.alloc (Obj.cells #[.int .i64 next,.slice a l.length cap] 46)).alloc (Obj.cells #[.int .i64 4,.int .i64 s,.int .i64 ty,.int .i64 li,.int .i64 qt,.int .i64 ii,.float .f64 pr,.string tg] 39))):=((Below.refl _ _).alloc (Nat.le_refl _) _).alloc (by rw [hs1]; omega) _
 have HX:Hid (_∧_):=⟨zb r1 b12 (by omega),r2⟩
 have HLT:Hid (w.heap.size < ((w.alloc (Obj.cells #[.int .i64 next,.slice a l.length cap] 46)).alloc (Obj.cells #[.int .i64 4,.int .i64 s,.int .i64 ty,.int .i64 li,.int .i64 qt,.int .i64 ii,.float .f64 pr,.string tg] 39)).heap.size∧w.heap.size + 1 < ((w.alloc (Obj.cells #[.int .i64 next,.slice a l.length cap] 46)).alloc (Obj.cells #[.int .i64 4,.int .i64 s,.int .i64 ty,.int .i64 li,.int .i64 qt,.int .i64 ii,.float .f64 pr,.string tg] 39)).heap.size):=⟨by omega,by omega⟩
 clear hs1 hs2 r1 r2 b12
 go_enter Tryz.func46,Tryz.ntmps46
 refine wp_seq_k fun K hK=>?_
 have HK1:=hide hK
 clear hK
 go_wp2_with fail
 refine za HK1 _ _ ?_
 clear HK1
 generalize ((w.alloc (Obj.cells #[.int .i64 next,.slice a l.length cap] 46)).alloc (Obj.cells #[.int .i64 4,.int .i64 s,.int .i64 ty,.int .i64 li,.int .i64 qt,.int .i64 ii,.float .f64 pr,.string tg] 39)) = X2 at HB2 HX HLT ⊢
 have HX:Hid (X2.rangeAt w.heap.size 0 [.int .i64 next,.slice a l.length cap]∧X2.rangeAt (w.heap.size + 1) 0 [.int .i64 4,.int .i64 s,.int .i64 ty,.int .i64 li,.int .i64 qt,.int .i64 ii,.float .f64 pr,.string tg]):=za HX
 have o0:X2.cell? ⟨w.heap.size + 1,0,none⟩ = some (.int .i64 4):=(za HX).2 0 _ rfl
 have o1:X2.cell? ⟨w.heap.size + 1,1,none⟩ = some (.int .i64 s):=(za HX).2 1 _ rfl
 have o2:X2.cell? ⟨w.heap.size + 1,2,none⟩ = some (.int .i64 ty):=(za HX).2 2 _ rfl
 have o3:X2.cell? ⟨w.heap.size + 1,3,none⟩ = some (.int .i64 li):=(za HX).2 3 _ rfl
 have o4:X2.cell? ⟨w.heap.size + 1,4,none⟩ = some (.int .i64 qt):=(za HX).2 4 _ rfl
 have o5:X2.cell? ⟨w.heap.size + 1,5,none⟩ = some (.int .i64 ii):=(za HX).2 5 _ rfl
 have o6:X2.cell? ⟨w.heap.size + 1,6,none⟩ = some (.float .f64 pr):=(za HX).2 6 _ rfl
 have o7:X2.cell? ⟨w.heap.size + 1,7,none⟩ = some (.string tg):=(za HX).2 7 _ rfl
 go_wp2_with fail
 refine (zag ⟨4,s,ty,li,qt,ii,pr,tg⟩ X2).mono ?_
 have hci:cmdI ⟨4,s,ty,li,qt,ii,pr,tg⟩ = .iface 108 (.agg #[]):=by simp [cmdI]
 rw [hci]
 clear hci
 rintro e w4 ⟨rfl,hb4⟩
 have HB4:=hide ((za HB2).trans (hb4.mono (za HB2).size))
 have HX4:Hid (w4.rangeAt w.heap.size 0 [.int .i64 next,.slice a l.length cap]∧w4.rangeAt (w.heap.size + 1) 0 [.int .i64 4,.int .i64 s,.int .i64 ty,.int .i64 li,.int .i64 qt,.int .i64 ii,.float .f64 pr,.string tg]∧w.heap.size < w4.heap.size∧w.heap.size + 1 < w4.heap.size):=⟨zb (za HX).1 hb4 (za HLT).1,zb (za HX).2 hb4 (za HLT).2,Nat.lt_of_lt_of_le (za HLT).1 hb4.size,Nat.lt_of_lt_of_le (za HLT).2 hb4.size⟩
 clear hb4 o0 o1 o2 o3 o4 o5 o6 o7
 go_wp2_with fail
 have hm:∀ W:World,Sem.run Tryz.prog (method 298 108 (.agg #[]) "loop.example/g00092/impl.told") W = .ok (140,.agg #[]) W:=fun W=>by kernel_rfl
 have HWD:Hid (Below w4.heap.size w4 w4.drew):=(Below.refl _ _).drew
 have HSC:=hide (fun W=>zbH ⟨4,0,0,0,0,0,0,⟨#[]⟩⟩ ⟨4,s,ty,li,qt,ii,pr,tg⟩ W)
 rw [za HSM] at HSC
 unfold cmV at HSC
 simp only at HSC
 have HTO:=hide (fun W=>toldDay_any W)
 have HSK:Hid (∀ V,Below w4.heap.size w4 V→V.cell? ⟨w.heap.size + 1,0,none⟩ = some (.int .i64 4)∧V.cell? ⟨w.heap.size + 1,1,none⟩ = some (.int .i64 s)∧V.cell? ⟨w.heap.size + 1,2,none⟩ = some (.int .i64 ty)∧V.cell? ⟨w.heap.size + 1,3,none⟩ = some (.int .i64 li)∧V.cell? ⟨w.heap.size + 1,4,none⟩ = some (.int .i64 qt)∧V.cell? ⟨w.heap.size + 1,5,none⟩ = some (.int .i64 ii)∧V.cell? ⟨w.heap.size + 1,6,none⟩ = some (.float .f64 pr)∧V.cell? ⟨w.heap.size + 1,7,none⟩ = some (.string tg)):=fun V hV=>⟨zb (za HX4).2.1 hV (za HX4).2.2.2 0 _ rfl,zb (za HX4).2.1 hV (za HX4).2.2.2 1 _ rfl,zb (za HX4).2.1 hV (za HX4).2.2.2 2 _ rfl,zb (za HX4).2.1 hV (za HX4).2.2.2 3 _ rfl,zb (za HX4).2.1 hV (za HX4).2.2.2 4 _ rfl,zb (za HX4).2.1 hV (za HX4).2.2.2 5 _ rfl,zb (za HX4).2.1 hV (za HX4).2.2.2 6 _ rfl,zb (za HX4).2.1 hV (za HX4).2.2.2 7 _ rfl⟩
 go_region_held3 (fun w'=>w'.cell? ⟨w.heap.size + 1,0,none⟩ = some (.int .i64 4)∧w'.cell? ⟨w.heap.size + 1,1,none⟩ = some (.int .i64 s)∧w'.cell? ⟨w.heap.size + 1,2,none⟩ = some (.int .i64 ty)∧w'.cell? ⟨w.heap.size + 1,3,none⟩ = some (.int .i64 li)∧w'.cell? ⟨w.heap.size + 1,4,none⟩ = some (.int .i64 qt)∧w'.cell? ⟨w.heap.size + 1,5,none⟩ = some (.int .i64 ii)∧w'.cell? ⟨w.heap.size + 1,6,none⟩ = some (.float .f64 pr)∧w'.cell? ⟨w.heap.size + 1,7,none⟩ = some (.string tg)) (first | exact za HSK _ hbel | exact za HSK _ (za HWD) | go_keep) (first | (go_at_call 140; refine (za HTO _).mono ?_; rintro e V5 ⟨rfl,hb5⟩; have hbel:=(za HWD).trans hb5) | (go_at_call 65; refine (za HSC _).mono ?_; rintro e V ⟨rfl,hb6⟩; have hbel:=hbel.trans (hb6.mono hbel.size)))
 have HBV:=hide ((za HB4).trans (hbel.mono (za HB4).size))
 have z0:=zb (za HX4).1 hbel (za HX4).2.2.1 0 _ rfl
 have z1:=zb (za HX4).1 hbel (za HX4).2.2.1 1 _ rfl
 rw [Nat.zero_add] at z0 z1
 have ta1:∀ W:World,Sem.run Tryz.prog (Instr.typeAssert (.iface 108 (.agg #[])) 96 99 true) W = .ok (.tuple #[.agg #[.int .i64 0,.int .i64 0,.int .i64 0,.int .i64 0,.float .f64 0,.string ⟨#[]⟩],.bool false]) W:=fun W=>by kernel_rfl
 have ta2:∀ W:World,Sem.run Tryz.prog (Instr.typeAssert (.iface 108 (.agg #[])) 96 102 true) W = .ok (.tuple #[.agg #[.int .i64 0],.bool false]) W:=fun W=>by kernel_rfl
 have ta3:∀ W:World,Sem.run Tryz.prog (Instr.typeAssert (.iface 108 (.agg #[])) 96 105 true) W = .ok (.tuple #[.agg #[.int .i64 0,.int .i64 0],.bool false]) W:=fun W=>by kernel_rfl
 clear hbel HTO HSC hm
 cases sm
 ·go_wp2_with fail
  go_ret
  exact ⟨rfl,za HBV⟩
 ·go_wp2_with fail
  go_ret
  exact ⟨rfl,za HBV⟩
def refR (next:Int) (l:List Od) (c:Cm):Int :=
 if c.k = 1 then (if zaz ⟨1,c.s,c.t,c.l,c.q,0,c.p,c.g⟩ c = true then newR next l c else 2)
 else if c.k = 2 then (if zaz ⟨2,0,0,0,0,c.i,0,⟨#[]⟩⟩ c = true then idR l c.i else 2)
 else if c.k = 3 then (if zaz ⟨3,0,0,0,c.q,c.i,0,⟨#[]⟩⟩ c = true then redR l c.i c.q else 2)
 else if c.k = 4 then (if zaz ⟨4,0,0,0,0,0,0,⟨#[]⟩⟩ c = true then 0 else 2)
 else 1
set_option maxRecDepth 100000 in
set_option maxHeartbeats 800000 in
theorem refusal_any (next:Int) (vb:Value) (l:List Od) (c:Cm) (w:World) (hr:RdR Od.vs 6 w vb l) (hs:SlOk vb) (hg:GoodL l) (h0:0 ≤ next) (h1:next ≤ 1000000) (ht:c.g.size ≤ maxLen) :
  Calls Tryz.prog 46 #[.agg #[.int .i64 next,vb],cmV c] w fun e w'=>e = .returned (.int .i64 (refR next l c))∧Below w.heap.size w w':=by
 obtain ⟨kk,s,ty,li,qt,ii,pr,tg⟩:=c
 unfold cmV
 simp only at ht ⊢
 by_cases e1:kk = 1
 ·subst e1; exact refusal_1 next vb l s ty li qt ii pr tg w hr hs hg h0 h1 ht
 by_cases e2:kk = 2
 ·subst e2; exact refusal_2 next vb l s ty li qt ii pr tg w hr hs hg h0 h1 ht
 by_cases e3:kk = 3
 ·subst e3; exact refusal_3 next vb l s ty li qt ii pr tg w hr hs hg h0 h1 ht
 by_cases e4:kk = 4
 ·subst e4; exact refusal_4 next vb l s ty li qt ii pr tg w hr hs hg h0 h1 ht
 have HRE:Hid (refR next l ⟨kk,s,ty,li,qt,ii,pr,tg⟩ = 1):=by show _ = _; simp [refR,e1,e2,e3,e4]
 have hci:cmdI ⟨kk,s,ty,li,qt,ii,pr,tg⟩ = .nilIface:=by simp [cmdI,e1,e2,e3,e4]
 obtain ⟨a,cap,rfl,hlen,hc⟩:=hr
 clear hc hg hs h0 h1 ht hlen e1 e2 e3 e4
 have hs1:(w.alloc (Obj.cells #[.int .i64 next,.slice a l.length cap] 46)).heap.size = w.heap.size + 1:=ze _ _
 have hs2:((w.alloc (Obj.cells #[.int .i64 next,.slice a l.length cap] 46)).alloc (Obj.cells #[.int .i64 kk,.int .i64 s,.int .i64 ty,.int .i64 li,.int .i64 qt,.int .i64 ii,.float .f64 pr,.string tg] 39)).heap.size = w.heap.size + 1 + 1:=by rw [ze,hs1]
 have r1:=zh w [.int .i64 next,.slice a l.length cap] 46
 have r2:=zh (w.alloc (Obj.cells #[.int .i64 next,.slice a l.length cap] 46)) [.int .i64 kk,.int .i64 s,.int .i64 ty,.int .i64 li,.int .i64 qt,.int .i64 ii,.float .f64 pr,.string tg] 39
 rw [hs1] at r2
 have b12:Below (w.heap.size + 1) (w.alloc (Obj.cells #[.int .i64 next,.slice a l.length cap] 46)) ((w.alloc (Obj.cells #[.int .i64 next,.slice a l.length cap] 46)).alloc (Obj.cells #[.int .i64 kk,.int .i64 s,.int .i64 ty,.int .i64 li,.int .i64 qt,.int .i64 ii,.float .f64 pr,.string tg] 39)):=(Below.refl _ _).alloc (by rw [hs1]; omega) _
 have HB2:Hid (Below w.heap.size w ((w.alloc (Obj.cells #[.int .i64 next,.slice a l.length cap] 46)).alloc (Obj.cells #[.int .i64 kk,.int .i64 s,.int .i64 ty,.int .i64 li,.int .i64 qt,.int .i64 ii,.float .f64 pr,.string tg] 39))):=((Below.refl _ _).alloc (Nat.le_refl _) _).alloc (by rw [hs1]; omega) _
 have HX:Hid (_∧_):=⟨zb r1 b12 (by omega),r2⟩
 have HLT:Hid (w.heap.size < ((w.alloc (Obj.cells #[.int .i64 next,.slice a l.length cap] 46)).alloc (Obj.cells #[.int .i64 kk,.int .i64 s,.int .i64 ty,.int .i64 li,.int .i64 qt,.int .i64 ii,.float .f64 pr,.string tg] 39)).heap.size∧w.heap.size + 1 < ((w.alloc (Obj.cells #[.int .i64 next,.slice a l.length cap] 46)).alloc (Obj.cells #[.int .i64 kk,.int .i64 s,.int .i64 ty,.int .i64 li,.int .i64 qt,.int .i64 ii,.float .f64 pr,.string tg] 39)).heap.size):=⟨by omega,by omega⟩
 clear hs1 hs2 r1 r2 b12
 go_enter Tryz.func46,Tryz.ntmps46
 refine wp_seq_k fun K hK=>?_
 have HK1:=hide hK
 clear hK
 go_wp2_with fail
 refine za HK1 _ _ ?_
 clear HK1
 generalize ((w.alloc (Obj.cells #[.int .i64 next,.slice a l.length cap] 46)).alloc (Obj.cells #[.int .i64 kk,.int .i64 s,.int .i64 ty,.int .i64 li,.int .i64 qt,.int .i64 ii,.float .f64 pr,.string tg] 39)) = X2 at HB2 HX HLT ⊢
 have HX:Hid (X2.rangeAt w.heap.size 0 [.int .i64 next,.slice a l.length cap]∧X2.rangeAt (w.heap.size + 1) 0 [.int .i64 kk,.int .i64 s,.int .i64 ty,.int .i64 li,.int .i64 qt,.int .i64 ii,.float .f64 pr,.string tg]) :=za HX
 have k0:X2.cell? ⟨w.heap.size,0,none⟩ = some (.int .i64 next):=(za HX).1 0 _ rfl
 have k1:X2.cell? ⟨w.heap.size,1,none⟩ = some (.slice a l.length cap):=(za HX).1 1 _ rfl
 have o0:X2.cell? ⟨w.heap.size + 1,0,none⟩ = some (.int .i64 kk):=(za HX).2 0 _ rfl
 have o1:X2.cell? ⟨w.heap.size + 1,1,none⟩ = some (.int .i64 s):=(za HX).2 1 _ rfl
 have o2:X2.cell? ⟨w.heap.size + 1,2,none⟩ = some (.int .i64 ty):=(za HX).2 2 _ rfl
 have o3:X2.cell? ⟨w.heap.size + 1,3,none⟩ = some (.int .i64 li):=(za HX).2 3 _ rfl
 have o4:X2.cell? ⟨w.heap.size + 1,4,none⟩ = some (.int .i64 qt):=(za HX).2 4 _ rfl
 have o5:X2.cell? ⟨w.heap.size + 1,5,none⟩ = some (.int .i64 ii):=(za HX).2 5 _ rfl
 have o6:X2.cell? ⟨w.heap.size + 1,6,none⟩ = some (.float .f64 pr):=(za HX).2 6 _ rfl
 have o7:X2.cell? ⟨w.heap.size + 1,7,none⟩ = some (.string tg):=(za HX).2 7 _ rfl
 go_wp2_with fail
 refine (zag ⟨kk,s,ty,li,qt,ii,pr,tg⟩ X2).mono ?_
 rw [hci]
 clear hci
 rintro e w4 ⟨rfl,hb4⟩
 have HB4:=hide ((za HB2).trans (hb4.mono (za HB2).size))
 clear hb4
 go_wp2_with fail
 go_ret
 exact ⟨zr (za HRE).symm,za HB4⟩
theorem zc {W:World} {b n j:Nat} (h:W.there b 0 n) (hj:j < n):∃ u,W.cell? ⟨b,j,none⟩ = some u∧W.frozen? ⟨b,j,none⟩ = false:=by
 obtain ⟨h1,h2⟩:=h j hj
 rw [Nat.zero_add] at h1 h2
 obtain ⟨u,hu⟩:=Option.isSome_iff_exists.1 h1
 exact ⟨u,hu,h2⟩
theorem zbP {x:List Bool} {n j:Nat} (hx:x.length = n) (hj:j < n):x[j]? = some false ∨ x[j]? = some true:=by
 rw [List.getElem?_eq_getElem (by omega)]
 cases x[j] <;> simp
end Go.Proofs.YtopjoogdpjaocaaGreat
