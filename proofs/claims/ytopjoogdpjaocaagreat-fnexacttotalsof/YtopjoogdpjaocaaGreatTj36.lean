/-
  Why a command is refused, by the model: proved by walking the functions.
-/
import Derived.Test.YtopjoogdpjaocaaGreatTj35
set_option linter.unusedVariables false
set_option maxHeartbeats 6400000
set_option maxRecDepth 100000
namespace Go.Proofs.YtopjoogdpjaocaaGreat
open Go.RowKit
set_option maxRecDepth 100000 in
set_option maxHeartbeats 6400000 in
theorem zaN (next:Int) (vb:Value) (l:List Od) (c:Cm) (w:World) (hr:RdR Od.vs 6 w vb l) (hs:SlOk vb) (hg:GoodL l) (hsd:∀ x ∈ l,x.side = 1 ∨ x.side = 2) (ht:c.g.size ≤ maxLen) :
  Calls Tryz.prog 33 #[.agg #[.int .i64 next,vb],cmV c] w fun e w'=>e = .returned (.int .i64 (refS next l c))∧Below w.heap.size w w':=by
 have HNW:=hide (fun W hW=>l04New_any next vb l c W hW hs hg hsd ht)
 have HFM:=hide (fun W=>l04Form_any c W)
 have hlen20:=hg.len
 generalize hre:refS next l c = res
 have HRE:=hide hre.symm
 generalize hnr:newR next l c = nr at HNW
 have HNR:=hide hnr
 clear hg hsd ht hre hnr
 obtain ⟨kk,s,ty,li,qt,ii,pr,tg⟩:=c
 unfold cmV at HNW HFM ⊢
 simp only at HNW HFM ⊢
 have HR:=hide hr
 have HSL:=hide hs
 obtain ⟨a,cap,rfl,hlen,hc⟩:=hr
 have hcell:∀ (k:Nat) (c:Od),l[k]? = some c→∃ b off,a = some ⟨b,off,none⟩∧b < w.heap.size∧w.rangeAt b (off + k * 6) c.vs:=by
  intro k c hk
  obtain ⟨b,off,h1,h2,h3⟩:=hc (by intro h; rw [h] at hk; simp at hk)
  exact ⟨b,off,h1,h2,h3 k c hk⟩
 have HC:=hide hcell
 clear hcell hc hlen hs
 have hs1:(w.alloc (Obj.cells #[.int .i64 next,.slice a l.length cap] 46)).heap.size = w.heap.size + 1:=ze _ _
 have hs2:((w.alloc (Obj.cells #[.int .i64 next,.slice a l.length cap] 46)).alloc (Obj.cells #[.int .i64 kk,.int .i64 s,.int .i64 ty,.int .i64 li,.int .i64 qt,.int .i64 ii,.float .f64 pr,.string tg] 39)).heap.size = w.heap.size + 1 + 1:=by rw [ze,hs1]
 have r1:=zh w [.int .i64 next,.slice a l.length cap] 46
 have r2:=zh (w.alloc (Obj.cells #[.int .i64 next,.slice a l.length cap] 46)) [.int .i64 kk,.int .i64 s,.int .i64 ty,.int .i64 li,.int .i64 qt,.int .i64 ii,.float .f64 pr,.string tg] 39
 rw [hs1] at r2
 have b12:Below (w.heap.size + 1) (w.alloc (Obj.cells #[.int .i64 next,.slice a l.length cap] 46)) ((w.alloc (Obj.cells #[.int .i64 next,.slice a l.length cap] 46)).alloc (Obj.cells #[.int .i64 kk,.int .i64 s,.int .i64 ty,.int .i64 li,.int .i64 qt,.int .i64 ii,.float .f64 pr,.string tg] 39)):=(Below.refl _ _).alloc (by rw [hs1]; omega) _
 have HB2:Hid (Below w.heap.size w ((w.alloc (Obj.cells #[.int .i64 next,.slice a l.length cap] 46)).alloc (Obj.cells #[.int .i64 kk,.int .i64 s,.int .i64 ty,.int .i64 li,.int .i64 qt,.int .i64 ii,.float .f64 pr,.string tg] 39))):=((Below.refl _ _).alloc (Nat.le_refl _) _).alloc (by rw [hs1]; omega) _
 have HX:Hid (_∧_):=⟨zb r1 b12 (by omega),r2⟩
 have HLT:Hid (w.heap.size + 1 < ((w.alloc (Obj.cells #[.int .i64 next,.slice a l.length cap] 46)).alloc (Obj.cells #[.int .i64 kk,.int .i64 s,.int .i64 ty,.int .i64 li,.int .i64 qt,.int .i64 ii,.float .f64 pr,.string tg] 39)).heap.size):=by show _ < _; omega
 clear hs1 hs2 r1 r2 b12
 go_enter Tryz.func33,Tryz.ntmps33
 refine wp_seq_k fun K hK=>?_
 have HK1:=hide hK
 clear hK
 go_wp2_with fail
 refine za HK1 _ _ ?_
 clear HK1
 generalize ((w.alloc (Obj.cells #[.int .i64 next,.slice a l.length cap] 46)).alloc (Obj.cells #[.int .i64 kk,.int .i64 s,.int .i64 ty,.int .i64 li,.int .i64 qt,.int .i64 ii,.float .f64 pr,.string tg] 39)) = X2 at HB2 HX HLT ⊢
 have HX:Hid (X2.rangeAt w.heap.size 0 [.int .i64 next,.slice a l.length cap]∧X2.rangeAt (w.heap.size + 1) 0 [.int .i64 kk,.int .i64 s,.int .i64 ty,.int .i64 li,.int .i64 qt,.int .i64 ii,.float .f64 pr,.string tg]):=za HX
 have k0:X2.cell? ⟨w.heap.size,0,none⟩ = some (.int .i64 next):=(za HX).1 0 _ rfl
 have k1:X2.cell? ⟨w.heap.size,1,none⟩ = some (.slice a l.length cap):=(za HX).1 1 _ rfl
 have o0:X2.cell? ⟨w.heap.size + 1,0,none⟩ = some (.int .i64 kk):=(za HX).2 0 _ rfl
 have o1:X2.cell? ⟨w.heap.size + 1,1,none⟩ = some (.int .i64 s):=(za HX).2 1 _ rfl
 have o2:X2.cell? ⟨w.heap.size + 1,2,none⟩ = some (.int .i64 ty):=(za HX).2 2 _ rfl
 have o3:X2.cell? ⟨w.heap.size + 1,3,none⟩ = some (.int .i64 li):=(za HX).2 3 _ rfl
 have o4:X2.cell? ⟨w.heap.size + 1,4,none⟩ = some (.int .i64 qt):=(za HX).2 4 _ rfl
 have o5:X2.cell? ⟨w.heap.size + 1,5,none⟩ = some (.int .i64 ii):=(za HX).2 5 _ rfl
 have o6:X2.cell? ⟨w.heap.size + 1,6,none⟩ = some (.float .f64 pr):=(za HX).2 6 _ rfl
 have o7:X2.cell? ⟨w.heap.size + 1,7,none⟩ = some (.string tg):=(za HX).2 7 _ rfl
 cases bk:betB kk 1 4
 ·have HK:Hid (res = 1):=(za HRE).trans (by simp [refS,bk])
  go_wp2_with (first | (go_at_call 56; refine (zbk _ _ _ _).mono ?_; rintro e w' ⟨rfl,hw'⟩; rw [hw']; clear hw' w'))
  go_ret
  exact ⟨zr (za HK).symm,za HB2⟩
 go_wp2_with (first | (go_at_call 56; refine (zbk _ _ _ _).mono ?_; rintro e w' ⟨rfl,hw'⟩; rw [hw']; clear hw' w'))
 refine (za HFM _).mono ?_
 cases bf:zaT ⟨kk,s,ty,li,qt,ii,pr,tg⟩
 ·rintro e w3 ⟨rfl,hb3⟩
  have HB3:=hide ((za HB2).trans (hb3.mono (za HB2).size))
  have HK:Hid (res = 2):=(za HRE).trans (by simp [refS,bk,bf])
  clear hb3 bf bk
  go_wp2_with fail
  go_ret
  exact ⟨zr (za HK).symm,za HB3⟩
 rintro e w3 ⟨rfl,hb3⟩
 have HB3:=hide ((za HB2).trans (hb3.mono (za HB2).size))
 have HX3:Hid (w3.rangeAt w.heap.size 0 [.int .i64 next,.slice a l.length cap]∧w3.rangeAt (w.heap.size + 1) 0 [.int .i64 kk,.int .i64 s,.int .i64 ty,.int .i64 li,.int .i64 qt,.int .i64 ii,.float .f64 pr,.string tg]):=⟨zb (za HX).1 hb3 (by have:=za HLT; omega),zb (za HX).2 hb3 (za HLT)⟩
 have hl3:w.heap.size + 1 < w3.heap.size:=Nat.lt_of_lt_of_le (za HLT) hb3.size
 clear hb3 HX HB2 HLT
 clear k0 k1 o0 o1 o2 o3 o4 o5 o6 o7
 have k0:w3.cell? ⟨w.heap.size,0,none⟩ = some (.int .i64 next):=(za HX3).1 0 _ rfl
 have k1:w3.cell? ⟨w.heap.size,1,none⟩ = some (.slice a l.length cap):=(za HX3).1 1 _ rfl
 have o0:w3.cell? ⟨w.heap.size + 1,0,none⟩ = some (.int .i64 kk):=(za HX3).2 0 _ rfl
 have o1:w3.cell? ⟨w.heap.size + 1,1,none⟩ = some (.int .i64 s):=(za HX3).2 1 _ rfl
 have o2:w3.cell? ⟨w.heap.size + 1,2,none⟩ = some (.int .i64 ty):=(za HX3).2 2 _ rfl
 have o3:w3.cell? ⟨w.heap.size + 1,3,none⟩ = some (.int .i64 li):=(za HX3).2 3 _ rfl
 have o4:w3.cell? ⟨w.heap.size + 1,4,none⟩ = some (.int .i64 qt):=(za HX3).2 4 _ rfl
 have o5:w3.cell? ⟨w.heap.size + 1,5,none⟩ = some (.int .i64 ii):=(za HX3).2 5 _ rfl
 have o6:w3.cell? ⟨w.heap.size + 1,6,none⟩ = some (.float .f64 pr):=(za HX3).2 6 _ rfl
 have o7:w3.cell? ⟨w.heap.size + 1,7,none⟩ = some (.string tg):=(za HX3).2 7 _ rfl
 by_cases h1:kk = 1
 ·subst h1
  have HK:Hid (res = nr):=(za HRE).trans (by rw [← za HNR]; simp [refS,bk,bf])
  clear bk bf HRE HNR
  go_wp2_with fail
  refine (za HNW w3 (zl (za HR) (za HB3) (Nat.le_refl _))).mono ?_
  rintro e w4 ⟨rfl,hb4⟩
  have HB4:=hide ((za HB3).trans (hb4.mono (za HB3).size))
  clear hb4
  go_wp2_with fail
  go_ret
  exact ⟨zr (za HK).symm,za HB4⟩
 by_cases h4:kk = 4
 ·subst h4
  have HK:Hid (res = 0):=(za HRE).trans (by simp [refS,bk,bf])
  clear bk bf HRE HNR
  go_wp2_with fail
  go_ret
  exact ⟨zr (za HK).symm,za HB3⟩
 have b1:(kk == 1) = false:=by rw [beq_eq_false_iff_ne]; exact h1
 have b4:(kk == 4) = false:=by rw [beq_eq_false_iff_ne]; exact h4
 by_cases h3:kk = 3
 ·subst h3
  cases bq:betB qt 1 1000000
  ·have HK:Hid (res = 7):=(za HRE).trans (by simp [refS,bk,bf,bq])
   clear bk bf HRE HNR
   go_wp2_with (first | (go_at_call 56; refine (zbk _ _ _ _).mono ?_; rintro e w' ⟨rfl,hw'⟩; rw [hw']; clear hw' w'))
   go_ret
   exact ⟨zr (za HK).symm,za HB3⟩
  have HRF:Hid (res = if plc l ii < 0 then 9 else match l[(plc l ii).toNat]? with | some o=>if o.left ≤ qt then 10 else 0 | none=>0):=(za HRE).trans (by simp [refS,bk,bf,bq]; cases l[(plc l ii).toNat]? <;> rfl)
  clear bk bf HRE HNR h1 h4
  go_wp2_with (first | (go_at_call 56; refine (zbk _ _ _ _).mono ?_; rintro e w' ⟨rfl,hw'⟩; rw [hw']; clear hw' w'))
  refine (zaU _ l ii w3 (zl (za HR) (za HB3) (Nat.le_refl _))).mono ?_
  rintro e w4 ⟨rfl,hb4⟩
  have HB4:=hide ((za HB3).trans (hb4.mono (za HB3).size))
  have HX4:Hid (w4.rangeAt w.heap.size 0 [.int .i64 next,.slice a l.length cap]∧w4.rangeAt (w.heap.size + 1) 0 [.int .i64 3,.int .i64 s,.int .i64 ty,.int .i64 li,.int .i64 qt,.int .i64 ii,.float .f64 pr,.string tg]):=⟨zb (za HX3).1 hb4 (by omega),zb (za HX3).2 hb4 hl3⟩
  clear hb4
  clear k0 k1 o0 o1 o2 o3 o4 o5 o6 o7
  have k0:w4.cell? ⟨w.heap.size,0,none⟩ = some (.int .i64 next):=(za HX4).1 0 _ rfl
  have k1:w4.cell? ⟨w.heap.size,1,none⟩ = some (.slice a l.length cap):=(za HX4).1 1 _ rfl
  have o0:w4.cell? ⟨w.heap.size + 1,0,none⟩ = some (.int .i64 3):=(za HX4).2 0 _ rfl
  have o1:w4.cell? ⟨w.heap.size + 1,1,none⟩ = some (.int .i64 s):=(za HX4).2 1 _ rfl
  have o2:w4.cell? ⟨w.heap.size + 1,2,none⟩ = some (.int .i64 ty):=(za HX4).2 2 _ rfl
  have o3:w4.cell? ⟨w.heap.size + 1,3,none⟩ = some (.int .i64 li):=(za HX4).2 3 _ rfl
  have o4:w4.cell? ⟨w.heap.size + 1,4,none⟩ = some (.int .i64 qt):=(za HX4).2 4 _ rfl
  have o5:w4.cell? ⟨w.heap.size + 1,5,none⟩ = some (.int .i64 ii):=(za HX4).2 5 _ rfl
  have o6:w4.cell? ⟨w.heap.size + 1,6,none⟩ = some (.float .f64 pr):=(za HX4).2 6 _ rfl
  have o7:w4.cell? ⟨w.heap.size + 1,7,none⟩ = some (.string tg):=(za HX4).2 7 _ rfl
  rcases zbU l ii with e | ⟨k,o,e,ho⟩
  ·have HK:Hid (res = 9):=(za HRF).trans (by rw [e]; rfl)
   rw [e]
   clear e
   go_wp2_with fail
   go_ret
   exact ⟨zr (za HK).symm,za HB4⟩
  ·have HRF:Hid (res = if o.left ≤ qt then 10 else 0):=(za HRF).trans (by rw [e,if_neg (by omega)]; simp [ho])
   obtain ⟨b,off,rfl,hb,hcl⟩:=za HC k o ho
   have hkl:=(List.getElem?_eq_some_iff.1 ho).1
   have c3:w4.cell? ⟨b,off + k * 6 + 3,none⟩ = some (.int .i64 o.left):=zb hcl (za HB4) hb 3 _ rfl
   have hk':(k:Int) < l.length:=by omega
   have hk0:(0:Int) ≤ k:=by omega
   have hkn:¬ (k:Int) < 0:=by omega
   rw [e]
   clear e ho hcl hb hkl
   by_cases hq:o.left ≤ qt
   ·have HK:Hid (res = 10):=(za HRF).trans (if_pos hq)
    have hq':decide (o.left ≤ qt) = true:=by simpa using hq
    go_wp2_with fail
    go_quiet (fail)
    go_wp2_with fail
    go_ret
    exact ⟨zr (za HK).symm,zai (za HB4) _⟩
   ·have HK:Hid (res = 0):=(za HRF).trans (if_neg hq)
    have hq':decide (o.left ≤ qt) = false:=by simpa using hq
    go_wp2_with fail
    go_quiet (fail)
    go_wp2_with fail
    go_ret
    exact ⟨zr (za HK).symm,zai (za HB4) _⟩
 ·have b3:(kk == 3) = false:=by rw [beq_eq_false_iff_ne]; exact h3
  have HRF:Hid (res = if plc l ii < 0 then 9 else 0):=(za HRE).trans (by
   have hx:¬ (kk = 3∧betB qt 1 1000000 = false):=fun h=>h3 h.1
   have hy:∀ o:Od,¬ (kk = 3∧o.left ≤ qt):=fun o h=>h3 h.1
   simp only [refS]
   rw [if_neg (by rw [bk]; simp),if_neg (by rw [bf]; simp),if_neg h1,if_neg h4,if_neg hx]
   by_cases hp:plc l ii < 0
   ·rw [if_pos hp,if_pos hp]
   ·rw [if_neg hp,if_neg hp]
    cases l[(plc l ii).toNat]? with
    | none=>rfl
    | some o=>exact if_neg (hy o))
  clear bk bf HRE HNR h1 h4 h3
  go_wp2_with fail
  refine (zaU _ l ii w3 (zl (za HR) (za HB3) (Nat.le_refl _))).mono ?_
  rintro e w4 ⟨rfl,hb4⟩
  have HB4:=hide ((za HB3).trans (hb4.mono (za HB3).size))
  have HX4:Hid (w4.rangeAt w.heap.size 0 [.int .i64 next,.slice a l.length cap]∧w4.rangeAt (w.heap.size + 1) 0 [.int .i64 kk,.int .i64 s,.int .i64 ty,.int .i64 li,.int .i64 qt,.int .i64 ii,.float .f64 pr,.string tg]):=⟨zb (za HX3).1 hb4 (by omega),zb (za HX3).2 hb4 hl3⟩
  clear hb4
  clear k0 k1 o0 o1 o2 o3 o4 o5 o6 o7
  have k0:w4.cell? ⟨w.heap.size,0,none⟩ = some (.int .i64 next):=(za HX4).1 0 _ rfl
  have k1:w4.cell? ⟨w.heap.size,1,none⟩ = some (.slice a l.length cap):=(za HX4).1 1 _ rfl
  have o0:w4.cell? ⟨w.heap.size + 1,0,none⟩ = some (.int .i64 kk):=(za HX4).2 0 _ rfl
  have o1:w4.cell? ⟨w.heap.size + 1,1,none⟩ = some (.int .i64 s):=(za HX4).2 1 _ rfl
  have o2:w4.cell? ⟨w.heap.size + 1,2,none⟩ = some (.int .i64 ty):=(za HX4).2 2 _ rfl
  have o3:w4.cell? ⟨w.heap.size + 1,3,none⟩ = some (.int .i64 li):=(za HX4).2 3 _ rfl
  have o4:w4.cell? ⟨w.heap.size + 1,4,none⟩ = some (.int .i64 qt):=(za HX4).2 4 _ rfl
  have o5:w4.cell? ⟨w.heap.size + 1,5,none⟩ = some (.int .i64 ii):=(za HX4).2 5 _ rfl
  have o6:w4.cell? ⟨w.heap.size + 1,6,none⟩ = some (.float .f64 pr):=(za HX4).2 6 _ rfl
  have o7:w4.cell? ⟨w.heap.size + 1,7,none⟩ = some (.string tg):=(za HX4).2 7 _ rfl
  by_cases hp:plc l ii < 0
  ·have HK:Hid (res = 9):=(za HRF).trans (if_pos hp)
   go_wp2_with fail
   go_ret
   exact ⟨zr (za HK).symm,za HB4⟩
  ·have HK:Hid (res = 0):=(za HRF).trans (if_neg hp)
   have hp':decide (plc l ii < 0) = false:=by simpa using hp
   go_wp2_with fail
   go_quiet (fail)
   go_wp2_with fail
   go_ret
   exact ⟨zr (za HK).symm,zai (za HB4) _⟩
def C7o (b off n cap i:Nat):Nat→Value→Prop
 | 1,v=>v = .slice (some ⟨b,off,none⟩) n cap
 | 2,v=>v = .int .i64 i
 | 3,v=>v = .slice (some ⟨b,off,none⟩) i cap
 | 5,v=>v = .slice (some ⟨b,off,none⟩) n cap
 | 6,v=>v = .int .i64 i
 | 7,v=>v = .int .i64 ((i:Int) + 1)
 | 8,v=>∃ ad c,v = .slice (some ad) (n - (i + 1)) c∧(i + 1 < n→ad = ⟨b,off + (i + 1) * 6,none⟩)
 | _,_=>True
set_option maxRecDepth 100000 in
set_option maxHeartbeats 1600000 in
theorem l04Drop_any (b off cap:Nat) (l:List Od) (i:Nat) (w:World) (hc:∀ j c,l[j]? = some c→w.rangeAt b (off + j * 6) c.vs) (hb:b < w.heap.size) (hil:i < l.length) (hcap:l.length ≤ cap) (hn:l.length ≤ 1000) :
  Calls Tryz.prog 36 #[.slice (some ⟨b,off,none⟩) l.length cap,.int .i64 i] w fun e w'=>∃ v',e = .returned v'∧ORow w' w.heap.size v' (l.take i ++ l.drop (i + 1))∧Below w.heap.size w w':=by
 obtain ⟨i0,hi0,hz0,hz1,hz2⟩:=info_parts Tryz.infoOrder
 have HC:=hide hc
 clear hc
 have hicp:i ≤ cap:=by omega
 have hi1:i + 1 ≤ l.length:=by omega
 have hi1':(i:Int) + 1 ≤ l.length:=by omega
 have hi':(i:Int) < l.length:=by omega
 have hige:(0:Int) ≤ i:=by omega
 have hlcp:(l.length:Int) ≤ cap:=by omega
 have h0i:(0:Int) ≤ (i:Int) + 1:=by omega
 go_enter Tryz.func36,Tryz.ntmps36
 go_wp2_with fail
 refine zay (R7A (.slice none 0 0) w (C7o b off l.length cap i) (l.take i) (l.take i ++ l.drop (i + 1)) (fun f=>{ tmps:=#[.slice (some ⟨b,off,none⟩) l.length cap,.int .i64 i,undef,undef,f 10,f 0,f 1,f 2,f 3,f 4,f 5,f 6,f 7,f 8,f 9],defers:=[] })) (by kernel_rfl) ?_ ?_ ?_
 ·exact ⟨fun j=>if j = 10 then .slice none 0 0 else undef,rfl,⟨⟨rfl,rfl,rfl,Nat.le_refl _,fun _ _=>rfl⟩,fun j hj=>by rw [List.getElem?_replicate] at hj; split at hj <;> simp at hj,fun _=>rfl,by simp,by simp,by simp,by simp,by simp,by simp,by simp⟩⟩
 ·rintro x A V ⟨f,rfl,hR⟩ hx hrd
  have hallx:=zab hrd hx (acyc _ (by kernel_rfl))
  have k9:x[9]? = some true:=hallx 9 (by simp)
  have k10:x[10]? = some true:=hallx 10 (by simp)
  have HO9:=hide (hR.m9 k9)
  have e10:f 10 = f 9:=hR.m10 k10
  have HBV:=hide hR.bel
  simp only [e10]
  generalize f 9 = v9 at HO9 ⊢
  clear hR hallx k9 k10 e10 hrd hx
  go_wp2_with fail
  go_ret
  exact ⟨_,rfl,za HO9,za HBV⟩
 ·rintro x A V i' o' ⟨f,rfl,hR⟩ hx ho hxi hall
  have HR7:=hide hR
  match i',ho with
  | 0,ho =>
   obtain rfl:=Option.some.inj ho
   clear hR hall
   rw [if_pos (by rfl)]
   unfold Oper.wp
   go_simp
   exact ⟨upd f 0 (.slice (some ⟨V.heap.size,0,none⟩) 0 0),by simp [upd],r7_0 (za HR7) hxi (fun _=>trivial)⟩
  | 1,ho =>
   obtain rfl:=Option.some.inj ho
   clear hR hall
   rw [if_pos (by rfl)]
   unfold Oper.wp
   go_simp
   exact ⟨upd f 1 (.slice (some ⟨b,off,none⟩) l.length cap),by simp [upd],zbd (za HR7) 1 _ rfl (by decide) (by decide) (by decide) (by decide)⟩
  | 2,ho =>
   obtain rfl:=Option.some.inj ho
   clear hR hall
   rw [if_pos (by rfl)]
   unfold Oper.wp
   go_simp
   exact ⟨upd f 2 (.int .i64 i),by simp [upd],zbd (za HR7) 2 _ rfl (by decide) (by decide) (by decide) (by decide)⟩
  | 3,ho =>
   obtain rfl:=Option.some.inj ho
   have g1:C7o b off l.length cap i 1 (f 1):=hR.c 1 (hall ⟨1,.data⟩ (by simp) rfl)
   have g2:C7o b off l.length cap i 2 (f 2):=hR.c 2 (hall ⟨2,.data⟩ (by simp) rfl)
   simp only [C7o] at g1 g2
   clear hR hall
   rw [if_pos (by rfl)]
   unfold Oper.wp
   go_simp
   exact ⟨upd f 3 (.slice (some ⟨b,off,none⟩) i cap),by simp [upd,g1,g2],zbd (za HR7) 3 _ rfl (by decide) (by decide) (by decide) (by decide)⟩
  | 4,ho =>
   obtain rfl:=Option.some.inj ho
   have g3:C7o b off l.length cap i 3 (f 3):=hR.c 3 (hall ⟨3,.data⟩ (by simp) rfl)
   have k0:x[0]? = some true:=hall ⟨0,.data⟩ (by simp) rfl
   have HCV:Hid (∀ j c,l[j]? = some c→V.rangeAt b (off + j * 6) c.vs):=fun j c hj=>zb (za HC j c hj) hR.bel hb
   simp only [C7o] at g3
   clear hR hall
   rw [if_pos (by rfl)]
   refine wp_append_own V (.tmp 5) (.tmp 8) 44 rfl w.heap.size 78 i0 _ 6 56 Tryz.underlying44 hi0 hz0 hz1 hz2 rfl (by decide) (f 0) 0 [] rfl ((za HR7).m0 k0 hxi) ⟨b,off,none⟩ i cap ((l.take i).flatMap Od.vs) g3 (by rw [zJ Od.len,List.length_take]; congr 1; omega) (by simpa using zbq (W:=V) (g:=b) (off:=off) (l:=l) (za HCV) 0 i) (zaF _) (by unfold maxLen; omega) (by omega) (za HR7).bel.size ?_
   intro v' w' hown hgr _
   refine ⟨upd f 4 v',rfl,r7_4 (za HR7) k0 hxi (fun _=>trivial) ?_ hgr⟩
   have hlen:(l.take i).length = 0 + i:=by rw [List.length_take]; omega
   show w'.ownsRow _ _ _ _ (l.take i).length _
   rw [hlen]; simpa using hown
  | 5,ho =>
   obtain rfl:=Option.some.inj ho
   clear hR hall
   rw [if_pos (by rfl)]
   unfold Oper.wp
   go_simp
   exact ⟨upd f 5 (.slice (some ⟨b,off,none⟩) l.length cap),by simp [upd],zbd (za HR7) 5 _ rfl (by decide) (by decide) (by decide) (by decide)⟩
  | 6,ho =>
   obtain rfl:=Option.some.inj ho
   clear hR hall
   rw [if_pos (by rfl)]
   unfold Oper.wp
   go_simp
   exact ⟨upd f 6 (.int .i64 i),by simp [upd],zbd (za HR7) 6 _ rfl (by decide) (by decide) (by decide) (by decide)⟩
  | 7,ho =>
   obtain rfl:=Option.some.inj ho
   have g6:C7o b off l.length cap i 6 (f 6):=hR.c 6 (hall ⟨6,.data⟩ (by simp) rfl)
   simp only [C7o] at g6
   have hwr:IntKind.i64.wrap ((i:Int) + 1) = (i:Int) + 1:=by rw [IntKind.wrap_i64]; omega
   clear hR hall
   rw [if_pos (by rfl)]
   unfold Oper.wp
   go_simp
   exact ⟨upd f 7 (.int .i64 ((i:Int) + 1)),by simp [upd,g6],zbd (za HR7) 7 _ rfl (by decide) (by decide) (by decide) (by decide)⟩
  | 8,ho =>
   obtain rfl:=Option.some.inj ho
   have g5:C7o b off l.length cap i 5 (f 5):=hR.c 5 (hall ⟨5,.data⟩ (by simp) rfl)
   have g7:C7o b off l.length cap i 7 (f 7):=hR.c 7 (hall ⟨7,.data⟩ (by simp) rfl)
   simp only [C7o] at g5 g7
   clear hR hall
   by_cases hcp:cap = i + 1
   ·subst hcp
    rw [if_pos (by rfl)]
    unfold Oper.wp
    go_simp
    exact ⟨upd f 8 (.slice (some ⟨b,off,none⟩) (l.length - (i + 1)) 0),by simp [upd,g5,g7]; omega,zbd (za HR7) 8 _ ⟨_,_,rfl,fun h=>by omega⟩ (by decide) (by decide) (by decide) (by decide)⟩
   ·rw [if_pos (by rfl)]
    unfold Oper.wp
    go_simp
    exact ⟨upd f 8 (.slice (some ⟨b,off + (i + 1) * 6,none⟩) (l.length - (i + 1)) (cap - (i + 1))),by simp [upd,g5,g7],zbd (za HR7) 8 _ ⟨_,_,rfl,fun h=>rfl⟩ (by decide) (by decide) (by decide) (by decide)⟩
  | 9,ho =>
   obtain rfl:=Option.some.inj ho
   have g8:C7o b off l.length cap i 8 (f 8):=hR.c 8 (hall ⟨8,.data⟩ (by simp) rfl)
   have k4:x[4]? = some true:=hall ⟨4,.data⟩ (by simp) rfl
   have HCV:Hid (∀ j c,l[j]? = some c→V.rangeAt b (off + j * 6) c.vs):=fun j c hj=>zb (za HC j c hj) hR.bel hb
   obtain ⟨ad8,c8,g8,had⟩:=g8
   clear hR hall
   have hsrc8:∀ j u,((l.drop (i + 1)).flatMap Od.vs)[j]? = some u→V.cell? (ad8.add j) = some u:=by
    intro j u hu
    by_cases hlt:i + 1 < l.length
    ·rw [had hlt]
     have:=zbq (W:=V) (g:=b) (off:=off) (l:=l) (za HCV) (i + 1) (l.length - (i + 1)) j u (by rw [List.take_of_length_le (by simp)]; exact hu)
     simpa using this
    ·rw [List.drop_of_length_le (by omega)] at hu; simp at hu
   rw [if_pos (by rfl)]
   refine wp_append_own V (.tmp 9) (.tmp 13) 44 rfl w.heap.size 78 i0 _ 6 56 Tryz.underlying44 hi0 hz0 hz1 hz2 rfl (by decide) (f 4) (l.take i).length ((l.take i).flatMap Od.vs) rfl ((za HR7).m4 k4 hxi) ad8 (l.length - (i + 1)) c8 ((l.drop (i + 1)).flatMap Od.vs) g8 (by rw [zJ Od.len,List.length_drop]) hsrc8 (zaF _) (by unfold maxLen; rw [List.length_take]; omega) (by rw [List.length_take]; omega) (za HR7).bel.size ?_
   intro v' w' hown hgr _
   refine ⟨upd f 9 v',rfl,r7_9 (za HR7) k4 hxi (fun _=>trivial) ?_ hgr⟩
   show w'.ownsRow _ _ _ _ (l.take i ++ l.drop (i + 1)).length _
   rw [List.length_append,List.length_drop,List.flatMap_append]
   exact hown
  | 10,ho =>
   obtain rfl:=Option.some.inj ho
   have hA:∀ j,j < 10→x[j]? = some true:=fun j hj=>hall ⟨j,.phase⟩ (by
    match j,hj with
    | 0,_=>simp
    | 1,_=>simp
    | 2,_=>simp
    | 3,_=>simp
    | 4,_=>simp
    | 5,_=>simp
    | 6,_=>simp
    | 7,_=>simp
    | 8,_=>simp
    | 9,_=>simp
    | n + 10,h=>omega) rfl
   clear hR hall
   rw [if_pos (by rfl)]
   unfold Oper.wp
   go_simp
   exact ⟨upd f 10 (f 9),by simp [upd],r7_10 (za HR7) hA hxi (fun _=>trivial)⟩
  | n + 11,ho=>simp at ho
theorem infoIn:(Tryz.prog.info? 3).map (fun i=>(i.zero,i.size,i.bytes)) = some (some (.int .i64 0),1,8):=by kernel_rfl
def dysF:List Od→Nat→List Nat
 | [],_=>[]
 | o :: r,k=>if o.life = 1 then k :: dysF r (k + 1) else dysF r (k + 1)
def dys (l:List Od):List Nat:=dysF l 0
def nval (k:Nat):Value:=.int .i64 k
abbrev IRow (W:World) (B:Nat) (v:Value) (l:List Nat):Prop:=W.ownsRow B 3 1 v l.length (l.map nval)
theorem drop_getD {l:List Od} {k:Nat} {c:Od} (h:l[k]? = some c):l.drop k = c :: l.drop (k + 1):=by
 obtain ⟨h1,rfl⟩:=List.getElem?_eq_some_iff.1 h
 exact List.drop_eq_getElem_cons h1
set_option maxRecDepth 100000 in
set_option maxHeartbeats 1600000 in
theorem l04Days_any (v:Value) (l:List Od) (w:World) (hr:RdR Od.vs 6 w v l) (hn:l.length ≤ 1000) :
  Calls Tryz.prog 37 #[v] w fun e w'=>∃ v',e = .returned v'∧IRow w' w.heap.size v' (dys l)∧Below w.heap.size w w':=by
 obtain ⟨a,cap,rfl,hlen,hc⟩:=hr
 obtain ⟨i0,hi0,hz0,hz1,hz2⟩:=info_parts infoIn
 have hcell:∀ (k:Nat) (c:Od),l[k]? = some c→∃ b off,a = some ⟨b,off,none⟩∧b < w.heap.size∧w.rangeAt b (off + k * 6) c.vs:=by
  intro k c hk
  obtain ⟨b,off,h1,h2,h3⟩:=hc (by intro h; rw [h] at hk; simp at hk)
  exact ⟨b,off,h1,h2,h3 k c hk⟩
 have HC:=hide hcell
 clear hcell hc
 have HO0:=hide (World.ownsRow_made (base:=w.heap.size) (e:=3) (size:=1) w #[] 0 (Nat.le_refl _) (by decide) rfl)
 have HB0:Hid (Below w.heap.size w (w.alloc (Obj.cells #[] 3))):=(Below.refl _ _).alloc (Nat.le_refl _) _
 go_enter Tryz.func37,Tryz.ntmps37
 go_wp2_with fail
 go_loopw [3,4] (fun ov iv wr=>∃ (k:Nat) (out:List Nat),k ≤ l.length∧iv = .int .i64 k∧Hid (dys l = out ++ dysF (l.drop k) k)∧out.length ≤ k∧IRow wr w.heap.size ov out∧Below w.heap.size w wr) (fun _ iv _=>l.length - (intOf iv).toNat)
 case atStart=>exact ⟨0,[],Nat.zero_le _,rfl,rfl,Nat.le_refl _,za HO0,za HB0⟩
 case round =>
  obtain ⟨k,out,hk,rfl,hpl,hol,hown,hbel⟩:=hrel
  have HB:=hide hbel
  have HO:=hide hown
  have hsz:=hbel.size
  clear hbel hown HO0 HB0
  by_cases hlt:k < l.length
  ·obtain ⟨c,hkc⟩:∃ c,l[k]? = some c:=⟨_,List.getElem?_eq_getElem hlt⟩
   have HP:Hid (dys l = out ++ if c.life = 1 then k :: dysF (l.drop (k + 1)) (k + 1) else dysF (l.drop (k + 1)) (k + 1)):=by
    have:=za hpl
    rw [drop_getD hkc] at this
    exact this
   obtain ⟨b,off,rfl,hb,hcl⟩:=za HC k c hkc
   obtain ⟨g0,g1,g2,g3,g4,g5⟩:=zD (zb hcl (za HB) hb)
   have hlt':(k:Int) < l.length:=by omega
   clear hkc hcl hb hpl
   by_cases hid:c.life = 1
   ·have HP1:Hid (dys l = (out ++ [k]) ++ dysF (l.drop (k + 1)) (k + 1)):=by
     have:=za HP
     rw [if_pos hid] at this
     show _ = _
     rw [this]; simp
    rw [hid] at g4
    clear HP hid
    go_wp2_with (at_builtin; go_must (refine wpList_append_own _ rfl _ _ 80 rfl w.heap.size 3 i0 _ 1 8 Tryz.underlying80 hi0 hz0 hz1 hz2 rfl (by decide) _ out.length (out.map nval) rfl ((za HO).alloc _) ⟨wr.heap.size,0,none⟩ 1 1 [nval k] rfl rfl (cellsQ wr _ _) (by simp [Value.oneCell',nval]) (by unfold maxLen; omega) (by omega) (by simp; omega) ?_); intro v4 w4 hown4 hg4 _; have HO4:=hide hown4; have HB4:=hide (((za HB).alloc hsz _).grown hg4 (by rw [ze]; omega) (fun k hk=>((za HO).lt k hk).1)); clear hown4 hg4)
    go_roundw
    case rel=>exact ⟨k + 1,out ++ [k],by omega,by go_num,za HP1,by simp; omega,by show World.ownsRow _ _ _ _ _ _ _; simpa using za HO4,za HB4⟩
    case measure=>simp [intOf]; omega
   ·have HP1:Hid (dys l = out ++ dysF (l.drop (k + 1)) (k + 1)):=by
     have:=za HP
     rw [if_neg hid] at this
     exact this
    clear HP
    go_wp2_with fail
    go_roundw
    case rel=>exact ⟨k + 1,out,by omega,by go_num,za HP1,by omega,za HO,za HB⟩
    case measure=>simp [intOf]; omega
  ·have hke:k = l.length:=by omega
   have HE:Hid (dys l = out):=by
    have:=za hpl
    rw [List.drop_of_length_le (by omega)] at this
    show _ = _
    rw [this]; simp [dysF]
   have hge:¬ ((k:Int) < l.length):=by omega
   clear hpl hlt hke
   go_wp2_with fail
   go_ret
   refine ⟨_,rfl,?_,za HB⟩
   rw [za HE]
   exact za HO
theorem specCut_any (s:ByteArray) (w:World) (hs:s.size ≤ maxLen) :
  Calls Tryz.prog 59 #[.string s] w fun e w'=>e = .returned (.string (cutB s))∧w' = w:=by
 unfold maxLen at hs
 by_cases h:13 < s.size
 ·have HF:=hide (show cutB s = s.extract 0 13 from if_pos (by omega))
  have h':(13:Int) < s.size:=by omega
  go_enter Tryz.func59,Tryz.ntmps59
  go_wp2
  go_ret
  exact ⟨by rw [za HF]; rfl,rfl⟩
 ·have HF:Hid (cutB s = s):=by
   by_cases h3:s.size = 13
   ·exact cutB_one s h3
   ·exact if_neg (by omega)
  have h':(s.size:Int) ≤ 13:=by omega
  go_enter Tryz.func59,Tryz.ntmps59
  go_wp2
  go_ret
  exact ⟨by rw [za HF]; rfl,rfl⟩
theorem zaM (c:Cm) (w:World) (hg:c.g.size ≤ maxLen) :
  Calls Tryz.prog 34 #[.agg #[.int .i64 c.k,.int .i64 c.s,.int .i64 c.t,.int .i64 c.l,.int .i64 c.q,.int .i64 c.i,.float .f64 c.p,.string c.g]] w fun e w' =>
   e = .returned (.agg #[.int .i64 c.k,.int .i64 c.s,.int .i64 c.t,.int .i64 c.l,.int .i64 c.q,.int .i64 c.i,.float .f64 c.p,.string (cutB c.g)])∧Below w.heap.size w w':=by
 obtain ⟨k,s,t,l,q,i,p,g⟩:=c
 have HS:=hide (fun W=>specCut_any g W hg)
 have hsf:=sfl
 simp only at *
 clear hg
 go_enter Tryz.func34,Tryz.ntmps34
 go_wp2_with (go_at_call 59; refine (za HS _).mono ?_; rintro e w' ⟨rfl,rfl⟩)
 go_returns
 refine ⟨rfl,?_⟩
 go_grown
end Go.Proofs.YtopjoogdpjaocaaGreat
