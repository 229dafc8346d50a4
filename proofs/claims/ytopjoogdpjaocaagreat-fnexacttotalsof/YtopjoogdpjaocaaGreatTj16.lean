/-
  The reasons that hang on what would come of an order, by the program: proved by walking the function.
-/
import Derived.Test.YtopjoogdpjaocaaGreatTj15
set_option linter.unusedVariables false
set_option maxHeartbeats 6400000
set_option maxRecDepth 100000
namespace Go.Proofs.YtopjoogdpjaocaaGreat
open Go.RowKit
theorem zba {c:Cm} {id:Int}:∀ (n:Nat) (l:List Od) (left:Int) (ts:List Ev),GoodL l→0 ≤ left→left ≤ 1000000→GoodL (matL c id n l left ts).1∧0 ≤ (matL c id n l left ts).2.1∧(matL c id n l left ts).2.1 ≤ 1000000
 | 0,l,left,ts,h,h0,h1=>⟨h,h0,h1⟩
 | n + 1,l,left,ts,h,h0,h1=>by
  rw [matL]
  by_cases hl:0 < left
  ·rw [if_pos hl]
   cases hf:zaA l (othS c.s) with
   | none=>exact ⟨h,h0,h1⟩
   | some o =>
    simp only
    by_cases hm:zcn c o = true
    ·rw [if_pos hm]
     obtain ⟨hmem,_⟩:=front_mem hf
     obtain ⟨k,hk⟩:=List.getElem?_of_mem hmem
     have ho:=h.left o hmem
     rw [plc_at h.rise hk,Int.toNat_natCast]
     exact zba n _ _ _ (good_hit h hk (by omega) (by omega)).1 (by omega) (by omega)
    ·rw [if_neg hm]; exact ⟨h,h0,h1⟩
  ·rw [if_neg hl]; exact ⟨h,h0,h1⟩
def matR (next:Int) (c:Cm) (F:List Od × Int × List Ev):Int :=
 if c.t = 5∧0 < F.2.2.length then 11 else if c.t = 4∧0 < F.2.1 then 12 else if next = 1000000 then 13
 else if zaJ c.t = true∧0 < F.2.1 then (if fullB (F.1 ++ [{ ordO c next with left:=F.2.1 }]) = true then 13 else 0) else 0
theorem matS_put {V:World} {mb B:Nat} {next:Int} {vq vt:Value} {l:List Od} {t:Od} {ts:List Ev} (ht:V.there mb 0 9) (hb:∃ cur,V.heap[mb]? = some (.cells cur 126 (0,0))) (ho:ORow V B vq l) (he:ERow V B vt ts) (hB:B ≤ V.heap.size) :
  MatS mb B (V.setCells mb 0 [.int .i64 next,vq,.int .i64 t.id,.int .i64 t.side,.int .i64 t.ticks,.int .i64 t.left,.int .i64 t.life,.string t.tag,vt]) next vq l t vt ts:=by
 have hn:some mb ≠ vq.ownBlock:=zj ho hb (by decide)
 have hm:some mb ≠ vt.ownBlock:=zj he hb (by decide)
 have hr:=World.rangeAt_setCells_same V mb 0 [.int .i64 next,vq,.int .i64 t.id,.int .i64 t.side,.int .i64 t.ticks,.int .i64 t.left,.int .i64 t.life,.string t.tag,vt] (fun j hj=>ht j hj)
 refine ⟨hr,fun j hj=>⟨?_,?_⟩,?_,?_,?_,?_⟩
 ·obtain ⟨u,hu⟩:∃ u,[Value.int .i64 next,vq,.int .i64 t.id,.int .i64 t.side,.int .i64 t.ticks,.int .i64 t.left,.int .i64 t.life,.string t.tag,vt][j]? = some u:=⟨_,List.getElem?_eq_getElem (by simpa using hj)⟩
  rw [hr j u hu]; rfl
 ·have:=(ht j hj).2
  simp only [World.setCells,World.frozen?_setCell]
  exact this
 ·simp only [World.setCells]
  exact zt (zt (zt (zt (zt (zt (zt (zt (zt ho hn _ _) hn _ _) hn _ _) hn _ _) hn _ _) hn _ _) hn _ _) hn _ _) hn _ _
 ·simp only [World.setCells]
  exact zt (zt (zt (zt (zt (zt (zt (zt (zt he hm _ _) hm _ _) hm _ _) hm _ _) hm _ _) hm _ _) hm _ _) hm _ _) hm _ _
 ·obtain ⟨cur,hb⟩:=hb
  simp only [World.setCells]
  obtain ⟨_,h1⟩:=zN V mb 0 (.int .i64 next) hb
  obtain ⟨_,h1⟩:=zN _ mb 1 vq h1
  obtain ⟨_,h1⟩:=zN _ mb 2 (.int .i64 t.id) h1
  obtain ⟨_,h1⟩:=zN _ mb 3 (.int .i64 t.side) h1
  obtain ⟨_,h1⟩:=zN _ mb 4 (.int .i64 t.ticks) h1
  obtain ⟨_,h1⟩:=zN _ mb 5 (.int .i64 t.left) h1
  obtain ⟨_,h1⟩:=zN _ mb 6 (.int .i64 t.life) h1
  obtain ⟨_,h1⟩:=zN _ mb 7 (.string t.tag) h1
  exact zN _ mb 8 vt h1
 ·simp only [World.setCells,World.setCell,Array.size_modify]; exact hB
theorem below_kept {B0 B mb:Nat} {w W W':World} (h:Below B0 w W) (hk:KeptBut mb B W W') (hB:B0 ≤ B) (hm:B ≤ mb):Below B0 w W' :=
 ⟨hk.os.trans h.os,hk.tape.trans h.tape,hk.output.trans h.output,Nat.le_trans h.size hk.size,fun k hlt=>(hk.block k (by omega) (by omega)).trans (h.block k hlt)⟩
set_option maxRecDepth 100000 in
set_option maxHeartbeats 1600000 in
theorem zbR (next:Int) (vb:Value) (l:List Od) (c:Cm) (w:World) (hr:RdR Od.vs 6 w vb l) (hs:SlOk vb) (hg:GoodL l) (h0:0 ≤ next) (h1:next ≤ 1000000) (hq0:0 ≤ c.q) (hq1:c.q ≤ 1000000) :
  Calls Tryz.prog 91 #[.agg #[.int .i64 next,vb],noV c] w fun e w'=>e = .returned (.int .i64 (matR next c (matL c next 21 l c.q [])))∧Below w.heap.size w w':=by
 have HR:=hide hr
 have HG:=hide hg
 have HSL:=hide hs
 have HFG:=hide (zba (c:=c) (id:=next) 21 l c.q [] hg hq0 hq1)
 have HNUM:Hid (0 ≤ next∧next ≤ 1000000∧0 ≤ c.q∧c.q ≤ 1000000):=⟨h0,h1,hq0,hq1⟩
 obtain ⟨a,cap,rfl,hlen,hc⟩:=hr
 clear hc hg hs h0 h1 hq0 hq1 hlen
 obtain ⟨kk,s,ty,li,qt,ii,pr,tg⟩:=c
 have HCA:Hid (∀ W:World,RdR Od.vs 6 W (.slice a l.length cap) l→Calls Tryz.prog 70 #[.agg #[.int .i64 next,.slice a l.length cap],.agg #[.int .i64 s,.int .i64 ty,.int .i64 li,.int .i64 qt,.float .f64 pr,.string tg]] W _):=fun W hW=>match_any next _ l ⟨kk,s,ty,li,qt,ii,pr,tg⟩ W hW (za HSL) (za HG) (za HNUM).1 (za HNUM).2.1 (za HNUM).2.2.1 (za HNUM).2.2.2
 generalize matL ⟨kk,s,ty,li,qt,ii,pr,tg⟩ next 21 l qt [] = F at HFG HCA ⊢
 obtain ⟨FL,Fl,Ft⟩:=F
 unfold noV
 simp only at *
 have hs1:(w.alloc (Obj.cells #[.int .i64 next,.slice a l.length cap] 46)).heap.size = w.heap.size + 1:=ze _ _
 have hs2:((w.alloc (Obj.cells #[.int .i64 next,.slice a l.length cap] 46)).alloc (Obj.cells #[.int .i64 s,.int .i64 ty,.int .i64 li,.int .i64 qt,.float .f64 pr,.string tg] 99)).heap.size = w.heap.size + 1 + 1:=by rw [ze,hs1]
 have r1:=zh w [.int .i64 next,.slice a l.length cap] 46
 have r2:=zh (w.alloc (Obj.cells #[.int .i64 next,.slice a l.length cap] 46)) [.int .i64 s,.int .i64 ty,.int .i64 li,.int .i64 qt,.float .f64 pr,.string tg] 99
 rw [hs1] at r2
 have b12:Below (w.heap.size + 1) (w.alloc (Obj.cells #[.int .i64 next,.slice a l.length cap] 46)) ((w.alloc (Obj.cells #[.int .i64 next,.slice a l.length cap] 46)).alloc (Obj.cells #[.int .i64 s,.int .i64 ty,.int .i64 li,.int .i64 qt,.float .f64 pr,.string tg] 99)):=(Below.refl _ _).alloc (by rw [hs1]; omega) _
 have HB2:Hid (Below w.heap.size w ((w.alloc (Obj.cells #[.int .i64 next,.slice a l.length cap] 46)).alloc (Obj.cells #[.int .i64 s,.int .i64 ty,.int .i64 li,.int .i64 qt,.float .f64 pr,.string tg] 99))):=((Below.refl _ _).alloc (Nat.le_refl _) _).alloc (by rw [hs1]; omega) _
 have HX:Hid (_∧_):=⟨zb r1 b12 (by omega),r2⟩
 have HS2:=hide hs2
 clear hs1 hs2 r1 r2 b12
 go_enter Tryz.func91,Tryz.ntmps91
 refine wp_seq_k fun K hK=>?_
 have HK1:=hide hK
 clear hK
 go_wp2_with fail
 refine za HK1 _ _ ?_
 clear HK1
 refine wp_seq_k fun K2 hK2=>?_
 have HK2:=hide hK2
 clear hK2
 go_wp2_with fail
 generalize ((w.alloc (Obj.cells #[.int .i64 next,.slice a l.length cap] 46)).alloc (Obj.cells #[.int .i64 s,.int .i64 ty,.int .i64 li,.int .i64 qt,.float .f64 pr,.string tg] 99)) = X2 at HB2 HX HS2 ⊢
 have HX:Hid (X2.rangeAt w.heap.size 0 [.int .i64 next,.slice a l.length cap]∧X2.rangeAt (w.heap.size + 1) 0 [.int .i64 s,.int .i64 ty,.int .i64 li,.int .i64 qt,.float .f64 pr,.string tg]):=za HX
 refine (za HCA X2 (zl (za HR) (za HB2) (Nat.le_refl _))).mono ?_
 rintro e w4 ⟨vq,vt,rfl,hoq,het,hb4⟩
 obtain ⟨av,cv,rfl⟩:∃ a c,vt = .slice a Ft.length c:=by
  rcases het.2 with ⟨e,e2⟩ | ⟨g,cap,cur,e,_⟩
  ·exact ⟨none,0,by rw [e,e2]⟩
  ·exact ⟨_,_,e⟩
 obtain ⟨aq,cq,rfl⟩:∃ a c,vq = .slice a FL.length c:=by
  rcases hoq.2 with ⟨e,e2⟩ | ⟨g,cap,cur,e,_⟩
  ·exact ⟨none,0,by rw [e,e2]⟩
  ·exact ⟨_,_,e⟩
 have hal:Below w4.heap.size w4 (w4.alloc (Obj.cells #[.int .i64 (next + 1),.slice aq FL.length cq,.int .i64 next,.int .i64 s,.int .i64 (tk pr),.int .i64 Fl,.int .i64 li,.string tg,.slice av Ft.length cv] 126)):=(Below.refl _ _).alloc (Nat.le_refl _) _
 have HMS:Hid (MatS w4.heap.size X2.heap.size (w4.alloc (Obj.cells #[.int .i64 (next + 1),.slice aq FL.length cq,.int .i64 next,.int .i64 s,.int .i64 (tk pr),.int .i64 Fl,.int .i64 li,.string tg,.slice av Ft.length cv] 126)) (next + 1) (.slice aq FL.length cq) FL ⟨next,s,tk pr,Fl,li,tg⟩ (.slice av Ft.length cv) Ft):=⟨zh w4 [.int .i64 (next + 1),.slice aq FL.length cq,.int .i64 next,.int .i64 s,.int .i64 (tk pr),.int .i64 Fl,.int .i64 li,.string tg,.slice av Ft.length cv] _,zw w4 [.int .i64 (next + 1),.slice aq FL.length cq,.int .i64 next,.int .i64 s,.int .i64 (tk pr),.int .i64 Fl,.int .i64 li,.string tg,.slice av Ft.length cv] _,zk hoq hal,zI het hal,⟨_,heap_alloc_new w4 _⟩,Nat.le_trans hb4.size (by rw [ze]; omega)⟩
 have HB6:Hid (Below X2.heap.size X2 (w4.alloc (Obj.cells #[.int .i64 (next + 1),.slice aq FL.length cq,.int .i64 next,.int .i64 s,.int .i64 (tk pr),.int .i64 Fl,.int .i64 li,.string tg,.slice av Ft.length cv] 126))):=hb4.trans (hal.mono hb4.size)
 have HMB:Hid (w.heap.size ≤ X2.heap.size∧X2.heap.size ≤ w4.heap.size):=⟨by have:=za HS2; omega,hb4.size⟩
 clear hal hoq het hb4
 go_wp2_with fail
 refine za HK2 _ _ ?_
 generalize (w4.alloc (Obj.cells #[.int .i64 (next + 1),.slice aq FL.length cq,.int .i64 next,.int .i64 s,.int .i64 (tk pr),.int .i64 Fl,.int .i64 li,.string tg,.slice av Ft.length cv] 126)) = W6 at HMS HB6 ⊢
 generalize w4.heap.size = mb at HMS HMB ⊢
 have hm:w.heap.size + 1 < X2.heap.size:=by have:=za HS2; omega
 have k0:=zb (za HX).1 (za HB6) (by omega) 0 _ rfl
 have o0:=zb (za HX).2 (za HB6) (by omega) 0 _ rfl
 have o1:=zb (za HX).2 (za HB6) (by omega) 1 _ rfl
 have o2:=zb (za HX).2 (za HB6) (by omega) 2 _ rfl
 have o3:=zb (za HX).2 (za HB6) (by omega) 3 _ rfl
 have o4:=zb (za HX).2 (za HB6) (by omega) 4 _ rfl
 have o5:=zb (za HX).2 (za HB6) (by omega) 5 _ rfl
 have y5:W6.cell? ⟨mb,5,none⟩ = some (.int .i64 Fl):=(za HMS).cells 5 _ rfl
 have y8:W6.cell? ⟨mb,8,none⟩ = some (.slice av Ft.length cv):=(za HMS).cells 8 _ rfl
 simp only [Nat.zero_add] at k0 o0 o1 o2 o3 o4 o5
 have HBW:=hide ((za HB2).trans ((za HB6).mono (za HB2).size))
 have HMR:Hid (matR next ⟨kk,s,ty,li,qt,ii,pr,tg⟩ (FL,Fl,Ft) = if ty = 5∧0 < Ft.length then 11 else if ty = 4∧0 < Fl then 12 else if next = 1000000 then 13 else if zaJ ty = true∧0 < Fl then (if fullB (FL ++ [⟨next,s,tk pr,Fl,li,tg⟩]) = true then 13 else 0) else 0):=rfl
 clear HCA HX HK2
 by_cases h11:ty = 5∧0 < Ft.length
 ·obtain ⟨rfl,hl⟩:=h11
  have hl':(0:Int) < Ft.length:=by omega
  have HK:Hid (matR next ⟨kk,s,5,li,qt,ii,pr,tg⟩ (FL,Fl,Ft) = 11):=by have:=za HMR; rw [if_pos ⟨rfl,hl⟩] at this; exact this
  clear hl
  go_wp2_with fail
  go_ret
  exact ⟨zr (za HK).symm,za HBW⟩
 have HM1:Hid (_ = _):=(za HMR).trans (if_neg h11)
 clear HMR
 by_cases h5:ty = 5
 ·subst h5
  have hl':¬ (0:Int) < Ft.length:=fun h=>h11 ⟨rfl,by omega⟩
  have HM2:Hid (_ = _):=(za HM1).trans (if_neg (fun h=>by cases h.1))
  clear HM1
  clear h11
  by_cases hnx:next = 1000000
  ·subst hnx
   have HK:Hid (matR 1000000 ⟨kk,s,5,li,qt,ii,pr,tg⟩ (FL,Fl,Ft) = 13):=by have:=za HM2; rw [if_pos rfl] at this; exact this
   go_wp2_with fail
   go_ret
   exact ⟨zr (za HK).symm,za HBW⟩
  have hnb:(next == 1000000) = false:=by rw [beq_eq_false_iff_ne]; exact hnx
  have HMRF:Hid (_ = _):=(za HM2).trans (if_neg hnx)
  clear hnx HM2
  go_wp2_with fail
  refine (zbW ⟨kk,s,5,li,qt,ii,pr,tg⟩ W6).mono ?_
  rintro e w7 ⟨rfl,hb7⟩
  dsimp only
  have HM7:=hide (zbj (za HMS) hb7)
  have HB7:=hide ((za HBW).trans (hb7.mono (za HBW).size))
  have y7:w7.cell? ⟨mb,5,none⟩ = some (.int .i64 Fl):=(za HM7).cells 5 _ rfl
  clear hb7 k0 o0 o1 o2 o3 o4 o5 y5 y8
  cases hrb:zaJ 5
  ·have HK:Hid (matR next ⟨kk,s,5,li,qt,ii,pr,tg⟩ (FL,Fl,Ft) = 0):=by
    have:=za HMRF
    rw [if_neg (fun h=>by rw [hrb] at h; cases h.1)] at this
    exact this
   clear hrb
   go_wp2_with fail
   go_ret
   exact ⟨zr (za HK).symm,za HB7⟩
  ·by_cases hFl:0 < Fl
   ·have HMRG:Hid (matR next ⟨kk,s,5,li,qt,ii,pr,tg⟩ (FL,Fl,Ft) = if fullB (FL ++ [⟨next,s,tk pr,Fl,li,tg⟩]) = true then 13 else 0):=by
     have:=za HMRF
     rw [if_pos ⟨hrb,hFl⟩] at this
     exact this
    clear hrb
    go_wp2_with fail
    refine (rest_any mb X2.heap.size (next + 1) _ FL ⟨next,s,tk pr,Fl,li,tg⟩ _ Ft w7 (za HM7) (by have:=(za HFG).1.len; omega)).mono ?_
    rintro e w8 ⟨vq8,rfl,hM8,hK8⟩
    have HM8:=hide hM8
    have HB8:=hide (below_kept (za HB7) hK8 (za HMB).1 (za HMB).2)
    clear hM8 hK8 y7
    go_wp2_with fail
    refine (isTooFull_any mb X2.heap.size (next + 1) vq8 _ ⟨next,s,tk pr,Fl,li,tg⟩ _ Ft w8 (za HM8) (by have:=(za HFG).1.len; rw [List.length_append]; simp only [List.length_cons,List.length_nil]; omega) (by
     intro o' ho'
     have hfg:=za HFG
     rcases List.mem_append.1 ho' with h | h
     ·have:=hfg.1.left o' h; omega
     ·rw [List.mem_singleton] at h; subst h; exact hfg.2)).mono ?_
    rintro e w9 ⟨rfl,hb9⟩
    have HB9:=hide ((za HB8).trans (hb9.mono (za HB8).size))
    clear hb9
    cases hfu:fullB (FL ++ [⟨next,s,tk pr,Fl,li,tg⟩])
    ·have HK:Hid (matR next ⟨kk,s,5,li,qt,ii,pr,tg⟩ (FL,Fl,Ft) = 0):=by have:=za HMRG; rw [hfu] at this; exact this
     clear hfu
     go_wp2_with fail
     go_ret
     exact ⟨zr (za HK).symm,za HB9⟩
    ·have HK:Hid (matR next ⟨kk,s,5,li,qt,ii,pr,tg⟩ (FL,Fl,Ft) = 13):=by have:=za HMRG; rw [hfu] at this; exact this
     clear hfu
     go_wp2_with fail
     go_ret
     exact ⟨zr (za HK).symm,za HB9⟩
   ·have HK:Hid (matR next ⟨kk,s,5,li,qt,ii,pr,tg⟩ (FL,Fl,Ft) = 0):=by have:=za HMRF; rw [if_neg (fun h=>hFl h.2)] at this; exact this
    clear hrb
    go_wp2_with fail
    go_ret
    exact ⟨zr (za HK).symm,za HB7⟩
 have hb5:(ty == 5) = false:=by rw [beq_eq_false_iff_ne]; exact h5
 clear h11
 by_cases h12:ty = 4∧0 < Fl
 ·obtain ⟨rfl,hl⟩:=h12
  have HK:Hid (matR next ⟨kk,s,4,li,qt,ii,pr,tg⟩ (FL,Fl,Ft) = 12):=by have:=za HM1; rw [if_pos ⟨rfl,hl⟩] at this; exact this
  clear h5 hb5
  go_wp2_with fail
  go_ret
  exact ⟨zr (za HK).symm,za HBW⟩
 have HM2:Hid (_ = _):=(za HM1).trans (if_neg h12)
 clear HM1
 by_cases h4:ty = 4
 ·subst h4
  have hl':¬ 0 < Fl:=fun h=>h12 ⟨rfl,h⟩
  clear h12 h5 hb5
  by_cases hnx:next = 1000000
  ·subst hnx
   have HK:Hid (matR 1000000 ⟨kk,s,4,li,qt,ii,pr,tg⟩ (FL,Fl,Ft) = 13):=by have:=za HM2; rw [if_pos rfl] at this; exact this
   go_wp2_with fail
   go_ret
   exact ⟨zr (za HK).symm,za HBW⟩
  have hnb:(next == 1000000) = false:=by rw [beq_eq_false_iff_ne]; exact hnx
  have HMRF:Hid (_ = _):=(za HM2).trans (if_neg hnx)
  clear hnx HM2
  go_wp2_with fail
  refine (zbW ⟨kk,s,4,li,qt,ii,pr,tg⟩ W6).mono ?_
  rintro e w7 ⟨rfl,hb7⟩
  dsimp only
  have HM7:=hide (zbj (za HMS) hb7)
  have HB7:=hide ((za HBW).trans (hb7.mono (za HBW).size))
  have y7:w7.cell? ⟨mb,5,none⟩ = some (.int .i64 Fl):=(za HM7).cells 5 _ rfl
  clear hb7 k0 o0 o1 o2 o3 o4 o5 y5 y8
  cases hrb:zaJ 4
  ·have HK:Hid (matR next ⟨kk,s,4,li,qt,ii,pr,tg⟩ (FL,Fl,Ft) = 0):=by
    have:=za HMRF
    rw [if_neg (fun h=>by rw [hrb] at h; cases h.1)] at this
    exact this
   clear hrb
   go_wp2_with fail
   go_ret
   exact ⟨zr (za HK).symm,za HB7⟩
  ·exact absurd hrb (by decide)
 have hb4:(ty == 4) = false:=by rw [beq_eq_false_iff_ne]; exact h4
 clear h12 h5 h4
 by_cases hnx:next = 1000000
 ·subst hnx
  have HK:Hid (matR 1000000 ⟨kk,s,ty,li,qt,ii,pr,tg⟩ (FL,Fl,Ft) = 13):=by have:=za HM2; rw [if_pos rfl] at this; exact this
  go_wp2_with fail
  go_ret
  exact ⟨zr (za HK).symm,za HBW⟩
 have hnb:(next == 1000000) = false:=by rw [beq_eq_false_iff_ne]; exact hnx
 have HMRF:Hid (_ = _):=(za HM2).trans (if_neg hnx)
 clear hnx HM2
 go_wp2_with fail
 refine (zbW ⟨kk,s,ty,li,qt,ii,pr,tg⟩ W6).mono ?_
 rintro e w7 ⟨rfl,hb7⟩
 dsimp only
 have HM7:=hide (zbj (za HMS) hb7)
 have HB7:=hide ((za HBW).trans (hb7.mono (za HBW).size))
 have y7:w7.cell? ⟨mb,5,none⟩ = some (.int .i64 Fl):=(za HM7).cells 5 _ rfl
 clear hb7 k0 o0 o1 o2 o3 o4 o5 y5 y8
 cases hrb:zaJ ty
 ·have HK:Hid (matR next ⟨kk,s,ty,li,qt,ii,pr,tg⟩ (FL,Fl,Ft) = 0):=by
   have:=za HMRF
   rw [if_neg (fun h=>by rw [hrb] at h; cases h.1)] at this
   exact this
  clear hrb
  go_wp2_with fail
  go_ret
  exact ⟨zr (za HK).symm,za HB7⟩
 ·by_cases hFl:0 < Fl
  ·have HMRG:Hid (matR next ⟨kk,s,ty,li,qt,ii,pr,tg⟩ (FL,Fl,Ft) = if fullB (FL ++ [⟨next,s,tk pr,Fl,li,tg⟩]) = true then 13 else 0):=by
    have:=za HMRF
    rw [if_pos ⟨hrb,hFl⟩] at this
    exact this
   clear hrb
   go_wp2_with fail
   refine (rest_any mb X2.heap.size (next + 1) _ FL ⟨next,s,tk pr,Fl,li,tg⟩ _ Ft w7 (za HM7) (by have:=(za HFG).1.len; omega)).mono ?_
   rintro e w8 ⟨vq8,rfl,hM8,hK8⟩
   have HM8:=hide hM8
   have HB8:=hide (below_kept (za HB7) hK8 (za HMB).1 (za HMB).2)
   clear hM8 hK8 y7
   go_wp2_with fail
   refine (isTooFull_any mb X2.heap.size (next + 1) vq8 _ ⟨next,s,tk pr,Fl,li,tg⟩ _ Ft w8 (za HM8) (by have:=(za HFG).1.len; rw [List.length_append]; simp only [List.length_cons,List.length_nil]; omega) (by
    intro o' ho'
    have hfg:=za HFG
    rcases List.mem_append.1 ho' with h | h
    ·have:=hfg.1.left o' h; omega
    ·rw [List.mem_singleton] at h; subst h; exact hfg.2)).mono ?_
   rintro e w9 ⟨rfl,hb9⟩
   have HB9:=hide ((za HB8).trans (hb9.mono (za HB8).size))
   clear hb9
   cases hfu:fullB (FL ++ [⟨next,s,tk pr,Fl,li,tg⟩])
   ·have HK:Hid (matR next ⟨kk,s,ty,li,qt,ii,pr,tg⟩ (FL,Fl,Ft) = 0):=by have:=za HMRG; rw [hfu] at this; exact this
    clear hfu
    go_wp2_with fail
    go_ret
    exact ⟨zr (za HK).symm,za HB9⟩
   ·have HK:Hid (matR next ⟨kk,s,ty,li,qt,ii,pr,tg⟩ (FL,Fl,Ft) = 13):=by have:=za HMRG; rw [hfu] at this; exact this
    clear hfu
    go_wp2_with fail
    go_ret
    exact ⟨zr (za HK).symm,za HB9⟩
  ·have HK:Hid (matR next ⟨kk,s,ty,li,qt,ii,pr,tg⟩ (FL,Fl,Ft) = 0):=by have:=za HMRF; rw [if_neg (fun h=>hFl h.2)] at this; exact this
   clear hrb
   go_wp2_with fail
   go_ret
   exact ⟨zr (za HK).symm,za HB7⟩
def lifW (c:Cm):Bool:=!betB c.l 0 1 || (decide (c.l = 1) && !zaJ c.t)
def newR (next:Int) (l:List Od) (c:Cm):Int :=
 if betB c.s 1 2 = false then 3 else if betB c.t 1 5 = false then 4 else if lifW c = true then 5 else if prcB c = false then 6 else if betB c.q 1 1000000 = false then 7 else if tagB c.g = false then 8 else matR next c (matL c next 21 l c.q [])
set_option maxRecDepth 100000 in
set_option maxHeartbeats 1600000 in
theorem newRefusal_any (next:Int) (vb:Value) (l:List Od) (c:Cm) (w:World) (hr:RdR Od.vs 6 w vb l) (hs:SlOk vb) (hg:GoodL l) (h0:0 ≤ next) (h1:next ≤ 1000000) (ht:c.g.size ≤ maxLen) :
  Calls Tryz.prog 66 #[.agg #[.int .i64 next,vb],noV c] w fun e w'=>e = .returned (.int .i64 (newR next l c))∧Below w.heap.size w w':=by
 have HR:=hide hr
 have HG:=hide hg
 have HSL:=hide hs
 have HNUM:Hid (0 ≤ next∧next ≤ 1000000):=⟨h0,h1⟩
 have HTG:=hide ht
 obtain ⟨a,cap,rfl,hlen,hc⟩:=hr
 clear hc hg hs h0 h1 ht hlen
 generalize hres:newR next l c = res
 have HN0:Hid (_ = res):=hres
 clear hres
 obtain ⟨kk,s,ty,li,qt,ii,pr,tg⟩:=c
 unfold newR at HN0
 unfold noV
 simp only at *
 have hs1:(w.alloc (Obj.cells #[.int .i64 next,.slice a l.length cap] 46)).heap.size = w.heap.size + 1:=ze _ _
 have hs2:((w.alloc (Obj.cells #[.int .i64 next,.slice a l.length cap] 46)).alloc (Obj.cells #[.int .i64 s,.int .i64 ty,.int .i64 li,.int .i64 qt,.float .f64 pr,.string tg] 99)).heap.size = w.heap.size + 1 + 1:=by rw [ze,hs1]
 have r1:=zh w [.int .i64 next,.slice a l.length cap] 46
 have r2:=zh (w.alloc (Obj.cells #[.int .i64 next,.slice a l.length cap] 46)) [.int .i64 s,.int .i64 ty,.int .i64 li,.int .i64 qt,.float .f64 pr,.string tg] 99
 rw [hs1] at r2
 have b12:Below (w.heap.size + 1) (w.alloc (Obj.cells #[.int .i64 next,.slice a l.length cap] 46)) ((w.alloc (Obj.cells #[.int .i64 next,.slice a l.length cap] 46)).alloc (Obj.cells #[.int .i64 s,.int .i64 ty,.int .i64 li,.int .i64 qt,.float .f64 pr,.string tg] 99)):=(Below.refl _ _).alloc (by rw [hs1]; omega) _
 have HB2:Hid (Below w.heap.size w ((w.alloc (Obj.cells #[.int .i64 next,.slice a l.length cap] 46)).alloc (Obj.cells #[.int .i64 s,.int .i64 ty,.int .i64 li,.int .i64 qt,.float .f64 pr,.string tg] 99))):=((Below.refl _ _).alloc (Nat.le_refl _) _).alloc (by rw [hs1]; omega) _
 have HX:Hid (_∧_):=⟨zb r1 b12 (by omega),r2⟩
 have HLT:Hid (w.heap.size < ((w.alloc (Obj.cells #[.int .i64 next,.slice a l.length cap] 46)).alloc (Obj.cells #[.int .i64 s,.int .i64 ty,.int .i64 li,.int .i64 qt,.float .f64 pr,.string tg] 99)).heap.size∧w.heap.size + 1 < ((w.alloc (Obj.cells #[.int .i64 next,.slice a l.length cap] 46)).alloc (Obj.cells #[.int .i64 s,.int .i64 ty,.int .i64 li,.int .i64 qt,.float .f64 pr,.string tg] 99)).heap.size):=⟨by omega,by omega⟩
 clear hs1 hs2 r1 r2 b12
 go_enter Tryz.func66,Tryz.ntmps66
 refine wp_seq_k fun K hK=>?_
 have HK1:=hide hK
 clear hK
 go_wp2_with fail
 refine za HK1 _ _ ?_
 clear HK1
 generalize ((w.alloc (Obj.cells #[.int .i64 next,.slice a l.length cap] 46)).alloc (Obj.cells #[.int .i64 s,.int .i64 ty,.int .i64 li,.int .i64 qt,.float .f64 pr,.string tg] 99)) = X2 at HB2 HX HLT ⊢
 have HX:Hid (X2.rangeAt w.heap.size 0 [.int .i64 next,.slice a l.length cap]∧X2.rangeAt (w.heap.size + 1) 0 [.int .i64 s,.int .i64 ty,.int .i64 li,.int .i64 qt,.float .f64 pr,.string tg]):=za HX
 have k0:=zb (za HX).1 (Below.refl _ _) (za HLT).1 0 _ rfl
 have k1:=zb (za HX).1 (Below.refl _ _) (za HLT).1 1 _ rfl
 have o0:=zb (za HX).2 (Below.refl _ _) (za HLT).2 0 _ rfl
 have o1:=zb (za HX).2 (Below.refl _ _) (za HLT).2 1 _ rfl
 have o2:=zb (za HX).2 (Below.refl _ _) (za HLT).2 2 _ rfl
 have o3:=zb (za HX).2 (Below.refl _ _) (za HLT).2 3 _ rfl
 have o4:=zb (za HX).2 (Below.refl _ _) (za HLT).2 4 _ rfl
 have o5:=zb (za HX).2 (Below.refl _ _) (za HLT).2 5 _ rfl
 simp only [Nat.zero_add] at k0 k1 o0 o1 o2 o3 o4 o5
 go_wp2_with fail
 refine (isSide_any s X2).mono ?_
 rintro e w' ⟨rfl,rfl⟩
 cases h3:betB s 1 2
 ·have HK:Hid (3 = res):=by have:=za HN0; rw [if_pos h3] at this; exact this
  clear h3
  go_wp2_with fail
  go_ret
  exact ⟨zr (za HK),za HB2⟩
 have HN1:Hid (_ = res):=(if_neg (fun h=>by rw [h3] at h; cases h)).symm.trans (za HN0)
 clear h3 HN0
 go_wp2_with fail
 refine (isType_any ty w').mono ?_
 rintro e w1 ⟨rfl,rfl⟩
 cases h4:betB ty 1 5
 ·have HK:Hid (4 = res):=by have:=za HN1; rw [if_pos h4] at this; exact this
  clear h4
  go_wp2_with fail
  go_ret
  exact ⟨zr (za HK),za HB2⟩
 have HN2:Hid (_ = res):=(if_neg (fun h=>by rw [h4] at h; cases h)).symm.trans (za HN1)
 clear h4 HN1
 go_wp2_with fail
 refine (isLife_any li w1).mono ?_
 rintro e w2 ⟨rfl,rfl⟩
 cases h5:betB li 0 1
 ·have HK:Hid (5 = res):=by have:=za HN2; rw [if_pos (by simp [lifW,h5])] at this; exact this
  clear h5
  go_wp2_with fail
  go_ret
  exact ⟨zr (za HK),za HB2⟩
 by_cases hli:li = 1
 ·subst hli
  go_wp2_with fail
  refine (zbW ⟨kk,s,ty,1,qt,ii,pr,tg⟩ w2).mono ?_
  rintro e w3 ⟨rfl,hb3⟩
  dsimp only
  have HBV:=hide hb3
  clear hb3 k0 k1 o0 o1 o2 o3 o4 o5
  cases h6:zaJ ty
  ·have HK:Hid (5 = res):=by have:=za HN2; rw [if_pos (by simp [lifW,h6])] at this; exact this
   clear h6 h5
   go_wp2_with fail
   go_ret
   exact ⟨zr (za HK),(za HB2).trans ((za HBV).mono (za HB2).size)⟩
  have HN3:Hid (_ = res):=(if_neg (by simp [lifW,h5,h6])).symm.trans (za HN2)
  clear h5 h6 HN2
  have k0:=zb (za HX).1 (za HBV) (za HLT).1 0 _ rfl
  have k1:=zb (za HX).1 (za HBV) (za HLT).1 1 _ rfl
  have o0:=zb (za HX).2 (za HBV) (za HLT).2 0 _ rfl
  have o1:=zb (za HX).2 (za HBV) (za HLT).2 1 _ rfl
  have o2:=zb (za HX).2 (za HBV) (za HLT).2 2 _ rfl
  have o3:=zb (za HX).2 (za HBV) (za HLT).2 3 _ rfl
  have o4:=zb (za HX).2 (za HBV) (za HLT).2 4 _ rfl
  have o5:=zb (za HX).2 (za HBV) (za HLT).2 5 _ rfl
  simp only [Nat.zero_add] at k0 k1 o0 o1 o2 o3 o4 o5
  go_wp2_with fail
  refine (hasPrice_any ⟨kk,s,ty,1,qt,ii,pr,tg⟩ w3).mono ?_
  rintro e w4 ⟨rfl,hb4⟩
  have HB4:=hide ((za HBV).trans (hb4.mono (za HBV).size))
  clear hb4 k0 k1 o0 o1 o2 o3 o4 o5 HBV
  cases h7:prcB ⟨kk,s,ty,1,qt,ii,pr,tg⟩
  ·have HK:Hid (6 = res):=by have:=za HN3; rw [if_pos h7] at this; exact this
   clear h7
   go_wp2_with fail
   go_ret
   exact ⟨zr (za HK),(za HB2).trans ((za HB4).mono (za HB2).size)⟩
  have HN4:Hid (_ = res):=(if_neg (fun h=>by rw [h7] at h; cases h)).symm.trans (za HN3)
  clear h7 HN3
  have k0:=zb (za HX).1 (za HB4) (za HLT).1 0 _ rfl
  have k1:=zb (za HX).1 (za HB4) (za HLT).1 1 _ rfl
  have o0:=zb (za HX).2 (za HB4) (za HLT).2 0 _ rfl
  have o1:=zb (za HX).2 (za HB4) (za HLT).2 1 _ rfl
  have o2:=zb (za HX).2 (za HB4) (za HLT).2 2 _ rfl
  have o3:=zb (za HX).2 (za HB4) (za HLT).2 3 _ rfl
  have o4:=zb (za HX).2 (za HB4) (za HLT).2 4 _ rfl
  have o5:=zb (za HX).2 (za HB4) (za HLT).2 5 _ rfl
  simp only [Nat.zero_add] at k0 k1 o0 o1 o2 o3 o4 o5
  go_wp2_with fail
  refine (isQty_any qt w4).mono ?_
  rintro e w5 ⟨rfl,rfl⟩
  cases h8:betB qt 1 1000000
  ·have HK:Hid (7 = res):=by have:=za HN4; rw [if_pos h8] at this; exact this
   clear h8
   go_wp2_with fail
   go_ret
   exact ⟨zr (za HK),(za HB2).trans ((za HB4).mono (za HB2).size)⟩
  have HN5:Hid (_ = res):=(if_neg (fun h=>by rw [h8] at h; cases h)).symm.trans (za HN4)
  have HQB:Hid (0 ≤ qt∧qt ≤ 1000000):=by
   simp only [betB,Bool.and_eq_true,decide_eq_true_eq] at h8
   exact ⟨by omega,h8.2⟩
  clear h8 HN4
  go_wp2_with fail
  refine (isTag_any tg w5 (za HTG)).mono ?_
  rintro e w6 ⟨rfl,rfl⟩
  cases h9:tagB tg
  ·have HK:Hid (8 = res):=by have:=za HN5; rw [if_pos h9] at this; exact this
   clear h9
   go_wp2_with fail
   go_ret
   exact ⟨zr (za HK),(za HB2).trans ((za HB4).mono (za HB2).size)⟩
  have HN6:Hid (_ = res):=(if_neg (fun h=>by rw [h9] at h; cases h)).symm.trans (za HN5)
  clear h9 HN5
  go_wp2_with fail
  refine (zbR next _ l ⟨kk,s,ty,1,qt,ii,pr,tg⟩ w6 (zl (za HR) ((za HB2).trans ((za HB4).mono (za HB2).size)) (Nat.le_refl _)) (za HSL) (za HG) (za HNUM).1 (za HNUM).2 (za HQB).1 (za HQB).2).mono ?_
  dsimp only
  rw [za HN6]
  rintro e w7 ⟨rfl,hb7⟩
  have HB7:=hide (((za HB2).trans ((za HB4).mono (za HB2).size)).trans (hb7.mono ((za HB2).trans ((za HB4).mono (za HB2).size)).size))
  clear hb7
  go_wp2_with fail
  go_ret
  exact ⟨rfl,za HB7⟩
 have hlb:(li == 1) = false:=by rw [beq_eq_false_iff_ne]; exact hli
 have HN3:Hid (_ = res):=(if_neg (by simp [lifW,h5,hli])).symm.trans (za HN2)
 have HBV:Hid (Below w2.heap.size w2 w2):=Below.refl _ _
 clear h5 hli HN2
 go_wp2_with fail
 refine (hasPrice_any ⟨kk,s,ty,li,qt,ii,pr,tg⟩ w2).mono ?_
 rintro e w4 ⟨rfl,hb4⟩
 have HB4:=hide ((za HBV).trans (hb4.mono (za HBV).size))
 clear hb4 k0 k1 o0 o1 o2 o3 o4 o5 HBV
 cases h7:prcB ⟨kk,s,ty,li,qt,ii,pr,tg⟩
 ·have HK:Hid (6 = res):=by have:=za HN3; rw [if_pos h7] at this; exact this
  clear h7
  go_wp2_with fail
  go_ret
  exact ⟨zr (za HK),(za HB2).trans ((za HB4).mono (za HB2).size)⟩
 have HN4:Hid (_ = res):=(if_neg (fun h=>by rw [h7] at h; cases h)).symm.trans (za HN3)
 clear h7 HN3
 have k0:=zb (za HX).1 (za HB4) (za HLT).1 0 _ rfl
 have k1:=zb (za HX).1 (za HB4) (za HLT).1 1 _ rfl
 have o0:=zb (za HX).2 (za HB4) (za HLT).2 0 _ rfl
 have o1:=zb (za HX).2 (za HB4) (za HLT).2 1 _ rfl
 have o2:=zb (za HX).2 (za HB4) (za HLT).2 2 _ rfl
 have o3:=zb (za HX).2 (za HB4) (za HLT).2 3 _ rfl
 have o4:=zb (za HX).2 (za HB4) (za HLT).2 4 _ rfl
 have o5:=zb (za HX).2 (za HB4) (za HLT).2 5 _ rfl
 simp only [Nat.zero_add] at k0 k1 o0 o1 o2 o3 o4 o5
 go_wp2_with fail
 refine (isQty_any qt w4).mono ?_
 rintro e w5 ⟨rfl,rfl⟩
 cases h8:betB qt 1 1000000
 ·have HK:Hid (7 = res):=by have:=za HN4; rw [if_pos h8] at this; exact this
  clear h8
  go_wp2_with fail
  go_ret
  exact ⟨zr (za HK),(za HB2).trans ((za HB4).mono (za HB2).size)⟩
 have HN5:Hid (_ = res):=(if_neg (fun h=>by rw [h8] at h; cases h)).symm.trans (za HN4)
 have HQB:Hid (0 ≤ qt∧qt ≤ 1000000):=by
  simp only [betB,Bool.and_eq_true,decide_eq_true_eq] at h8
  exact ⟨by omega,h8.2⟩
 clear h8 HN4
 go_wp2_with fail
 refine (isTag_any tg w5 (za HTG)).mono ?_
 rintro e w6 ⟨rfl,rfl⟩
 cases h9:tagB tg
 ·have HK:Hid (8 = res):=by have:=za HN5; rw [if_pos h9] at this; exact this
  clear h9
  go_wp2_with fail
  go_ret
  exact ⟨zr (za HK),(za HB2).trans ((za HB4).mono (za HB2).size)⟩
 have HN6:Hid (_ = res):=(if_neg (fun h=>by rw [h9] at h; cases h)).symm.trans (za HN5)
 clear h9 HN5
 go_wp2_with fail
 refine (zbR next _ l ⟨kk,s,ty,li,qt,ii,pr,tg⟩ w6 (zl (za HR) ((za HB2).trans ((za HB4).mono (za HB2).size)) (Nat.le_refl _)) (za HSL) (za HG) (za HNUM).1 (za HNUM).2 (za HQB).1 (za HQB).2).mono ?_
 dsimp only
 rw [za HN6]
 rintro e w7 ⟨rfl,hb7⟩
 have HB7:=hide (((za HB2).trans ((za HB4).mono (za HB2).size)).trans (hb7.mono ((za HB2).trans ((za HB4).mono (za HB2).size)).size))
 clear hb7
 go_wp2_with fail
 go_ret
 exact ⟨rfl,za HB7⟩
end Go.Proofs.YtopjoogdpjaocaaGreat
