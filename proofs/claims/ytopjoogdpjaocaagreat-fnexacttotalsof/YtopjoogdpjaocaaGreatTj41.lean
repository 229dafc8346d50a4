/-
  A command done on a book, by the model: proved by walking the function.
-/
import Derived.Test.YtopjoogdpjaocaaGreatTj37
set_option linter.unusedVariables false
set_option maxHeartbeats 6400000
set_option maxRecDepth 100000
namespace Go.Proofs.YtopjoogdpjaocaaGreat
open Go.RowKit
set_option maxRecDepth 100000 in
set_option maxHeartbeats 12800000 in
theorem l04Step_a (next:Int) (vb:Value) (l:List Od) (c:Cm) (w:World) (hway:refR next l c = 0∧c.k = 1) (hr:RdR Od.vs 6 w vb l) (hs:SlOk vb) (hg:GoodL l) (hsd:∀ x ∈ l,x.side = 1 ∨ x.side = 2) (h0:0 ≤ next) (h1:next ≤ 1000000) (ht:c.g.size ≤ maxLen) :
  Calls Tryz.prog 22 #[.agg #[.int .i64 next,vb],cmV c] w fun e w'=>∃ vq vg,e = .returned (.tuple #[.agg #[.int .i64 (stN next l c),vq],vg])∧ORow w' w.heap.size vq (stL next l c)∧ERow w' w.heap.size vg (stE next l c)∧Below w.heap.size w w':=by
 obtain ⟨i0,hi0,hz0,hz1,hz2⟩:=info_parts Tryz.infoOrder
 obtain ⟨j0,hj0,hy0,hy1,hy2⟩:=info_parts infoEv
 have HR:=hide hr
 have HSL:=hide hs
 have HG:=hide hg
 have HTG:=hide ht
 have hlen20:=hg.len
 have HNUM:Hid (0 ≤ next∧next ≤ 1000000):=⟨h0,h1⟩
 have HREA:=hide (fun (W:World) hW=>zaN next vb l c W hW hs hg hsd ht)
 rw [ref_eq] at HREA
 have HK:=hide (@zbG next l c)
 have HQ:=hide (@zbx next l c)
 have HID:=hide (@ref_id next l c)
 have HNS:=hide (@ref_newS next l c)
 have HWAY:=hide hway
 clear hway
 have HSN:Hid (stN next l c = if refR next l c = 0∧c.k = 1 then next + 1 else next):=rfl
 have HSLL:=hide (stL.eq_1 next l c)
 have HSE:=hide (stE.eq_1 next l c)
 have HNO:=hide (fun W=>zaM c W ht)
 have HTA:=hide (fun (a:Option Addr) (n cap:Nat) (W:World)=>zaI next a n cap c W)
 have HMT:=hide (fun (v:Value) (W:World) hr hs hp hq0 hq1=>zaH v l c next W hr hg hs hp hq0 hq1)
 obtain ⟨a,cap,rfl,hrlen,hc⟩:=hr
 obtain ⟨kk,s,ty,li,qt,ii,pr,tg⟩:=c
 generalize stN next l ⟨kk,s,ty,li,qt,ii,pr,tg⟩ = sN at HSN ⊢
 generalize stL next l ⟨kk,s,ty,li,qt,ii,pr,tg⟩ = sL at HSLL ⊢
 generalize stE next l ⟨kk,s,ty,li,qt,ii,pr,tg⟩ = sE at HSE ⊢
 generalize refR next l ⟨kk,s,ty,li,qt,ii,pr,tg⟩ = rr at HREA HSN HSLL HSE HK HQ HID HNS HWAY
 unfold cmV at HREA HTA ⊢
 simp only at HREA HSN HSLL HSE HK HQ HID HNS HNO HTA HMT HTG HWAY ⊢
 have HB:=hide (box3 w [.int .i64 next,.slice a l.length cap] [.int .i64 kk,.int .i64 s,.int .i64 ty,.int .i64 li,.int .i64 qt,.int .i64 ii,.float .f64 pr,.string tg] [.int .i64 0,.slice none 0 0] 46 39 46)
 clear hs hg hsd h0 h1 ht hc hrlen
 go_enter Tryz.func22,Tryz.ntmps22
 refine wp_seq_k fun K hK=>?_
 have HK1:=hide hK
 clear hK
 go_wp2_with fail
 refine za HK1 _ _ ?_
 clear HK1
 change Hid ((((w.alloc (Obj.cells #[.int .i64 next,.slice a l.length cap] 46)).alloc (Obj.cells #[.int .i64 kk,.int .i64 s,.int .i64 ty,.int .i64 li,.int .i64 qt,.int .i64 ii,.float .f64 pr,.string tg] 39)).alloc (Obj.cells #[.int .i64 0,.slice none 0 0] 46)).heap.size = w.heap.size + 3∧World.rangeAt (((w.alloc (Obj.cells #[.int .i64 next,.slice a l.length cap] 46)).alloc (Obj.cells #[.int .i64 kk,.int .i64 s,.int .i64 ty,.int .i64 li,.int .i64 qt,.int .i64 ii,.float .f64 pr,.string tg] 39)).alloc (Obj.cells #[.int .i64 0,.slice none 0 0] 46)) w.heap.size 0 [.int .i64 next,.slice a l.length cap]∧World.rangeAt (((w.alloc (Obj.cells #[.int .i64 next,.slice a l.length cap] 46)).alloc (Obj.cells #[.int .i64 kk,.int .i64 s,.int .i64 ty,.int .i64 li,.int .i64 qt,.int .i64 ii,.float .f64 pr,.string tg] 39)).alloc (Obj.cells #[.int .i64 0,.slice none 0 0] 46)) (w.heap.size + 1) 0 [.int .i64 kk,.int .i64 s,.int .i64 ty,.int .i64 li,.int .i64 qt,.int .i64 ii,.float .f64 pr,.string tg]∧World.rangeAt (((w.alloc (Obj.cells #[.int .i64 next,.slice a l.length cap] 46)).alloc (Obj.cells #[.int .i64 kk,.int .i64 s,.int .i64 ty,.int .i64 li,.int .i64 qt,.int .i64 ii,.float .f64 pr,.string tg] 39)).alloc (Obj.cells #[.int .i64 0,.slice none 0 0] 46)) (w.heap.size + 1 + 1) 0 [.int .i64 0,.slice none 0 0]∧World.there (((w.alloc (Obj.cells #[.int .i64 next,.slice a l.length cap] 46)).alloc (Obj.cells #[.int .i64 kk,.int .i64 s,.int .i64 ty,.int .i64 li,.int .i64 qt,.int .i64 ii,.float .f64 pr,.string tg] 39)).alloc (Obj.cells #[.int .i64 0,.slice none 0 0] 46)) (w.heap.size + 1 + 1) 0 2∧Below w.heap.size w (((w.alloc (Obj.cells #[.int .i64 next,.slice a l.length cap] 46)).alloc (Obj.cells #[.int .i64 kk,.int .i64 s,.int .i64 ty,.int .i64 li,.int .i64 qt,.int .i64 ii,.float .f64 pr,.string tg] 39)).alloc (Obj.cells #[.int .i64 0,.slice none 0 0] 46))) at HB
 generalize (((w.alloc (Obj.cells #[.int .i64 next,.slice a l.length cap] 46)).alloc (Obj.cells #[.int .i64 kk,.int .i64 s,.int .i64 ty,.int .i64 li,.int .i64 qt,.int .i64 ii,.float .f64 pr,.string tg] 39)).alloc (Obj.cells #[.int .i64 0,.slice none 0 0] 46)) = X at HB ⊢
 have HCELL:Hid (∀ W:World,Below X.heap.size X W→W.cell? ⟨w.heap.size,0,none⟩ = some (.int .i64 next)∧W.cell? ⟨w.heap.size,1,none⟩ = some (.slice a l.length cap)∧W.cell? ⟨w.heap.size + 1,0,none⟩ = some (.int .i64 kk)∧W.cell? ⟨w.heap.size + 1,1,none⟩ = some (.int .i64 s)∧W.cell? ⟨w.heap.size + 1,2,none⟩ = some (.int .i64 ty)∧W.cell? ⟨w.heap.size + 1,3,none⟩ = some (.int .i64 li)∧W.cell? ⟨w.heap.size + 1,4,none⟩ = some (.int .i64 qt)∧W.cell? ⟨w.heap.size + 1,5,none⟩ = some (.int .i64 ii)∧W.cell? ⟨w.heap.size + 1,6,none⟩ = some (.float .f64 pr)∧W.cell? ⟨w.heap.size + 1,7,none⟩ = some (.string tg)):=fun W hW =>
  have p:=zb (za HB).2.1 hW (by have:=(za HB).1; omega)
  have q:=zb (za HB).2.2.1 hW (by have:=(za HB).1; omega)
  ⟨p 0 _ rfl,p 1 _ rfl,q 0 _ rfl,q 1 _ rfl,q 2 _ rfl,q 3 _ rfl,q 4 _ rfl,q 5 _ rfl,q 6 _ rfl,q 7 _ rfl⟩
 have hRX:w.heap.size + 1 + 1 < X.heap.size:=by have:=(za HB).1; omega
 refine wp_seq_k fun K hK=>?_
 have HT:∀ (a6:Option Addr) (c6:Nat) (w1:World),ORow w1 X.heap.size (.slice a6 l.length c6) l→Below X.heap.size X w1→K { tmps:=#[.agg #[.int .i64 next,.slice a l.length cap],.agg #[.int .i64 kk,.int .i64 s,.int .i64 ty,.int .i64 li,.int .i64 qt,.int .i64 ii,.float .f64 pr,.string tg],.pointer (some ⟨w.heap.size,0,none⟩),.pointer (some ⟨w.heap.size + 1,0,none⟩),.pointer (some ⟨w.heap.size + 1 + 1,0,none⟩),.slice none 0 0,.slice a6 l.length c6,undef,undef,undef,undef,undef,undef,undef,undef,undef,undef,undef,.slice (some ⟨X.heap.size,0,none⟩) 0 0,.pointer (some ⟨w.heap.size,1,none⟩),.slice a l.length cap,.slice a6 l.length c6,undef,undef,undef,undef,undef,undef,undef,undef,undef,undef,undef,undef,undef,undef,undef,undef,undef,undef,undef,undef,undef,undef,undef,undef,undef,undef,undef,undef,undef,undef,undef,undef,undef,undef,undef,undef,undef,undef,undef,undef,undef,undef,undef,undef,undef,undef,undef,undef,undef,undef,undef,undef,undef,undef,undef,undef,undef,undef,undef,undef,undef,undef,undef,undef,undef,undef,undef,undef,undef,undef,undef,undef,undef,undef,undef,undef,undef,undef,undef,undef,undef,undef,undef,undef,undef,undef,undef,undef,undef,undef,undef,undef,undef,undef,undef,undef,undef,undef,undef,undef,undef,undef,undef,undef,undef,undef,undef,undef,undef,undef,undef,undef,undef,undef,undef,undef,undef,undef,undef,undef,undef,undef,undef,undef,undef,undef,undef,undef,undef,undef,undef,undef,undef,undef,undef,undef,undef,undef,undef,undef,undef,undef,undef,undef,undef,undef,undef,undef,undef],defers:=[] } w1:=by
  intro a6 c6 w1 ho1 hb1
  refine hK _ _ ?_
  clear hK
  have HO1:=hide ho1
  have HB1:=hide hb1
  clear ho1 hb1
  obtain ⟨z0,z1,y0,y1,y2,y3,y4,y5,y6,y7⟩:=za HCELL w1 (za HB1)
  refine wp_seq_k fun K hK=>?_
  have HK1:=hide hK
  clear hK
  go_wp2_with fail
  refine (za HREA w1 (zl (za HR) ((za HB).2.2.2.2.2.trans ((za HB1).mono (za HB).2.2.2.2.2.size)) (Nat.le_refl _))).mono ?_
  rintro e w2 ⟨rfl,hb2⟩
  have HO2:=hide (zk (za HO1) hb2)
  have HB2:=hide ((za HB1).trans (hb2.mono (za HB1).size))
  clear z0 z1 y0 y1 y2 y3 y4 y5 y6 y7 hb2 HO1
  obtain ⟨z0,z1,y0,y1,y2,y3,y4,y5,y6,y7⟩:=za HCELL w2 (za HB2)
  have HTR:=hide (zf (za HB).2.2.2.2.1 (za HB2) hRX)
  have hRb:w.heap.size + 1 + 1 < w2.heap.size:=Nat.lt_of_lt_of_le hRX (za HB2).size
  have HBW:=hide ((za HB).2.2.2.2.2.trans ((za HB2).mono (za HB).2.2.2.2.2.size))
  have hXw:w.heap.size ≤ X.heap.size:=by omega
  have hX2:X.heap.size ≤ w2.heap.size:=(za HB2).size
  have hXb:=hX2
  by_cases hrr:rr = 0
  ·subst hrr
   have hkk:=za HK rfl
   rcases hkk with rfl | rfl | rfl | rfl
   ·have hq:=za HQ rfl rfl
    obtain ⟨hss,hpp,htt,hii⟩:=za HNS rfl rfl
    have HMTT:=hide (fun (v:Value) (W:World) hr=>za HMT v W hr hss hpp (by omega) hq.2)
    have HFG:=hide (zba (c:=⟨1,s,ty,li,qt,ii,pr,tg⟩) (id:=next) 21 l qt [] (za HG) (by omega) hq.2)
    have HMF:=hide (zcb (c:=⟨1,s,ty,li,qt,ii,pr,tg⟩) (id:=next) 21 l qt [])
    have HST:Hid (sN = next + 1∧sL = (if 0 < (matL ⟨1,s,ty,li,qt,ii,pr,tg⟩ next 21 l qt []).2.1∧zaJ ty = true then (matL ⟨1,s,ty,li,qt,ii,pr,tg⟩ next 21 l qt []).1 ++ [⟨next,s,tkS pr,(matL ⟨1,s,ty,li,qt,ii,pr,tg⟩ next 21 l qt []).2.1,li,tg⟩] else (matL ⟨1,s,ty,li,qt,ii,pr,tg⟩ next 21 l qt []).1)∧sE = ⟨1,⟨1,s,ty,li,qt,ii,pr,cutB tg⟩,next,0,0,0,0⟩ :: (matL ⟨1,s,ty,li,qt,ii,pr,tg⟩ next 21 l qt []).2.2 ++ (if 0 < (matL ⟨1,s,ty,li,qt,ii,pr,tg⟩ next 21 l qt []).2.1 then [⟨if zaJ ty = true then 4 else 5,zCm,next,0,(matL ⟨1,s,ty,li,qt,ii,pr,tg⟩ next 21 l qt []).2.1,0,0⟩] else [])):=⟨by rw [za HSN,if_pos ⟨rfl,rfl⟩],by rw [za HSLL,if_pos rfl,if_pos rfl]; exact acc_l hpp,by rw [za HSE,if_pos rfl,if_pos rfl,accE,cutB_tag htt,hii]⟩
    generalize matL ⟨1,s,ty,li,qt,ii,pr,tg⟩ next 21 l qt [] = F at HST HMTT HFG HMF
    obtain ⟨FL,Fl,Ft⟩:=F
    simp only at HST HMTT HFG HMF
    generalize tkS pr = tt at HST HMTT HTA
    have hFL:=(za HFG).1.len
    have hFt:Ft.length ≤ 21:=by simpa using za HMF
    obtain ⟨hn0,hn1⟩:=za HNUM
    clear HSN HSLL HSE HQ HID HK HNS HMT hpp htt hii hss HFG HMF
    go_wp2_with fail
    refine za HK1 _ _ ?_
    clear HK1
    refine wp_seq_k fun K hK=>?_
    have HK1:=hide hK
    clear hK
    go_wp2_with fail
    refine (zaU _ l ii w2 (zM (za HO2) (by omega))).mono ?_
    generalize plc l ii = pk
    rintro e w3 ⟨rfl,hb3⟩
    have HO3:=hide (zk (za HO2) hb3)
    have HB3:=hide ((za HB2).trans (hb3.mono (za HB2).size))
    clear hb3 z0 z1 y0 y1 y2 y3 y4 y5 y6 y7 HTR HBW hRb hXb
    have HTR:=hide (zf (za HB).2.2.2.2.1 (za HB3) hRX)
    have hRb:w.heap.size + 1 + 1 < w3.heap.size:=Nat.lt_of_lt_of_le hRX (za HB3).size
    have HBW:=hide ((za HB).2.2.2.2.2.trans ((za HB3).mono (za HB).2.2.2.2.2.size))
    have hXb:X.heap.size ≤ w3.heap.size:=(za HB3).size
    obtain ⟨z0,z1,y0,y1,y2,y3,y4,y5,y6,y7⟩:=za HCELL w3 (za HB3)
    have HZ0:=hide z0
    have HZ1:=hide z1
    have HY0:=hide y0
    have HY1:=hide y1
    have HY2:=hide y2
    have HY3:=hide y3
    have HY4:=hide y4
    have HY5:=hide y5
    have HY6:=hide y6
    have HY7:=hide y7
    go_wp2_with fail
    refine za HK1 _ _ ?_
    clear HK1
    refine wp_seq_k fun K hK=>?_
    have HK1:=hide hK
    clear hK
    go_wp2_with fail
    refine za HK1 _ _ ?_
    clear HK1
    refine wp_seq_k fun K hK=>?_
    have HK1:=hide hK
    clear hK
    clear z0 z1 y0 y1 y2 y3 y4 y5 y6 y7
    refine zo (RYBA (fun f=>{ tmps:=#[.agg #[.int .i64 next,.slice a l.length cap],.agg #[.int .i64 1,.int .i64 s,.int .i64 ty,.int .i64 li,.int .i64 qt,.int .i64 ii,.float .f64 pr,.string tg],.pointer (some ⟨w.heap.size,0,none⟩),.pointer (some ⟨w.heap.size + 1,0,none⟩),.pointer (some ⟨w.heap.size + 1 + 1,0,none⟩),.slice none 0 0,.slice a6 l.length c6,.int .i64 0,.int .i64 pk,undef,undef,undef,undef,undef,f 6,undef,undef,undef,.slice (some ⟨X.heap.size,0,none⟩) 0 0,.pointer (some ⟨w.heap.size,1,none⟩),.slice a l.length cap,.slice a6 l.length c6,.agg #[.int .i64 next,.slice a l.length cap],.agg #[.int .i64 1,.int .i64 s,.int .i64 ty,.int .i64 li,.int .i64 qt,.int .i64 ii,.float .f64 pr,.string tg],.int .i64 0,.int .i64 0,.bool false,undef,undef,undef,undef,undef,undef,undef,undef,undef,.slice a6 l.length c6,.pointer (some ⟨w.heap.size + 1,5,none⟩),.int .i64 ii,.int .i64 pk,.pointer (some ⟨w.heap.size + 1,0,none⟩),.int .i64 1,.bool false,.bool false,undef,undef,undef,undef,undef,undef,undef,undef,undef,undef,undef,undef,undef,undef,undef,undef,.bool false,.bool false,undef,undef,undef,undef,undef,undef,undef,undef,undef,undef,undef,undef,undef,undef,undef,undef,.bool false,.bool false,undef,undef,undef,undef,undef,undef,undef,undef,undef,undef,undef,undef,undef,undef,undef,undef,undef,undef,undef,undef,undef,undef,undef,undef,undef,undef,undef,undef,undef,undef,undef,undef,undef,undef,undef,undef,undef,undef,undef,undef,undef,undef,undef,undef,undef,f 0,f 1,f 2,f 3,f 4,f 5,undef,undef,undef,undef,undef,undef,undef,undef,undef,undef,undef,undef,undef,undef,undef,undef,undef,undef,undef,undef,undef,undef,undef,undef,undef,undef,undef,undef,undef,undef,undef,undef,undef,undef,undef,undef,undef,undef,undef,undef],defers:=[] }) (CX [.agg #[.int .i64 1,.int .i64 s,.int .i64 ty,.int .i64 li,.int .i64 qt,.int .i64 ii,.float .f64 pr,.string tg],.agg #[.int .i64 1,.int .i64 s,.int .i64 ty,.int .i64 li,.int .i64 qt,.int .i64 ii,.float .f64 pr,.string (cutB tg)],.pointer (some ⟨w.heap.size,0,none⟩),.int .i64 next,.agg #[.int .i64 1,.int .i64 1,.int .i64 s,.int .i64 ty,.int .i64 li,.int .i64 qt,.int .i64 ii,.float .f64 pr,.string (cutB tg),.int .i64 next,.int .i64 0,.int .i64 0,.int .i64 0,.int .i64 0],undef,undef] [] (w3.heap.size) 0 [] ([])) 5 (undef) (fun f W=>∃ be,f 5 = .slice (some ⟨be,0,none⟩) 1 1∧ERow W w3.heap.size (.slice (some ⟨be,0,none⟩) 1 1) [⟨1,⟨1,s,ty,li,qt,ii,pr,cutB tg⟩,next,0,0,0,0⟩]∧Below X.heap.size X W∧ORow W X.heap.size (.slice a6 l.length c6) l) w3) (by kernel_rfl) ?_ ?_ ?_
    ·exact ⟨fun _=>undef,rfl,ry_start (by decide),ryb_start rfl⟩
    rotate_left
    ·rintro x A V i op ⟨f,rfl,hR,hA⟩ hcl hx ho hxi hall
     have HRR:=hide hR
     have HAA:=hide hA
     clear hA
     have cellV:x[5]? = some false→∀ (p:Addr) u,w3.cell? p = some u→V.cell? p = some u:=fun hn p u hu=>((hR.b hn).cell (World.block_lt_of_cell? w3 _ hu)).trans hu
     match i,ho with
     | 0,ho =>
      obtain rfl:=Option.some.inj ho
      have hn:x[5]? = some false:=zx hcl 12 0 5 (by kernel_rfl) hx (by simp) hxi
      have y0:=cellV hn ⟨w.heap.size + 1,0,none⟩ _ (za HY0)
      have y1:=cellV hn ⟨w.heap.size + 1,1,none⟩ _ (za HY1)
      have y2:=cellV hn ⟨w.heap.size + 1,2,none⟩ _ (za HY2)
      have y3:=cellV hn ⟨w.heap.size + 1,3,none⟩ _ (za HY3)
      have y4:=cellV hn ⟨w.heap.size + 1,4,none⟩ _ (za HY4)
      have y5:=cellV hn ⟨w.heap.size + 1,5,none⟩ _ (za HY5)
      have y6:=cellV hn ⟨w.heap.size + 1,6,none⟩ _ (za HY6)
      have y7:=cellV hn ⟨w.heap.size + 1,7,none⟩ _ (za HY7)
      clear hall hR hcl cellV
      rw [if_pos (by rfl)]
      unfold Oper.wp
      go_simp
      exact ⟨upd f 0 (.agg #[.int .i64 1,.int .i64 s,.int .i64 ty,.int .i64 li,.int .i64 qt,.int .i64 ii,.float .f64 pr,.string tg]),by simp [upd],zU (za HRR) 0 _ hn (by decide) (zT rfl rfl),zW _ (za HAA) (by decide) (by decide)⟩
     | 1,ho =>
      obtain rfl:=Option.some.inj ho
      have hn:x[5]? = some false:=zx hcl 12 1 5 (by kernel_rfl) hx (by simp) hxi
      have g0:f 0 = .agg #[.int .i64 1,.int .i64 s,.int .i64 ty,.int .i64 li,.int .i64 qt,.int .i64 ii,.float .f64 pr,.string tg]:=zQ (hR.c hn 0 (hall ⟨0,.data⟩ (by simp) rfl)) rfl rfl
      clear hall hR hcl cellV
      rw [if_pos (by rfl)]
      unfold Oper.wp
      go_simp
      refine (za HNO V).mono ?_
      rintro e w4 ⟨rfl,hb4⟩
      exact ⟨upd f 1 (.agg #[.int .i64 1,.int .i64 s,.int .i64 ty,.int .i64 li,.int .i64 qt,.int .i64 ii,.float .f64 pr,.string (cutB tg)]),by simp [upd,g0],zU (ry_grow (cx_monoB (by omega)) (za HRR) hn hb4) 1 _ hn (by decide) (zT rfl rfl),zW _ (za HAA) (by decide) (by decide)⟩
     | 2,ho =>
      obtain rfl:=Option.some.inj ho
      have hn:x[5]? = some false:=zx hcl 12 2 5 (by kernel_rfl) hx (by simp) hxi
      clear hall hR hcl cellV
      rw [if_pos (by rfl)]
      unfold Oper.wp
      go_simp
      exact ⟨upd f 2 (.pointer (some ⟨w.heap.size,0,none⟩)),by simp [upd],zU (za HRR) 2 _ hn (by decide) (zT rfl rfl),zW _ (za HAA) (by decide) (by decide)⟩
     | 3,ho =>
      obtain rfl:=Option.some.inj ho
      have hn:x[5]? = some false:=zx hcl 12 3 5 (by kernel_rfl) hx (by simp) hxi
      have g2:f 2 = .pointer (some ⟨w.heap.size,0,none⟩):=zQ (hR.c hn 2 (hall ⟨2,.data⟩ (by simp) rfl)) rfl rfl
      have z0:=cellV hn ⟨w.heap.size,0,none⟩ _ (za HZ0)
      clear hall hR hcl cellV
      rw [if_pos (by rfl)]
      unfold Oper.wp
      go_simp
      exact ⟨upd f 3 (.int .i64 next),by simp [upd,g2],zU (za HRR) 3 _ hn (by decide) (zT rfl rfl),zW _ (za HAA) (by decide) (by decide)⟩
     | 4,ho =>
      obtain rfl:=Option.some.inj ho
      have hn:x[5]? = some false:=zx hcl 12 4 5 (by kernel_rfl) hx (by simp) hxi
      have g1:f 1 = .agg #[.int .i64 1,.int .i64 s,.int .i64 ty,.int .i64 li,.int .i64 qt,.int .i64 ii,.float .f64 pr,.string (cutB tg)]:=zQ (hR.c hn 1 (hall ⟨1,.data⟩ (by simp) rfl)) rfl rfl
      have g3:f 3 = .int .i64 next:=zQ (hR.c hn 3 (hall ⟨3,.data⟩ (by simp) rfl)) rfl rfl
      clear hall hR hcl cellV
      rw [if_pos (by rfl)]
      unfold Oper.wp
      go_simp
      exact ⟨upd f 4 (.agg #[.int .i64 1,.int .i64 1,.int .i64 s,.int .i64 ty,.int .i64 li,.int .i64 qt,.int .i64 ii,.float .f64 pr,.string (cutB tg),.int .i64 next,.int .i64 0,.int .i64 0,.int .i64 0,.int .i64 0]),by simp [upd,g1,g3],zU (za HRR) 4 _ hn (by decide) (zT rfl rfl),zW _ (za HAA) (by decide) (by decide)⟩
     | 5,ho =>
      obtain rfl:=Option.some.inj ho
      have hn:x[5]? = some false:=hxi
      have g4:f 4 = .agg #[.int .i64 1,.int .i64 1,.int .i64 s,.int .i64 ty,.int .i64 li,.int .i64 qt,.int .i64 ii,.float .f64 pr,.string (cutB tg),.int .i64 next,.int .i64 0,.int .i64 0,.int .i64 0,.int .i64 0]:=zQ (hR.c hn 4 (hall ⟨4,.data⟩ (by simp) rfl)) rfl rfl
      have h14:x[6]? = some false:=zx hcl 12 5 6 (by kernel_rfl) hx (by simp) hxi
      have hbV:=hR.b hn
      have hbA:Below V.heap.size V (V.alloc (Obj.cells #[.int .i64 1,.int .i64 1,.int .i64 s,.int .i64 ty,.int .i64 li,.int .i64 qt,.int .i64 ii,.float .f64 pr,.string (cutB tg),.int .i64 next,.int .i64 0,.int .i64 0,.int .i64 0,.int .i64 0] 43)):=(Below.refl _ _).alloc (Nat.le_refl _) _
      have HQQ:Hid (ERow (V.alloc (Obj.cells #[.int .i64 1,.int .i64 1,.int .i64 s,.int .i64 ty,.int .i64 li,.int .i64 qt,.int .i64 ii,.float .f64 pr,.string (cutB tg),.int .i64 next,.int .i64 0,.int .i64 0,.int .i64 0,.int .i64 0] 43)) w3.heap.size (.slice (some ⟨V.heap.size,0,none⟩) 1 1) [⟨1,⟨1,s,ty,li,qt,ii,pr,cutB tg⟩,next,0,0,0,0⟩]∧Below X.heap.size X (V.alloc (Obj.cells #[.int .i64 1,.int .i64 1,.int .i64 s,.int .i64 ty,.int .i64 li,.int .i64 qt,.int .i64 ii,.float .f64 pr,.string (cutB tg),.int .i64 next,.int .i64 0,.int .i64 0,.int .i64 0,.int .i64 0] 43))∧ORow (V.alloc (Obj.cells #[.int .i64 1,.int .i64 1,.int .i64 s,.int .i64 ty,.int .i64 li,.int .i64 qt,.int .i64 ii,.float .f64 pr,.string (cutB tg),.int .i64 next,.int .i64 0,.int .i64 0,.int .i64 0,.int .i64 0] 43)) X.heap.size (.slice a6 l.length c6) l):=⟨eRow_one V ⟨1,⟨1,s,ty,li,qt,ii,pr,cutB tg⟩,next,0,0,0,0⟩ hbV.size,((za HB3).trans (hbV.mono (za HB3).size)).trans (hbA.mono (Nat.le_trans (za HB3).size hbV.size)),zk (zk (za HO3) hbV) hbA⟩
      clear hall hR hcl cellV hbA hbV
      rw [if_pos (by rfl)]
      unfold Oper.wp
      go_simp
      exact ⟨upd f 5 (.slice (some ⟨V.heap.size,0,none⟩) 1 1),by simp [upd,g4],ry_write (za HRR) hn _ ⟨V.heap.size,zp _ _ _,za HQQ⟩,ryb_write _ (za HAA) h14⟩
     | 6,ho =>
      obtain rfl:=Option.some.inj ho
      have hn:x[5]? = some true:=hall ⟨5,.data⟩ (by simp) rfl
      clear hall hR hcl cellV
      rw [if_pos (by rfl)]
      unfold Oper.wp
      go_simp
      exact ⟨upd f 6 (f 5),by simp [upd],ry_after (za HRR) 6 _ hn (by decide) (fun h=>h),ryb_lay hxi⟩
     | n + 7,ho=>simp at ho
    ·rintro x A V ⟨f,rfl,hR,hA⟩ hx hrd
     have hallx:=zac hrd hx (by kernel_rfl)
     have e6:f 6 = f 5:=hA.1 (hallx 6 (by simp))
     obtain ⟨be,e5,q1,q2,q3⟩:=hR.m (hallx 5 (by simp))
     rw [e5] at e6
     refine za HK1 _ _ ?_
     clear HK1
     simp only [e5,e6]
     have HE4:=hide q1
     have HB4:=hide q2
     have HO4:=hide q3
     have h3V:w3.heap.size ≤ V.heap.size:=by have:=(za HE4).lt be rfl; omega
     clear hR hA hallx hrd hx q1 q2 q3 e5 e6
     generalize f 0 = tm0
     generalize f 1 = tm1
     generalize f 2 = tm2
     generalize f 3 = tm3
     generalize f 4 = tm4
     refine wp_seq_k fun K hK=>?_
     have HK1:=hide hK
     clear hK
     obtain ⟨z0,z1,y0,y1,y2,y3,y4,y5,y6,y7⟩:=za HCELL V (za HB4)
     go_wp2_with fail
     refine (za HTA a l.length cap V).mono ?_
     rintro e w5 ⟨rfl,hb5⟩
     have HE5:=hide (zI (za HE4) hb5)
     have HB5:=hide ((za HB4).trans (hb5.mono (za HB4).size))
     have HO5:=hide (zk (za HO4) hb5)
     clear hb5 z0 z1 y0 y1 y2 y3 y4 y5 y6 y7
     go_wp2_with fail
     refine (za HMTT _ w5 (zM (za HO5) (by omega))).mono ?_
     rintro e w6 ⟨v6',ve,rfl,hl6,he6,hb6⟩
     have hOm:ORow w6 X.heap.size v6' FL:=by
      rcases hl6 with ⟨h1,h2⟩ | h
      ·rw [h1,show FL = l from h2]; exact zk (za HO5) hb6
      ·exact zH h (za HB5).size
     clear hl6
     obtain ⟨am,cm,rfl⟩:=zV hOm
     obtain ⟨ae,ce,rfl⟩:=zV he6
     have hbY:Below w6.heap.size w6 (w6.alloc (Obj.cells #[.int .i64 next,.int .i64 s,.int .i64 tt,.int .i64 Fl,.int .i64 li,.string tg] 78)):=(Below.refl _ _).alloc (Nat.le_refl _) _
     have HE6:=hide (zI (zI (za HE5) hb6) hbY)
     have HT6:=hide (zI he6 hbY)
     have HO6:=hide (zk hOm hbY)
     have HB6:=hide ((za HB5).trans ((hb6.trans (hbY.mono hb6.size)).mono (za HB5).size))
     have HTK:Hid (World.rangeAt (w6.alloc (Obj.cells #[.int .i64 next,.int .i64 s,.int .i64 tt,.int .i64 Fl,.int .i64 li,.string tg] 78)) w6.heap.size 0 [.int .i64 next,.int .i64 s,.int .i64 tt,.int .i64 Fl,.int .i64 li,.string tg]):=zh w6 [.int .i64 next,.int .i64 s,.int .i64 tt,.int .i64 Fl,.int .i64 li,.string tg] _
     have HTX:Hid (∃ cur,(w6.alloc (Obj.cells #[.int .i64 next,.int .i64 s,.int .i64 tt,.int .i64 Fl,.int .i64 li,.string tg] 78)).heap[w6.heap.size]? = some (.cells cur 78 (0,0))):=⟨_,heap_alloc_new w6 _⟩
     have hlt6:w6.heap.size < (w6.alloc (Obj.cells #[.int .i64 next,.int .i64 s,.int .i64 tt,.int .i64 Fl,.int .i64 li,.string tg] 78)).heap.size:=by rw [ze]; omega
     have hX6:X.heap.size ≤ w6.heap.size:=Nat.le_trans (za HB5).size hb6.size
     have h35:w3.heap.size ≤ w5.heap.size:=by have:=(za HE5).lt be rfl; omega
     clear hbY hb6 hOm he6
     go_wp2_with fail
     refine za HK1 _ _ ?_
     clear HK1
     generalize (w6.alloc (Obj.cells #[.int .i64 next,.int .i64 s,.int .i64 tt,.int .i64 Fl,.int .i64 li,.string tg] 78)) = Y at HE6 HT6 HO6 HB6 HTK HTX hlt6 ⊢
     generalize w6.heap.size = tb at HTK HTX hlt6 hX6 ⊢
     have hX3:X.heap.size ≤ w3.heap.size:=(za HB3).size
     have hS3:w.heap.size + 1 + 1 < w3.heap.size:=Nat.lt_of_lt_of_le hRX hX3
     refine wp_seq_k fun K hK=>?_
     have HT2:∀ (v14:Value) (W:World),ERow W w3.heap.size v14 (⟨1,⟨1,s,ty,li,qt,ii,pr,cutB tg⟩,next,0,0,0,0⟩ :: Ft)→ORow W X.heap.size (.slice am FL.length cm) FL→W.rangeAt tb 0 [.int .i64 next,.int .i64 s,.int .i64 tt,.int .i64 Fl,.int .i64 li,.string tg]→Below X.heap.size X W→tb < W.heap.size→w3.heap.size ≤ W.heap.size→K { tmps:=#[.agg #[.int .i64 next,.slice a l.length cap],.agg #[.int .i64 1,.int .i64 s,.int .i64 ty,.int .i64 li,.int .i64 qt,.int .i64 ii,.float .f64 pr,.string tg],.pointer (some ⟨w.heap.size,0,none⟩),.pointer (some ⟨w.heap.size + 1,0,none⟩),.pointer (some ⟨w.heap.size + 1 + 1,0,none⟩),.slice none 0 0,.slice am FL.length cm,.int .i64 0,.int .i64 pk,undef,undef,undef,undef,undef,v14,.pointer (some ⟨tb,0,none⟩),.slice ae Ft.length ce,undef,.slice (some ⟨X.heap.size,0,none⟩) 0 0,.pointer (some ⟨w.heap.size,1,none⟩),.slice a l.length cap,.slice a6 l.length c6,.agg #[.int .i64 next,.slice a l.length cap],.agg #[.int .i64 1,.int .i64 s,.int .i64 ty,.int .i64 li,.int .i64 qt,.int .i64 ii,.float .f64 pr,.string tg],.int .i64 0,.int .i64 0,.bool false,undef,undef,undef,undef,undef,undef,undef,undef,undef,.slice a6 l.length c6,.pointer (some ⟨w.heap.size + 1,5,none⟩),.int .i64 ii,.int .i64 pk,.pointer (some ⟨w.heap.size + 1,0,none⟩),.int .i64 1,.bool false,.bool false,undef,undef,undef,undef,undef,undef,undef,undef,undef,undef,undef,undef,undef,undef,undef,undef,.bool false,.bool false,undef,undef,undef,undef,undef,undef,undef,undef,undef,undef,undef,undef,undef,undef,undef,undef,.bool false,.bool false,undef,undef,undef,undef,undef,undef,undef,undef,undef,undef,undef,undef,undef,undef,undef,undef,undef,undef,undef,undef,undef,undef,undef,undef,undef,undef,undef,undef,undef,undef,undef,undef,undef,undef,undef,undef,undef,undef,undef,undef,undef,undef,undef,undef,undef,tm0,tm1,tm2,tm3,tm4,.slice (some ⟨be,0,none⟩) 1 1,.tuple #[.slice am FL.length cm,.agg #[.int .i64 next,.int .i64 s,.int .i64 tt,.int .i64 Fl,.int .i64 li,.string tg],.slice ae Ft.length ce],.slice a6 l.length c6,.agg #[.int .i64 next,.slice a l.length cap],.agg #[.int .i64 1,.int .i64 s,.int .i64 ty,.int .i64 li,.int .i64 qt,.int .i64 ii,.float .f64 pr,.string tg],.agg #[.int .i64 next,.int .i64 s,.int .i64 tt,.int .i64 qt,.int .i64 li,.string tg],.tuple #[.slice am FL.length cm,.agg #[.int .i64 next,.int .i64 s,.int .i64 tt,.int .i64 Fl,.int .i64 li,.string tg],.slice ae Ft.length ce],.slice am FL.length cm,.agg #[.int .i64 next,.int .i64 s,.int .i64 tt,.int .i64 Fl,.int .i64 li,.string tg],.slice ae Ft.length ce,.slice (some ⟨be,0,none⟩) 1 1,.slice ae Ft.length ce,v14,undef,undef,undef,undef,undef,undef,undef,undef,undef,undef,undef,undef,undef,undef,undef,undef,undef,undef,undef,undef,undef,undef,undef,undef,undef,undef,undef,undef],defers:=[] } W:=by
      intro v14 W he ho htk hbx htb h3W0
      refine hK _ _ ?_
      clear hK HTX HTK HE6 HT6 HO6 HB6 hlt6 HE5 HO5 HB5 HE4 HO4 HB4 HMTT HTA HNO
      have hlev:(⟨1,⟨1,s,ty,li,qt,ii,pr,cutB tg⟩,next,0,0,0,0⟩ :: Ft:List Ev).length ≤ 100:=by simp; omega
      generalize hevs:(⟨1,⟨1,s,ty,li,qt,ii,pr,cutB tg⟩,next,0,0,0,0⟩ :: Ft:List Ev) = evs at he hlev
      have HEVS:=hide hevs
      have HEV:=hide he
      have HLV:=hide ho
      have HTKV:=hide htk
      have HBV:=hide hbx
      clear he ho htk hbx hevs
      have q0:W.cell? ⟨tb,0,none⟩ = some (.int .i64 next):=za HTKV 0 _ rfl
      have q3:W.cell? ⟨tb,3,none⟩ = some (.int .i64 Fl):=za HTKV 3 _ rfl
      refine wp_seq_k fun K3 hK3=>?_
      have HK3:=hide hK3
      clear hK3
      by_cases hFl:0 < Fl
      ·have hbW7:Below W.heap.size W (W.alloc (Obj.cells #[.int .i64 5,.int .i64 0,.int .i64 0,.int .i64 0,.int .i64 0,.int .i64 0,.int .i64 0,.float .f64 0,.string ⟨#[]⟩,.int .i64 next,.int .i64 0,.int .i64 Fl,.int .i64 0,.int .i64 0] 43)):=(Below.refl _ _).alloc (Nat.le_refl _) _
       have hy2:World.cell? (W.alloc (Obj.cells #[.int .i64 5,.int .i64 0,.int .i64 0,.int .i64 0,.int .i64 0,.int .i64 0,.int .i64 0,.float .f64 0,.string ⟨#[]⟩,.int .i64 next,.int .i64 0,.int .i64 Fl,.int .i64 0,.int .i64 0] 43)) ⟨w.heap.size + 1,2,none⟩ = some (.int .i64 ty):=(za HCELL _ ((za HBV).trans (hbW7.mono (za HBV).size))).2.2.2.2.1
       have HEW:=hide (zI (za HEV) hbW7)
       have HLW:=hide (zk (za HLV) hbW7)
       have HBW7:=hide ((za HBV).trans (hbW7.mono (za HBV).size))
       have HTKW:=hide (zb (za HTKV) hbW7 htb)
       have H3W:Hid (w3.heap.size ≤ (W.alloc (Obj.cells #[.int .i64 5,.int .i64 0,.int .i64 0,.int .i64 0,.int .i64 0,.int .i64 0,.int .i64 0,.float .f64 0,.string ⟨#[]⟩,.int .i64 next,.int .i64 0,.int .i64 Fl,.int .i64 0,.int .i64 0] 43)).heap.size):=Nat.le_trans h3W0 hbW7.size
       have HXR:Hid (World.rangeAt (W.alloc (Obj.cells #[.int .i64 5,.int .i64 0,.int .i64 0,.int .i64 0,.int .i64 0,.int .i64 0,.int .i64 0,.float .f64 0,.string ⟨#[]⟩,.int .i64 next,.int .i64 0,.int .i64 Fl,.int .i64 0,.int .i64 0] 43)) W.heap.size 0 (Ev.vs ⟨5,zCm,next,0,Fl,0,0⟩)):=zh W (Ev.vs ⟨5,zCm,next,0,Fl,0,0⟩) _
       have HXT:Hid (World.there (W.alloc (Obj.cells #[.int .i64 5,.int .i64 0,.int .i64 0,.int .i64 0,.int .i64 0,.int .i64 0,.int .i64 0,.float .f64 0,.string ⟨#[]⟩,.int .i64 next,.int .i64 0,.int .i64 Fl,.int .i64 0,.int .i64 0] 43)) W.heap.size 0 14):=zw W (Ev.vs ⟨5,zCm,next,0,Fl,0,0⟩) _
       have htb7:tb < (W.alloc (Obj.cells #[.int .i64 5,.int .i64 0,.int .i64 0,.int .i64 0,.int .i64 0,.int .i64 0,.int .i64 0,.float .f64 0,.string ⟨#[]⟩,.int .i64 next,.int .i64 0,.int .i64 Fl,.int .i64 0,.int .i64 0] 43)).heap.size:=Nat.lt_of_lt_of_le htb hbW7.size
       have hebX:X.heap.size ≤ W.heap.size:=(za HBV).size
       have heb7:W.heap.size < (W.alloc (Obj.cells #[.int .i64 5,.int .i64 0,.int .i64 0,.int .i64 0,.int .i64 0,.int .i64 0,.int .i64 0,.float .f64 0,.string ⟨#[]⟩,.int .i64 next,.int .i64 0,.int .i64 Fl,.int .i64 0,.int .i64 0] 43)).heap.size:=by rw [ze]; omega
       have htbe:tb ≠ W.heap.size:=by omega
       have HXB:Hid (∃ cur,(W.alloc (Obj.cells #[.int .i64 5,.int .i64 0,.int .i64 0,.int .i64 0,.int .i64 0,.int .i64 0,.int .i64 0,.float .f64 0,.string ⟨#[]⟩,.int .i64 next,.int .i64 0,.int .i64 Fl,.int .i64 0,.int .i64 0] 43)).heap[W.heap.size]? = some (.cells cur 43 (0,0))):=⟨_,heap_alloc_new W _⟩
       have hebE:Hid (∀ g,v14.ownBlock = some g→g ≠ W.heap.size):=fun g hg=>by have:=((za HEV).lt g hg).2; omega
       have hsf:=sfl
       clear hbW7
       go_wp2_with fail
       refine (zaZ ty _).mono ?_
       rintro e w' ⟨rfl,hw'⟩
       rw [hw']
       clear hw' w' q0 q3
       generalize (W.alloc (Obj.cells #[.int .i64 5,.int .i64 0,.int .i64 0,.int .i64 0,.int .i64 0,.int .i64 0,.int .i64 0,.float .f64 0,.string ⟨#[]⟩,.int .i64 next,.int .i64 0,.int .i64 Fl,.int .i64 0,.int .i64 0] 43)) = W7 at HEW HLW HBW7 HTKW H3W HXR HXT HXB htb7 heb7 hy2 ⊢
       generalize W.heap.size = eb at HXR HXT HXB hebX heb7 htbe hebE ⊢
       clear hy2
       cases hrb:zaJ ty
       ·have x0:W7.cell? ⟨eb,0,none⟩ = some (.int .i64 5):=za HXR 0 _ rfl
        have x1:W7.cell? ⟨eb,1,none⟩ = some (.int .i64 0):=za HXR 1 _ rfl
        have x2:W7.cell? ⟨eb,2,none⟩ = some (.int .i64 0):=za HXR 2 _ rfl
        have x3:W7.cell? ⟨eb,3,none⟩ = some (.int .i64 0):=za HXR 3 _ rfl
        have x4:W7.cell? ⟨eb,4,none⟩ = some (.int .i64 0):=za HXR 4 _ rfl
        have x5:W7.cell? ⟨eb,5,none⟩ = some (.int .i64 0):=za HXR 5 _ rfl
        have x6:W7.cell? ⟨eb,6,none⟩ = some (.int .i64 0):=za HXR 6 _ rfl
        have x7:W7.cell? ⟨eb,7,none⟩ = some (.float .f64 0):=za HXR 7 _ rfl
        have x8:W7.cell? ⟨eb,8,none⟩ = some (.string ⟨#[]⟩):=za HXR 8 _ rfl
        have x9:W7.cell? ⟨eb,9,none⟩ = some (.int .i64 next):=za HXR 9 _ rfl
        have x10:W7.cell? ⟨eb,10,none⟩ = some (.int .i64 0):=za HXR 10 _ rfl
        have x11:W7.cell? ⟨eb,11,none⟩ = some (.int .i64 Fl):=za HXR 11 _ rfl
        have x12:W7.cell? ⟨eb,12,none⟩ = some (.int .i64 0):=za HXR 12 _ rfl
        have x13:W7.cell? ⟨eb,13,none⟩ = some (.int .i64 0):=za HXR 13 _ rfl
        have HEA:=hide ((za HEW).alloc (Obj.cells #[.int .i64 5,.int .i64 0,.int .i64 0,.int .i64 0,.int .i64 0,.int .i64 0,.int .i64 0,.float .f64 0,.string ⟨#[]⟩,.int .i64 next,.int .i64 0,.int .i64 Fl,.int .i64 0,.int .i64 0] 43))
        have HBA:Hid (Below W7.heap.size W7 (W7.alloc (Obj.cells #[.int .i64 5,.int .i64 0,.int .i64 0,.int .i64 0,.int .i64 0,.int .i64 0,.int .i64 0,.float .f64 0,.string ⟨#[]⟩,.int .i64 next,.int .i64 0,.int .i64 Fl,.int .i64 0,.int .i64 0] 43))):=(Below.refl _ _).alloc (Nat.le_refl _) _
        have h3W:w3.heap.size ≤ W7.heap.size:=za H3W
        go_wp2_with (at_builtin; go_must (refine wpList_append_own _ rfl _ _ 36 rfl w3.heap.size 43 j0 _ 14 120 Tryz.underlying36 hj0 hy0 hy1 hy2 rfl (by decide) v14 evs.length (evs.flatMap Ev.vs) rfl (za HEA) ⟨W7.heap.size,0,none⟩ 1 1 (Ev.vs ⟨5,zCm,next,0,Fl,0,0⟩) rfl rfl (cellsQ W7 (Ev.vs ⟨5,zCm,next,0,Fl,0,0⟩) 43) (one_ev ⟨5,zCm,next,0,Fl,0,0⟩) (by unfold maxLen; omega) (by omega) (Nat.le_trans h3W (za HBA).size) ?_); intro v5 w9 hown5 hg5 _; have HO9:=hide hown5; have HG9:=hide hg5; clear hown5 hg5)
        have HE9:Hid (ERow w9 w3.heap.size v5 (evs ++ [⟨5,zCm,next,0,Fl,0,0⟩])):=by
         show w9.ownsRow _ _ _ _ (evs ++ [(⟨5,zCm,next,0,Fl,0,0⟩:Ev)]).length _
         rw [List.length_append,List.flatMap_append]
         simpa using za HO9
        have HL9:=hide (World.ownsRow.kept (zk (za HLW) (za HBA)) (za HG9) (zB (zk (za HLW) (za HBA)) (za HEA) (by decide)))
        have HB9:Hid (Below X.heap.size X w9):=by
         have h1:=(za HBW7).trans ((za HBA).mono (za HBW7).size)
         exact h1.grown (za HG9) h1.size (fun g hg=>Nat.le_trans hX3 ((za HEA).lt g hg).1)
        clear HO9 HG9 HEA HBA
        go_wp2_with fail
        refine za HK3 _ _ ?_
        clear HK3
        obtain ⟨z0,z1,y0,y1,y2,y3,y4,y5,y6,y7⟩:=za HCELL w9 (za HB9)
        have hTW:=zf (za HB).2.2.2.2.1 (za HB9) hRX
        obtain ⟨p0,x0,f0⟩:=zc hTW (j:=0) (by omega)
        obtain ⟨p1,x1,f1⟩:=zc hTW (j:=1) (by omega)
        have hBW:=(za HB).2.2.2.2.2.trans ((za HB9).mono (za HB).2.2.2.2.2.size)
        have HWF:Hid (Below w.heap.size w ((w9.setCell ⟨w.heap.size + 1 + 1,0,none⟩ (.int .i64 (next + 1))).setCell ⟨w.heap.size + 1 + 1,1,none⟩ (.slice am FL.length cm))):=(hBW.setCell (p:=⟨w.heap.size + 1 + 1,0,none⟩) (show w.heap.size ≤ w.heap.size + 1 + 1 by omega) _).setCell (p:=⟨w.heap.size + 1 + 1,1,none⟩) (show w.heap.size ≤ w.heap.size + 1 + 1 by omega) _
        have HEF:Hid (ERow ((w9.setCell ⟨w.heap.size + 1 + 1,0,none⟩ (.int .i64 (next + 1))).setCell ⟨w.heap.size + 1 + 1,1,none⟩ (.slice am FL.length cm)) w.heap.size v5 (evs ++ [⟨5,zCm,next,0,Fl,0,0⟩])):=zH (zbu (zbu (za HE9) hS3 0 _) hS3 1 _) (by omega)
        have HLF:Hid (ORow ((w9.setCell ⟨w.heap.size + 1 + 1,0,none⟩ (.int .i64 (next + 1))).setCell ⟨w.heap.size + 1 + 1,1,none⟩ (.slice am FL.length cm)) w.heap.size (.slice am FL.length cm) (FL)):=zH (zaD (zaD (za HL9) hRX 0 _) hRX 1 _) hXw
        have HD0:Hid (((w9.setCell ⟨w.heap.size + 1 + 1,0,none⟩ (.int .i64 (next + 1))).setCell ⟨w.heap.size + 1 + 1,1,none⟩ (.slice am FL.length cm)).cell? ⟨w.heap.size + 1 + 1,0,none⟩ = some (.int .i64 (next + 1))):=(World.cell?_setCell_other _ _ _ _ (zX (by decide))).trans (World.cell?_setCell_same _ _ _ x0)
        have HD1:Hid (((w9.setCell ⟨w.heap.size + 1 + 1,0,none⟩ (.int .i64 (next + 1))).setCell ⟨w.heap.size + 1 + 1,1,none⟩ (.slice am FL.length cm)).cell? ⟨w.heap.size + 1 + 1,1,none⟩ = some (.slice am FL.length cm)):=World.cell?_setCell_same _ _ _ ((World.cell?_setCell_other _ _ _ _ (zX (by decide))).trans x1)
        clear hTW hBW y0 y1 y2 y3 y4 y5 y6 y7
        go_wp2_with fail
        have d0:=za HD0
        have d1:=za HD1
        try simp only [Exit.inBlock,Exit.then]
        refine bodyPost_ret (by simp [results,Tryz.results22,go_sem,d0,d1]; try rfl) rfl ?_
        obtain ⟨rfl,hsL9,hsE9⟩:=za HST
        rw [if_neg (fun h=>by rw [hrb] at h; cases h.2)] at hsL9
        rw [if_pos hFl,if_neg (by rw [hrb]; simp),za HEVS] at hsE9
        subst hsL9 hsE9
        exact ⟨_,_,rfl,za HLF,za HEF,za HWF⟩
       ·have xe0:W7.cell? ⟨eb,0,none⟩ = some (.int .i64 5):=za HXR 0 _ rfl
        have fe0:W7.frozen? ⟨eb,0,none⟩ = false:=(za HXT 0 (by omega)).2
        have HEW8:Hid (ERow (W7.setCell ⟨eb,0,none⟩ (.int .i64 4)) w3.heap.size v14 evs):=zt (za HEW) (fun e=>za hebE eb e.symm rfl) 0 _
        have HLW8:Hid (ORow (W7.setCell ⟨eb,0,none⟩ (.int .i64 4)) X.heap.size (.slice am FL.length cm) FL):=zt (za HLW) (zj (za HLW) (za HXB) (by decide)) 0 _
        have HBW8:Hid (Below X.heap.size X (W7.setCell ⟨eb,0,none⟩ (.int .i64 4))):=(za HBW7).setCell (p:=⟨eb,0,none⟩) hebX _
        have HTKW8:Hid (World.rangeAt (W7.setCell ⟨eb,0,none⟩ (.int .i64 4)) tb 0 [.int .i64 next,.int .i64 s,.int .i64 tt,.int .i64 Fl,.int .i64 li,.string tg]):=fun j u hj=>(World.cell?_setCell_other _ _ _ _ (fun e=>htbe (congrArg Addr.block e).symm)).trans (za HTKW j u hj)
        have HXR8:Hid (World.rangeAt (W7.setCell ⟨eb,0,none⟩ (.int .i64 4)) eb 0 (Ev.vs ⟨4,zCm,next,0,Fl,0,0⟩)):=by have:=zaP (j:=0) (u:=.int .i64 4) (za HXR) (by rw [Ev.len]; decide); exact this
        have H3W8:Hid (w3.heap.size ≤ (W7.setCell ⟨eb,0,none⟩ (.int .i64 4)).heap.size):=by have:=za H3W; simp only [World.setCell,Array.size_modify]; exact this
        have heb8:eb < (W7.setCell ⟨eb,0,none⟩ (.int .i64 4)).heap.size:=by simp only [World.setCell,Array.size_modify]; exact heb7
        have htb8:tb < (W7.setCell ⟨eb,0,none⟩ (.int .i64 4)).heap.size:=by simp only [World.setCell,Array.size_modify]; exact htb7
        clear HEW HLW HBW7 HTKW HXR H3W HXT HXB
        go_wp2_with fail
        clear xe0 fe0
        generalize (W7.setCell ⟨eb,0,none⟩ (.int .i64 4)) = W8 at HEW8 HLW8 HBW8 HTKW8 HXR8 H3W8 heb8 htb8 ⊢
        have HLW:=hide (za HLW8)
        have HTKW:=hide (za HTKW8)
        refine zo (RZBA (fun f=>{ tmps:=#[.agg #[.int .i64 next,.slice a l.length cap],.agg #[.int .i64 1,.int .i64 s,.int .i64 ty,.int .i64 li,.int .i64 qt,.int .i64 ii,.float .f64 pr,.string tg],.pointer (some ⟨w.heap.size,0,none⟩),.pointer (some ⟨w.heap.size + 1,0,none⟩),.pointer (some ⟨w.heap.size + 1 + 1,0,none⟩),.slice none 0 0,f 6,.int .i64 0,.int .i64 pk,undef,undef,undef,undef,undef,v14,.pointer (some ⟨tb,0,none⟩),.slice ae Ft.length ce,.pointer (some ⟨eb,0,none⟩),.slice (some ⟨X.heap.size,0,none⟩) 0 0,.pointer (some ⟨w.heap.size,1,none⟩),.slice a l.length cap,.slice a6 l.length c6,.agg #[.int .i64 next,.slice a l.length cap],.agg #[.int .i64 1,.int .i64 s,.int .i64 ty,.int .i64 li,.int .i64 qt,.int .i64 ii,.float .f64 pr,.string tg],.int .i64 0,.int .i64 0,.bool false,undef,undef,undef,undef,undef,undef,undef,undef,undef,.slice a6 l.length c6,.pointer (some ⟨w.heap.size + 1,5,none⟩),.int .i64 ii,.int .i64 pk,.pointer (some ⟨w.heap.size + 1,0,none⟩),.int .i64 1,.bool false,.bool false,undef,undef,undef,undef,undef,undef,undef,undef,undef,undef,undef,undef,undef,undef,undef,undef,.bool false,.bool false,undef,undef,undef,undef,undef,undef,undef,undef,undef,undef,undef,undef,undef,undef,undef,undef,.bool false,.bool false,undef,undef,undef,undef,undef,undef,undef,undef,undef,undef,undef,undef,undef,undef,undef,undef,undef,undef,undef,undef,undef,undef,undef,undef,undef,undef,undef,undef,undef,undef,undef,undef,undef,undef,undef,undef,undef,undef,undef,undef,undef,undef,undef,undef,undef,tm0,tm1,tm2,tm3,tm4,.slice (some ⟨be,0,none⟩) 1 1,.tuple #[.slice am FL.length cm,.agg #[.int .i64 next,.int .i64 s,.int .i64 tt,.int .i64 Fl,.int .i64 li,.string tg],.slice ae Ft.length ce],.slice a6 l.length c6,.agg #[.int .i64 next,.slice a l.length cap],.agg #[.int .i64 1,.int .i64 s,.int .i64 ty,.int .i64 li,.int .i64 qt,.int .i64 ii,.float .f64 pr,.string tg],.agg #[.int .i64 next,.int .i64 s,.int .i64 tt,.int .i64 qt,.int .i64 li,.string tg],.tuple #[.slice am FL.length cm,.agg #[.int .i64 next,.int .i64 s,.int .i64 tt,.int .i64 Fl,.int .i64 li,.string tg],.slice ae Ft.length ce],.slice am FL.length cm,.agg #[.int .i64 next,.int .i64 s,.int .i64 tt,.int .i64 Fl,.int .i64 li,.string tg],.slice ae Ft.length ce,.slice (some ⟨be,0,none⟩) 1 1,.slice ae Ft.length ce,v14,.pointer (some ⟨tb,3,none⟩),.int .i64 Fl,.bool true,.pointer (some ⟨tb,0,none⟩),.int .i64 next,.pointer (some ⟨tb,3,none⟩),.int .i64 Fl,.agg #[.int .i64 5,.int .i64 0,.int .i64 0,.int .i64 0,.int .i64 0,.int .i64 0,.int .i64 0,.float .f64 0,.string ⟨#[]⟩,.int .i64 next,.int .i64 0,.int .i64 Fl,.int .i64 0,.int .i64 0],.pointer (some ⟨w.heap.size + 1,2,none⟩),.int .i64 ty,.bool true,.pointer (some ⟨eb,0,none⟩),f 0,f 1,f 2,f 3,f 4,f 5,undef,undef,undef,undef,undef,undef,undef,undef,undef,undef],defers:=[] }) (CZ (.slice am FL.length cm) (.agg #[.int .i64 next,.int .i64 s,.int .i64 tt,.int .i64 Fl,.int .i64 li,.string tg])) W8 FL ⟨next,s,tt,Fl,li,tg⟩ (.slice am FL.length cm)) (by kernel_rfl) ?_ ?_ ?_
        ·exact ⟨fun j=>if j = 6 then .slice am FL.length cm else undef,rfl,rz_start,ryb_start rfl⟩
        rotate_left
        ·rintro x A V i op ⟨f,rfl,hR,hA⟩ hcl hx ho hxi hall
         have HRR:=hide hR
         have HAA:=hide hA
         clear hA
         have cellV:∀ (p:Addr) u,W8.cell? p = some u→V.cell? p = some u:=fun p u hu=>(hR.bel.cell (World.block_lt_of_cell? W8 _ hu)).trans hu
         match i,ho with
         | 0,ho =>
          obtain rfl:=Option.some.inj ho
          clear hall hR hcl cellV
          rw [if_pos (by rfl)]
          unfold Oper.wp
          go_simp
          exact ⟨upd f 0 (.slice (some ⟨V.heap.size,0,none⟩) 0 0),by simp [upd],rz_0 (za HRR) hxi (fun _=>trivial),zW _ (za HAA) (by decide) (by decide)⟩
         | 1,ho =>
          obtain rfl:=Option.some.inj ho
          have g6:f 6 = .slice am FL.length cm:=(za HAA).2 (zx hcl 12 1 6 (by kernel_rfl) hx (by simp) hxi)
          clear hall hR hcl cellV
          rw [if_pos (by rfl)]
          unfold Oper.wp
          go_simp
          exact ⟨upd f 1 (.slice am FL.length cm),by simp [upd,g6],rz_val (za HRR) 1 _ rfl (by decide) (by decide) (by decide) (by decide),zW _ (za HAA) (by decide) (by decide)⟩
         | 2,ho =>
          obtain rfl:=Option.some.inj ho
          have k0:x[0]? = some true:=hall ⟨0,.data⟩ (by simp) rfl
          have g1:f 1 = .slice am FL.length cm:=hR.c 1 (hall ⟨1,.data⟩ (by simp) rfl)
          have n5:x[5]? = some false:=zx hcl 12 2 5 (by kernel_rfl) hx (by simp) hxi
          have HO0:=hide (hR.m0 k0 hxi)
          have hbV:=hR.bel
          have HRDV:Hid (∀ ad,am = some ad→∀ j u,(FL.flatMap Od.vs)[j]? = some u→V.cell? (ad.add j) = some u):=fun ad had=>by
           have h:=zM (zk (za HLW) hbV) (by omega)
           rw [had] at h
           exact rd_src h
          have HSLV:=hide (oRow_sl (za HLW))
          clear hall hR hcl cellV
          rw [if_pos (by rfl)]
          rcases za HSLV with h | ⟨ad,nn,cc,h⟩
          ·simp only [Value.slice.injEq] at h
           have hL:FL = []:=List.length_eq_zero_iff.1 h.2.1
           refine zcj (.tmp 155) (.tmp 156) 44 rfl W8.heap.size 78 i0 6 Tryz.underlying44 hi0 (f 0) 0 [] rfl (za HO0) (by show f 1 = _; rw [g1,h.1,h.2.1,h.2.2]) ?_
           exact ⟨upd f 2 (f 0),rfl,rz_2 (za HRR) k0 hxi n5 (fun _=>trivial) (by rw [hL]; exact za HO0) (World.grownBy.refl _ _),zW _ (za HAA) (by decide) (by decide)⟩
          ·simp only [Value.slice.injEq] at h
           refine wp_append_own V (.tmp 155) (.tmp 156) 44 rfl W8.heap.size 78 i0 _ 6 56 Tryz.underlying44 hi0 hz0 hz1 hz2 rfl (by decide) (f 0) 0 [] rfl (za HO0) ad FL.length cm (FL.flatMap Od.vs) (by show f 1 = _; rw [g1,h.1]) (by rw [zJ Od.len]) (za HRDV ad h.1) (zaF FL) (by unfold maxLen; omega) (by omega) hbV.size ?_
           intro v' w' hown hgr _
           refine ⟨upd f 2 v',rfl,rz_2 (za HRR) k0 hxi n5 (fun _=>trivial) ?_ hgr,zW _ (za HAA) (by decide) (by decide)⟩
           show w'.ownsRow _ _ _ _ FL.length _
           simpa using hown
         | 3,ho =>
          obtain rfl:=Option.some.inj ho
          have t0:=cellV ⟨tb,0,none⟩ _ (za HTKW 0 _ rfl)
          have t1:=cellV ⟨tb,1,none⟩ _ (za HTKW 1 _ rfl)
          have t2:=cellV ⟨tb,2,none⟩ _ (za HTKW 2 _ rfl)
          have t3:=cellV ⟨tb,3,none⟩ _ (za HTKW 3 _ rfl)
          have t4:=cellV ⟨tb,4,none⟩ _ (za HTKW 4 _ rfl)
          have t5:=cellV ⟨tb,5,none⟩ _ (za HTKW 5 _ rfl)
          clear hall hR hcl cellV
          rw [if_pos (by rfl)]
          unfold Oper.wp
          go_simp
          exact ⟨upd f 3 (.agg #[.int .i64 next,.int .i64 s,.int .i64 tt,.int .i64 Fl,.int .i64 li,.string tg]),by simp [upd],rz_val (za HRR) 3 _ rfl (by decide) (by decide) (by decide) (by decide),zW _ (za HAA) (by decide) (by decide)⟩
         | 4,ho =>
          obtain rfl:=Option.some.inj ho
          have g3:f 3 = .agg #[.int .i64 next,.int .i64 s,.int .i64 tt,.int .i64 Fl,.int .i64 li,.string tg]:=hR.c 3 (hall ⟨3,.data⟩ (by simp) rfl)
          have n5:x[5]? = some false:=zx hcl 12 4 5 (by kernel_rfl) hx (by simp) hxi
          clear hall hR hcl cellV
          rw [if_pos (by rfl)]
          unfold Oper.wp
          go_simp
          exact ⟨upd f 4 (.slice (some ⟨V.heap.size,0,none⟩) 1 1),by simp [upd,g3],rz_4 (za HRR) hxi n5 (fun _=>trivial),zW _ (za HAA) (by decide) (by decide)⟩
         | 5,ho =>
          obtain rfl:=Option.some.inj ho
          have k2:x[2]? = some true:=hall ⟨2,.data⟩ (by simp) rfl
          obtain ⟨b4,g4,hb1,hb2,hb3,-⟩:=hR.m4 (hall ⟨4,.data⟩ (by simp) rfl) hxi
          have HO2:=hide (hR.m2 k2 hxi)
          have hbV:=hR.bel
          have h6:x[6]? = some false:=zx hcl 12 5 6 (by kernel_rfl) hx (by simp) hxi
          have HSRC:Hid (∀ j u,(Od.vs ⟨next,s,tt,Fl,li,tg⟩)[j]? = some u→V.cell? ((⟨b4,0,none⟩:Addr).add j) = some u):=fun j u hu=>by
           have:=hb3 j u hu
           rw [Addr.add_mid]; exact this
          clear hall hR hcl hb3 cellV
          rw [if_pos (by rfl)]
          refine wp_append_own V (.tmp 157) (.tmp 159) 44 rfl W8.heap.size 78 i0 _ 6 56 Tryz.underlying44 hi0 hz0 hz1 hz2 rfl (by decide) (f 2) FL.length (FL.flatMap Od.vs) rfl (za HO2) ⟨b4,0,none⟩ 1 1 (Od.vs ⟨next,s,tt,Fl,li,tg⟩) (by show f 4 = _; exact g4) rfl (za HSRC) (one_od ⟨next,s,tt,Fl,li,tg⟩) (by unfold maxLen; omega) (by omega) hbV.size ?_
          intro v' w' hown hgr _
          refine ⟨upd f 5 v',rfl,rz_5 (za HRR) k2 hxi (fun _=>trivial) ?_ hgr,ryb_write v' (za HAA) h6⟩
          show w'.ownsRow _ _ _ _ (FL ++ [(⟨next,s,tt,Fl,li,tg⟩:Od)]).length _
          rw [List.length_append,List.flatMap_append]
          simpa using hown
         | 6,ho =>
          obtain rfl:=Option.some.inj ho
          have k5:x[5]? = some true:=hall ⟨5,.data⟩ (by simp) rfl
          clear hall hR hcl cellV
          rw [if_pos (by rfl)]
          unfold Oper.wp
          go_simp
          exact ⟨upd f 6 (f 5),by simp [upd],rz_val (za HRR) 6 _ trivial (by decide) (by decide) (by decide) (by decide),ryb_lay hxi⟩
         | n + 7,ho=>simp at ho
        ·rintro x A V ⟨f,rfl,hR,hA⟩ hx hrd
         have hallx:=zac hrd hx (by kernel_rfl)
         have e6:f 6 = f 5:=hA.1 (hallx 6 (by simp))
         have hO5:=hR.m5 (hallx 5 (by simp))
         have hbV:=hR.bel
         obtain ⟨aL,cL,hvL⟩:=zV hO5
         rw [hvL] at hO5 e6
         generalize (FL ++ [(⟨next,s,tt,Fl,li,tg⟩:Od)]).length = nL at hO5 e6
         simp only [e6]
         have HLW:=hide (zH hO5 (show X.heap.size ≤ W8.heap.size from (za HBW8).size))
         have HEW:=hide (zI (za HEW8) hbV)
         have HBW7:=hide ((za HBW8).trans (hbV.mono (za HBW8).size))
         have HXR:=hide (zb (za HXR8) hbV heb8)
         have H3W:Hid (w3.heap.size ≤ V.heap.size):=Nat.le_trans (za H3W8) hbV.size
         clear hR hA hallx hrd hx hO5 hbV e6 hvL
         generalize f 0 = tn0
         generalize f 1 = tn1
         generalize f 2 = tn2
         generalize f 3 = tn3
         generalize f 4 = tn4
         generalize f 5 = tn5
         have x0:V.cell? ⟨eb,0,none⟩ = some (.int .i64 4):=za HXR 0 _ rfl
         have x1:V.cell? ⟨eb,1,none⟩ = some (.int .i64 0):=za HXR 1 _ rfl
         have x2:V.cell? ⟨eb,2,none⟩ = some (.int .i64 0):=za HXR 2 _ rfl
         have x3:V.cell? ⟨eb,3,none⟩ = some (.int .i64 0):=za HXR 3 _ rfl
         have x4:V.cell? ⟨eb,4,none⟩ = some (.int .i64 0):=za HXR 4 _ rfl
         have x5:V.cell? ⟨eb,5,none⟩ = some (.int .i64 0):=za HXR 5 _ rfl
         have x6:V.cell? ⟨eb,6,none⟩ = some (.int .i64 0):=za HXR 6 _ rfl
         have x7:V.cell? ⟨eb,7,none⟩ = some (.float .f64 0):=za HXR 7 _ rfl
         have x8:V.cell? ⟨eb,8,none⟩ = some (.string ⟨#[]⟩):=za HXR 8 _ rfl
         have x9:V.cell? ⟨eb,9,none⟩ = some (.int .i64 next):=za HXR 9 _ rfl
         have x10:V.cell? ⟨eb,10,none⟩ = some (.int .i64 0):=za HXR 10 _ rfl
         have x11:V.cell? ⟨eb,11,none⟩ = some (.int .i64 Fl):=za HXR 11 _ rfl
         have x12:V.cell? ⟨eb,12,none⟩ = some (.int .i64 0):=za HXR 12 _ rfl
         have x13:V.cell? ⟨eb,13,none⟩ = some (.int .i64 0):=za HXR 13 _ rfl
         have HEA:=hide ((za HEW).alloc (Obj.cells #[.int .i64 4,.int .i64 0,.int .i64 0,.int .i64 0,.int .i64 0,.int .i64 0,.int .i64 0,.float .f64 0,.string ⟨#[]⟩,.int .i64 next,.int .i64 0,.int .i64 Fl,.int .i64 0,.int .i64 0] 43))
         have HBA:Hid (Below V.heap.size V (V.alloc (Obj.cells #[.int .i64 4,.int .i64 0,.int .i64 0,.int .i64 0,.int .i64 0,.int .i64 0,.int .i64 0,.float .f64 0,.string ⟨#[]⟩,.int .i64 next,.int .i64 0,.int .i64 Fl,.int .i64 0,.int .i64 0] 43))):=(Below.refl _ _).alloc (Nat.le_refl _) _
         have h3W:w3.heap.size ≤ V.heap.size:=za H3W
         go_wp2_with (at_builtin; go_must (refine wpList_append_own _ rfl _ _ 36 rfl w3.heap.size 43 j0 _ 14 120 Tryz.underlying36 hj0 hy0 hy1 hy2 rfl (by decide) v14 evs.length (evs.flatMap Ev.vs) rfl (za HEA) ⟨V.heap.size,0,none⟩ 1 1 (Ev.vs ⟨4,zCm,next,0,Fl,0,0⟩) rfl rfl (cellsQ V (Ev.vs ⟨4,zCm,next,0,Fl,0,0⟩) 43) (one_ev ⟨4,zCm,next,0,Fl,0,0⟩) (by unfold maxLen; omega) (by omega) (Nat.le_trans h3W (za HBA).size) ?_); intro v5 w9 hown5 hg5 _; have HO9:=hide hown5; have HG9:=hide hg5; clear hown5 hg5)
         have HE9:Hid (ERow w9 w3.heap.size v5 (evs ++ [⟨4,zCm,next,0,Fl,0,0⟩])):=by
          show w9.ownsRow _ _ _ _ (evs ++ [(⟨4,zCm,next,0,Fl,0,0⟩:Ev)]).length _
          rw [List.length_append,List.flatMap_append]
          simpa using za HO9
         have HL9:=hide (World.ownsRow.kept (zk (za HLW) (za HBA)) (za HG9) (zB (zk (za HLW) (za HBA)) (za HEA) (by decide)))
         have HB9:Hid (Below X.heap.size X w9):=by
          have h1:=(za HBW7).trans ((za HBA).mono (za HBW7).size)
          exact h1.grown (za HG9) h1.size (fun g hg=>Nat.le_trans hX3 ((za HEA).lt g hg).1)
         clear HO9 HG9 HEA HBA
         go_wp2_with fail
         refine za HK3 _ _ ?_
         clear HK3
         obtain ⟨z0,z1,y0,y1,y2,y3,y4,y5,y6,y7⟩:=za HCELL w9 (za HB9)
         have hTW:=zf (za HB).2.2.2.2.1 (za HB9) hRX
         obtain ⟨p0,x0,f0⟩:=zc hTW (j:=0) (by omega)
         obtain ⟨p1,x1,f1⟩:=zc hTW (j:=1) (by omega)
         have hBW:=(za HB).2.2.2.2.2.trans ((za HB9).mono (za HB).2.2.2.2.2.size)
         have HWF:Hid (Below w.heap.size w ((w9.setCell ⟨w.heap.size + 1 + 1,0,none⟩ (.int .i64 (next + 1))).setCell ⟨w.heap.size + 1 + 1,1,none⟩ (.slice aL nL cL))):=(hBW.setCell (p:=⟨w.heap.size + 1 + 1,0,none⟩) (show w.heap.size ≤ w.heap.size + 1 + 1 by omega) _).setCell (p:=⟨w.heap.size + 1 + 1,1,none⟩) (show w.heap.size ≤ w.heap.size + 1 + 1 by omega) _
         have HEF:Hid (ERow ((w9.setCell ⟨w.heap.size + 1 + 1,0,none⟩ (.int .i64 (next + 1))).setCell ⟨w.heap.size + 1 + 1,1,none⟩ (.slice aL nL cL)) w.heap.size v5 (evs ++ [⟨4,zCm,next,0,Fl,0,0⟩])):=zH (zbu (zbu (za HE9) hS3 0 _) hS3 1 _) (by omega)
         have HLF:Hid (ORow ((w9.setCell ⟨w.heap.size + 1 + 1,0,none⟩ (.int .i64 (next + 1))).setCell ⟨w.heap.size + 1 + 1,1,none⟩ (.slice aL nL cL)) w.heap.size (.slice aL nL cL) (FL ++ [⟨next,s,tt,Fl,li,tg⟩])):=zH (zaD (zaD (za HL9) hRX 0 _) hRX 1 _) hXw
         have HD0:Hid (((w9.setCell ⟨w.heap.size + 1 + 1,0,none⟩ (.int .i64 (next + 1))).setCell ⟨w.heap.size + 1 + 1,1,none⟩ (.slice aL nL cL)).cell? ⟨w.heap.size + 1 + 1,0,none⟩ = some (.int .i64 (next + 1))):=(World.cell?_setCell_other _ _ _ _ (zX (by decide))).trans (World.cell?_setCell_same _ _ _ x0)
         have HD1:Hid (((w9.setCell ⟨w.heap.size + 1 + 1,0,none⟩ (.int .i64 (next + 1))).setCell ⟨w.heap.size + 1 + 1,1,none⟩ (.slice aL nL cL)).cell? ⟨w.heap.size + 1 + 1,1,none⟩ = some (.slice aL nL cL)):=World.cell?_setCell_same _ _ _ ((World.cell?_setCell_other _ _ _ _ (zX (by decide))).trans x1)
         clear hTW hBW y0 y1 y2 y3 y4 y5 y6 y7
         go_wp2_with fail
         have d0:=za HD0
         have d1:=za HD1
         try simp only [Exit.inBlock,Exit.then]
         refine bodyPost_ret (by simp [results,Tryz.results22,go_sem,d0,d1]; try rfl) rfl ?_
         obtain ⟨rfl,hsL9,hsE9⟩:=za HST
         rw [if_pos ⟨hFl,hrb⟩] at hsL9
         rw [if_pos hFl,if_pos hrb,za HEVS] at hsE9
         subst hsL9 hsE9
         exact ⟨_,_,rfl,za HLF,za HEF,za HWF⟩
      ·go_wp2_with fail
       refine za HK3 _ _ ?_
       clear HK3
       obtain ⟨z0,z1,y0,y1,y2,y3,y4,y5,y6,y7⟩:=za HCELL W (za HBV)
       have hTW:=zf (za HB).2.2.2.2.1 (za HBV) hRX
       obtain ⟨p0,x0,f0⟩:=zc hTW (j:=0) (by omega)
       obtain ⟨p1,x1,f1⟩:=zc hTW (j:=1) (by omega)
       have hBW:=(za HB).2.2.2.2.2.trans ((za HBV).mono (za HB).2.2.2.2.2.size)
       have HWF:Hid (Below w.heap.size w ((W.setCell ⟨w.heap.size + 1 + 1,0,none⟩ (.int .i64 (next + 1))).setCell ⟨w.heap.size + 1 + 1,1,none⟩ (.slice am FL.length cm))):=(hBW.setCell (p:=⟨w.heap.size + 1 + 1,0,none⟩) (show w.heap.size ≤ w.heap.size + 1 + 1 by omega) _).setCell (p:=⟨w.heap.size + 1 + 1,1,none⟩) (show w.heap.size ≤ w.heap.size + 1 + 1 by omega) _
       have HEF:Hid (ERow ((W.setCell ⟨w.heap.size + 1 + 1,0,none⟩ (.int .i64 (next + 1))).setCell ⟨w.heap.size + 1 + 1,1,none⟩ (.slice am FL.length cm)) w.heap.size v14 (evs)):=zH (zbu (zbu (za HEV) hS3 0 _) hS3 1 _) (by omega)
       have HLF:Hid (ORow ((W.setCell ⟨w.heap.size + 1 + 1,0,none⟩ (.int .i64 (next + 1))).setCell ⟨w.heap.size + 1 + 1,1,none⟩ (.slice am FL.length cm)) w.heap.size (.slice am FL.length cm) (FL)):=zH (zaD (zaD (za HLV) hRX 0 _) hRX 1 _) hXw
       have HD0:Hid (((W.setCell ⟨w.heap.size + 1 + 1,0,none⟩ (.int .i64 (next + 1))).setCell ⟨w.heap.size + 1 + 1,1,none⟩ (.slice am FL.length cm)).cell? ⟨w.heap.size + 1 + 1,0,none⟩ = some (.int .i64 (next + 1))):=(World.cell?_setCell_other _ _ _ _ (zX (by decide))).trans (World.cell?_setCell_same _ _ _ x0)
       have HD1:Hid (((W.setCell ⟨w.heap.size + 1 + 1,0,none⟩ (.int .i64 (next + 1))).setCell ⟨w.heap.size + 1 + 1,1,none⟩ (.slice am FL.length cm)).cell? ⟨w.heap.size + 1 + 1,1,none⟩ = some (.slice am FL.length cm)):=World.cell?_setCell_same _ _ _ ((World.cell?_setCell_other _ _ _ _ (zX (by decide))).trans x1)
       clear hTW hBW y0 y1 y2 y3 y4 y5 y6 y7
       go_wp2_with fail
       have d0:=za HD0
       have d1:=za HD1
       try simp only [Exit.inBlock,Exit.then]
       refine bodyPost_ret (by simp [results,Tryz.results22,go_sem,d0,d1]; try rfl) rfl ?_
       obtain ⟨rfl,hsL9,hsE9⟩:=za HST
       rw [if_neg (fun h=>by have:=h.1; omega)] at hsL9
       rw [if_neg (by omega),List.append_nil,za HEVS] at hsE9
       subst hsL9 hsE9
       exact ⟨_,_,rfl,za HLF,za HEF,za HWF⟩
     have HT2':=hide HT2
     clear HT2 hK
     have h3Y:w3.heap.size ≤ Y.heap.size:=by have:=(za HE6).lt be rfl; omega
     rcases (za HT6).2 with ⟨hv,h0⟩ | ⟨gt,ct,cut,hv,_⟩
     ·simp only [Value.slice.injEq] at hv
      obtain ⟨rfl,hl0,rfl⟩:=hv
      obtain rfl:=List.length_eq_zero_iff.1 hl0
      go_wp2_with (at_builtin; go_must (refine wpList_append_own_none rfl _ _ 36 rfl w3.heap.size 43 j0 14 Tryz.underlying36 hj0 (.slice (some ⟨be,0,none⟩) 1 1) 1 _ rfl (za HE6) rfl ?_))
      exact za HT2' _ _ (za HE6) (za HO6) (za HTK) (za HB6) hlt6 h3Y
     ·simp only [Value.slice.injEq] at hv
      obtain ⟨rfl,-,rfl⟩:=hv
      have HSRC:=hide (row_src (za HT6))
      go_wp2_with (at_builtin; go_must (refine wpList_append_own _ rfl _ _ 36 rfl w3.heap.size 43 j0 _ 14 120 Tryz.underlying36 hj0 hy0 hy1 hy2 rfl (by decide) (.slice (some ⟨be,0,none⟩) 1 1) 1 _ rfl (za HE6) ⟨gt,0,none⟩ Ft.length ce (Ft.flatMap Ev.vs) rfl (by rw [zJ Ev.len]) (za HSRC) (one_allE Ft) (by unfold maxLen; omega) (by omega) h3Y ?_); intro v14 w7 hown7 hg7 _; have HO7:=hide hown7; have HG7:=hide hg7; clear hown7 hg7)
      have HE7:Hid (ERow w7 w3.heap.size v14 (⟨1,⟨1,s,ty,li,qt,ii,pr,cutB tg⟩,next,0,0,0,0⟩ :: Ft)):=by
       show w7.ownsRow _ _ _ _ (⟨1,⟨1,s,ty,li,qt,ii,pr,cutB tg⟩,next,0,0,0,0⟩ :: Ft:List Ev).length _
       have h:=za HO7
       rw [List.length_cons,Nat.add_comm]
       simpa using h
      exact za HT2' _ _ (za HE7) (World.ownsRow.kept (za HO6) (za HG7) (zB (za HO6) (za HE6) (by decide))) (fun j u hj=>(World.cell?_of_block (a:=⟨tb,0 + j,none⟩) ((za HG7).block tb hlt6 (zj (za HE6) (za HTX) (by decide)))).trans (za HTK j u hj)) ((za HB6).grown (za HG7) (za HB6).size (fun g hg=>Nat.le_trans hX3 ((za HE6).lt g hg).1)) (Nat.lt_of_lt_of_le hlt6 (za HG7).size) (Nat.le_trans h3Y (za HG7).size)
   ·exact absurd (za HWAY).2 (by decide)
   ·exact absurd (za HWAY).2 (by decide)
   ·exact absurd (za HWAY).2 (by decide)
  ·have hrr0:=hrr
   have hrb:(rr == 0) = false:=by rw [beq_eq_false_iff_ne]; exact hrr
   have HST:Hid (sN = next∧sL = l∧sE = [⟨2,⟨kk,s,ty,li,qt,ii,pr,cutB tg⟩,0,0,0,0,rr⟩]):=⟨by rw [za HSN,if_neg (fun h=>hrr h.1)],by rw [za HSLL,if_neg hrr],by rw [za HSE,if_neg hrr]⟩
   skip
   exact absurd (za HWAY).1 hrr0
 rcases za HSL with hs | ⟨ad,nn,cc,hs⟩
 ·simp only [Value.slice.injEq] at hs
  obtain ⟨rfl,hl0,rfl⟩:=hs
  obtain rfl:=List.length_eq_zero_iff.1 hl0
  obtain ⟨z0,z1,y0,y1,y2,y3,y4,y5,y6,y7⟩:=za HCELL X (Below.refl _ _)
  have HO0:=hide (World.ownsRow_made (base:=X.heap.size) (e:=78) (size:=6) X #[] 0 (Nat.le_refl _) (by decide) rfl)
  have hzX:World.cell? (X.alloc (Obj.cells #[] 78)) ⟨w.heap.size,1,none⟩ = some (.slice none 0 0):=(za HCELL _ ((Below.refl _ _).alloc (Nat.le_refl _) _)).2.1
  have HT':=hide HT
  clear HT hK
  go_wp2_with (at_builtin; go_must (refine wpList_append_own_none rfl _ _ 44 rfl X.heap.size 78 i0 6 Tryz.underlying44 hi0 (.slice (some ⟨X.heap.size,0,none⟩) 0 0) 0 [] rfl (za HO0) rfl ?_))
  exact za HT' _ _ _ (za HO0) ((Below.refl _ _).alloc (Nat.le_refl _) _)
 ·simp only [Value.slice.injEq] at hs
  obtain ⟨rfl,rfl,rfl⟩:=hs
  obtain ⟨z0,z1,y0,y1,y2,y3,y4,y5,y6,y7⟩:=za HCELL X (Below.refl _ _)
  have HBX0:Hid (Below X.heap.size X (X.alloc (Obj.cells #[] 78))):=(Below.refl _ _).alloc (Nat.le_refl _) _
  have HO0:=hide (World.ownsRow_made (base:=X.heap.size) (e:=78) (size:=6) X #[] 0 (Nat.le_refl _) (by decide) rfl)
  have hzX:World.cell? (X.alloc (Obj.cells #[] 78)) ⟨w.heap.size,1,none⟩ = some (.slice (some ad) l.length cap):=(za HCELL _ (za HBX0)).2.1
  have HSRC:Hid (∀ j u,(l.flatMap Od.vs)[j]? = some u→World.cell? (X.alloc (Obj.cells #[] 78)) (ad.add j) = some u):=rd_src (zl (za HR) ((za HB).2.2.2.2.2.trans ((za HBX0).mono (za HB).2.2.2.2.2.size)) (Nat.le_refl _))
  have HT':=hide HT
  clear HT hK
  go_wp2_with (at_builtin; go_must (refine wpList_append_own _ rfl _ _ 44 rfl X.heap.size 78 i0 _ 6 56 Tryz.underlying44 hi0 hz0 hz1 hz2 rfl (by decide) (.slice (some ⟨X.heap.size,0,none⟩) 0 0) 0 [] rfl (za HO0) ad l.length cap (l.flatMap Od.vs) rfl (by rw [zJ Od.len]) (za HSRC) (zaF l) (by unfold maxLen; omega) (by omega) (za HBX0).size ?_); intro v1 w1 hown1 hg1 _; have HO1:=hide hown1; have HG1:=hide hg1; clear hown1 hg1)
  have HOO:Hid (ORow w1 X.heap.size v1 l):=by
   show w1.ownsRow _ _ _ _ l.length _
   simpa using za HO1
  obtain ⟨a6,c6,hv⟩:=zV (za HOO)
  subst hv
  exact za HT' _ _ _ (za HOO) ((za HBX0).grown (za HG1) (za HBX0).size (fun k hk=>((za HO0).lt k hk).1))
end Go.Proofs.YtopjoogdpjaocaaGreat
