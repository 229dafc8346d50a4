/-
  A command done on a book, by the model: proved by walking the function.
-/
import Derived.Test.YtopjoogdpjaocaaGreatTj37
set_option linter.unusedVariables false
set_option maxHeartbeats 6400000
set_option maxRecDepth 100000
namespace Go.Proofs.YtopjoogdpjaocaaGreat
open Go.RowKit
set_option maxRecDepth 100000 in
set_option maxHeartbeats 12800000 in
theorem l04Step_c (next:Int) (vb:Value) (l:List Od) (c:Cm) (w:World) (hway:refR next l c = 0∧c.k = 2) (hr:RdR Od.vs 6 w vb l) (hs:SlOk vb) (hg:GoodL l) (hsd:∀ x ∈ l,x.side = 1 ∨ x.side = 2) (h0:0 ≤ next) (h1:next ≤ 1000000) (ht:c.g.size ≤ maxLen) :
  Calls Tryz.prog 22 #[.agg #[.int .i64 next,vb],cmV c] w fun e w'=>∃ vq vg,e = .returned (.tuple #[.agg #[.int .i64 (stN next l c),vq],vg])∧ORow w' w.heap.size vq (stL next l c)∧ERow w' w.heap.size vg (stE next l c)∧Below w.heap.size w w':=by
 obtain ⟨i0,hi0,hz0,hz1,hz2⟩:=info_parts Tryz.infoOrder
 obtain ⟨j0,hj0,hy0,hy1,hy2⟩:=info_parts infoEv
 have HR:=hide hr
 have HSL:=hide hs
 have HG:=hide hg
 have HTG:=hide ht
 have hlen20:=hg.len
 have HNUM:Hid (0 ≤ next∧next ≤ 1000000):=⟨h0,h1⟩
 have HREA:=hide (fun (W:World) hW=>zaN next vb l c W hW hs hg hsd ht)
 rw [ref_eq] at HREA
 have HK:=hide (@zbG next l c)
 have HQ:=hide (@zbx next l c)
 have HID:=hide (@ref_id next l c)
 have HNS:=hide (@ref_newS next l c)
 have HWAY:=hide hway
 clear hway
 have HSN:Hid (stN next l c = if refR next l c = 0∧c.k = 1 then next + 1 else next):=rfl
 have HSLL:=hide (stL.eq_1 next l c)
 have HSE:=hide (stE.eq_1 next l c)
 have HNO:=hide (fun W=>zaM c W ht)
 have HTA:=hide (fun (a:Option Addr) (n cap:Nat) (W:World)=>zaI next a n cap c W)
 have HMT:=hide (fun (v:Value) (W:World) hr hs hp hq0 hq1=>zaH v l c next W hr hg hs hp hq0 hq1)
 obtain ⟨a,cap,rfl,hrlen,hc⟩:=hr
 obtain ⟨kk,s,ty,li,qt,ii,pr,tg⟩:=c
 generalize stN next l ⟨kk,s,ty,li,qt,ii,pr,tg⟩ = sN at HSN ⊢
 generalize stL next l ⟨kk,s,ty,li,qt,ii,pr,tg⟩ = sL at HSLL ⊢
 generalize stE next l ⟨kk,s,ty,li,qt,ii,pr,tg⟩ = sE at HSE ⊢
 generalize refR next l ⟨kk,s,ty,li,qt,ii,pr,tg⟩ = rr at HREA HSN HSLL HSE HK HQ HID HNS HWAY
 unfold cmV at HREA HTA ⊢
 simp only at HREA HSN HSLL HSE HK HQ HID HNS HNO HTA HMT HTG HWAY ⊢
 have HB:=hide (box3 w [.int .i64 next,.slice a l.length cap] [.int .i64 kk,.int .i64 s,.int .i64 ty,.int .i64 li,.int .i64 qt,.int .i64 ii,.float .f64 pr,.string tg] [.int .i64 0,.slice none 0 0] 46 39 46)
 clear hs hg hsd h0 h1 ht hc hrlen
 go_enter Tryz.func22,Tryz.ntmps22
 refine wp_seq_k fun K hK=>?_
 have HK1:=hide hK
 clear hK
 go_wp2_with fail
 refine za HK1 _ _ ?_
 clear HK1
 change Hid ((((w.alloc (Obj.cells #[.int .i64 next,.slice a l.length cap] 46)).alloc (Obj.cells #[.int .i64 kk,.int .i64 s,.int .i64 ty,.int .i64 li,.int .i64 qt,.int .i64 ii,.float .f64 pr,.string tg] 39)).alloc (Obj.cells #[.int .i64 0,.slice none 0 0] 46)).heap.size = w.heap.size + 3∧World.rangeAt (((w.alloc (Obj.cells #[.int .i64 next,.slice a l.length cap] 46)).alloc (Obj.cells #[.int .i64 kk,.int .i64 s,.int .i64 ty,.int .i64 li,.int .i64 qt,.int .i64 ii,.float .f64 pr,.string tg] 39)).alloc (Obj.cells #[.int .i64 0,.slice none 0 0] 46)) w.heap.size 0 [.int .i64 next,.slice a l.length cap]∧World.rangeAt (((w.alloc (Obj.cells #[.int .i64 next,.slice a l.length cap] 46)).alloc (Obj.cells #[.int .i64 kk,.int .i64 s,.int .i64 ty,.int .i64 li,.int .i64 qt,.int .i64 ii,.float .f64 pr,.string tg] 39)).alloc (Obj.cells #[.int .i64 0,.slice none 0 0] 46)) (w.heap.size + 1) 0 [.int .i64 kk,.int .i64 s,.int .i64 ty,.int .i64 li,.int .i64 qt,.int .i64 ii,.float .f64 pr,.string tg]∧World.rangeAt (((w.alloc (Obj.cells #[.int .i64 next,.slice a l.length cap] 46)).alloc (Obj.cells #[.int .i64 kk,.int .i64 s,.int .i64 ty,.int .i64 li,.int .i64 qt,.int .i64 ii,.float .f64 pr,.string tg] 39)).alloc (Obj.cells #[.int .i64 0,.slice none 0 0] 46)) (w.heap.size + 1 + 1) 0 [.int .i64 0,.slice none 0 0]∧World.there (((w.alloc (Obj.cells #[.int .i64 next,.slice a l.length cap] 46)).alloc (Obj.cells #[.int .i64 kk,.int .i64 s,.int .i64 ty,.int .i64 li,.int .i64 qt,.int .i64 ii,.float .f64 pr,.string tg] 39)).alloc (Obj.cells #[.int .i64 0,.slice none 0 0] 46)) (w.heap.size + 1 + 1) 0 2∧Below w.heap.size w (((w.alloc (Obj.cells #[.int .i64 next,.slice a l.length cap] 46)).alloc (Obj.cells #[.int .i64 kk,.int .i64 s,.int .i64 ty,.int .i64 li,.int .i64 qt,.int .i64 ii,.float .f64 pr,.string tg] 39)).alloc (Obj.cells #[.int .i64 0,.slice none 0 0] 46))) at HB
 generalize (((w.alloc (Obj.cells #[.int .i64 next,.slice a l.length cap] 46)).alloc (Obj.cells #[.int .i64 kk,.int .i64 s,.int .i64 ty,.int .i64 li,.int .i64 qt,.int .i64 ii,.float .f64 pr,.string tg] 39)).alloc (Obj.cells #[.int .i64 0,.slice none 0 0] 46)) = X at HB ⊢
 have HCELL:Hid (∀ W:World,Below X.heap.size X W→W.cell? ⟨w.heap.size,0,none⟩ = some (.int .i64 next)∧W.cell? ⟨w.heap.size,1,none⟩ = some (.slice a l.length cap)∧W.cell? ⟨w.heap.size + 1,0,none⟩ = some (.int .i64 kk)∧W.cell? ⟨w.heap.size + 1,1,none⟩ = some (.int .i64 s)∧W.cell? ⟨w.heap.size + 1,2,none⟩ = some (.int .i64 ty)∧W.cell? ⟨w.heap.size + 1,3,none⟩ = some (.int .i64 li)∧W.cell? ⟨w.heap.size + 1,4,none⟩ = some (.int .i64 qt)∧W.cell? ⟨w.heap.size + 1,5,none⟩ = some (.int .i64 ii)∧W.cell? ⟨w.heap.size + 1,6,none⟩ = some (.float .f64 pr)∧W.cell? ⟨w.heap.size + 1,7,none⟩ = some (.string tg)):=fun W hW =>
  have p:=zb (za HB).2.1 hW (by have:=(za HB).1; omega)
  have q:=zb (za HB).2.2.1 hW (by have:=(za HB).1; omega)
  ⟨p 0 _ rfl,p 1 _ rfl,q 0 _ rfl,q 1 _ rfl,q 2 _ rfl,q 3 _ rfl,q 4 _ rfl,q 5 _ rfl,q 6 _ rfl,q 7 _ rfl⟩
 have hRX:w.heap.size + 1 + 1 < X.heap.size:=by have:=(za HB).1; omega
 refine wp_seq_k fun K hK=>?_
 have HT:∀ (a6:Option Addr) (c6:Nat) (w1:World),ORow w1 X.heap.size (.slice a6 l.length c6) l→Below X.heap.size X w1→K { tmps:=#[.agg #[.int .i64 next,.slice a l.length cap],.agg #[.int .i64 kk,.int .i64 s,.int .i64 ty,.int .i64 li,.int .i64 qt,.int .i64 ii,.float .f64 pr,.string tg],.pointer (some ⟨w.heap.size,0,none⟩),.pointer (some ⟨w.heap.size + 1,0,none⟩),.pointer (some ⟨w.heap.size + 1 + 1,0,none⟩),.slice none 0 0,.slice a6 l.length c6,undef,undef,undef,undef,undef,undef,undef,undef,undef,undef,undef,.slice (some ⟨X.heap.size,0,none⟩) 0 0,.pointer (some ⟨w.heap.size,1,none⟩),.slice a l.length cap,.slice a6 l.length c6,undef,undef,undef,undef,undef,undef,undef,undef,undef,undef,undef,undef,undef,undef,undef,undef,undef,undef,undef,undef,undef,undef,undef,undef,undef,undef,undef,undef,undef,undef,undef,undef,undef,undef,undef,undef,undef,undef,undef,undef,undef,undef,undef,undef,undef,undef,undef,undef,undef,undef,undef,undef,undef,undef,undef,undef,undef,undef,undef,undef,undef,undef,undef,undef,undef,undef,undef,undef,undef,undef,undef,undef,undef,undef,undef,undef,undef,undef,undef,undef,undef,undef,undef,undef,undef,undef,undef,undef,undef,undef,undef,undef,undef,undef,undef,undef,undef,undef,undef,undef,undef,undef,undef,undef,undef,undef,undef,undef,undef,undef,undef,undef,undef,undef,undef,undef,undef,undef,undef,undef,undef,undef,undef,undef,undef,undef,undef,undef,undef,undef,undef,undef,undef,undef,undef,undef,undef,undef,undef,undef,undef,undef,undef,undef,undef,undef,undef,undef,undef],defers:=[] } w1:=by
  intro a6 c6 w1 ho1 hb1
  refine hK _ _ ?_
  clear hK
  have HO1:=hide ho1
  have HB1:=hide hb1
  clear ho1 hb1
  obtain ⟨z0,z1,y0,y1,y2,y3,y4,y5,y6,y7⟩:=za HCELL w1 (za HB1)
  refine wp_seq_k fun K hK=>?_
  have HK1:=hide hK
  clear hK
  go_wp2_with fail
  refine (za HREA w1 (zl (za HR) ((za HB).2.2.2.2.2.trans ((za HB1).mono (za HB).2.2.2.2.2.size)) (Nat.le_refl _))).mono ?_
  rintro e w2 ⟨rfl,hb2⟩
  have HO2:=hide (zk (za HO1) hb2)
  have HB2:=hide ((za HB1).trans (hb2.mono (za HB1).size))
  clear z0 z1 y0 y1 y2 y3 y4 y5 y6 y7 hb2 HO1
  obtain ⟨z0,z1,y0,y1,y2,y3,y4,y5,y6,y7⟩:=za HCELL w2 (za HB2)
  have HTR:=hide (zf (za HB).2.2.2.2.1 (za HB2) hRX)
  have hRb:w.heap.size + 1 + 1 < w2.heap.size:=Nat.lt_of_lt_of_le hRX (za HB2).size
  have HBW:=hide ((za HB).2.2.2.2.2.trans ((za HB2).mono (za HB).2.2.2.2.2.size))
  have hXw:w.heap.size ≤ X.heap.size:=by omega
  have hX2:X.heap.size ≤ w2.heap.size:=(za HB2).size
  have hXb:=hX2
  by_cases hrr:rr = 0
  ·subst hrr
   have hkk:=za HK rfl
   rcases hkk with rfl | rfl | rfl | rfl
   ·exact absurd (za HWAY).2 (by decide)
   ·obtain ⟨k,o,hpk,hlo⟩:=za HID rfl (by simp)
    have hpt:(plc l ii).toNat = k:=by rw [hpk]; rfl
    have hne:l ≠ []:=by rintro rfl; simp at hlo
    have hkl:=(List.getElem?_eq_some_iff.1 hlo).1
    have HST:Hid (sN = next∧sE = [⟨6,zCm,ii,0,o.left,0,0⟩]):=⟨by rw [za HSN,if_neg (fun h=>by have:=h.2; omega)],by rw [za HSE,if_pos rfl,if_neg (by omega),if_pos rfl]; simp only [hpt,hlo]⟩
    have HLD:Hid (l.take k ++ l.drop (k + 1) = sL):=by show _ = _; rw [za HSLL,if_pos rfl,if_neg (by omega),if_pos rfl]; simp only [hpt,hlo]; rw [zau,if_pos rfl]
    have HPK:=hide hpk
    have HLO:=hide hlo
    clear hpk hlo hpt HSN HSLL HSE HQ HID HK HNS HTA HMT HNO
    obtain ⟨g,cp,hv6,hcap,hBg,hgw⟩:=zbB (za HO2) hne
    simp only [Value.slice.injEq] at hv6
    obtain ⟨rfl,-,rfl⟩:=hv6
    go_wp2_with fail
    refine za HK1 _ _ ?_
    clear HK1
    go_wp2_with fail
    refine (zaU _ l ii w2 (zM (za HO2) (by omega))).mono ?_
    rw [za HPK]
    rintro e w3 ⟨rfl,hb3⟩
    have HO3:=hide (zk (za HO2) hb3)
    have HB3:=hide ((za HB2).trans (hb3.mono (za HB2).size))
    clear hb3 z0 z1 y0 y1 y2 y3 y4 y5 y6 y7 HTR HBW hRb hXb
    have HTR:=hide (zf (za HB).2.2.2.2.1 (za HB3) hRX)
    have hRb:w.heap.size + 1 + 1 < w3.heap.size:=Nat.lt_of_lt_of_le hRX (za HB3).size
    have HBW:=hide ((za HB).2.2.2.2.2.trans ((za HB3).mono (za HB).2.2.2.2.2.size))
    have hXb:X.heap.size ≤ w3.heap.size:=(za HB3).size
    obtain ⟨z0,z1,y0,y1,y2,y3,y4,y5,y6,y7⟩:=za HCELL w3 (za HB3)
    have hrow:=row_here (za HO3) (by omega) (za HLO)
    have hkl':(k:Int) < l.length:=by omega
    have hk0:(0:Int) ≤ k:=by omega
    have hgR:g ≠ w.heap.size + 1 + 1:=by omega
    have hRS:w.heap.size + 1 + 1 < X.heap.size:=hRX
    have HZ0:=hide z0
    have HZ1:=hide z1
    have HY0:=hide y0
    have HY1:=hide y1
    have HY2:=hide y2
    have HY3:=hide y3
    have HY4:=hide y4
    have HY5:=hide y5
    have HY6:=hide y6
    have HY7:=hide y7
    have hG3:w3.cell? ⟨g,k * 6 + 3,none⟩ = some (.int .i64 o.left):=hrow.1 3 _ rfl
    clear hrow
    go_wp2_with fail
    clear z0 z1 y0 y1 y2 y3 y4 y5 y6 y7 hG3
    refine zo (RXA (fun f=>{ tmps:=#[.agg #[.int .i64 next,.slice a l.length cap],.agg #[.int .i64 2,.int .i64 s,.int .i64 ty,.int .i64 li,.int .i64 qt,.int .i64 ii,.float .f64 pr,.string tg],.pointer (some ⟨w.heap.size,0,none⟩),.pointer (some ⟨w.heap.size + 1,0,none⟩),.pointer (some ⟨w.heap.size + 1 + 1,0,none⟩),f 12,.slice (some ⟨g,0,none⟩) l.length c6,.int .i64 0,.int .i64 k,.int .i64 o.left,undef,undef,undef,undef,undef,undef,undef,undef,.slice (some ⟨X.heap.size,0,none⟩) 0 0,.pointer (some ⟨w.heap.size,1,none⟩),.slice a l.length cap,.slice (some ⟨g,0,none⟩) l.length c6,.agg #[.int .i64 next,.slice a l.length cap],.agg #[.int .i64 2,.int .i64 s,.int .i64 ty,.int .i64 li,.int .i64 qt,.int .i64 ii,.float .f64 pr,.string tg],.int .i64 0,.int .i64 0,.bool false,undef,undef,undef,undef,undef,undef,undef,undef,undef,.slice (some ⟨g,0,none⟩) l.length c6,.pointer (some ⟨w.heap.size + 1,5,none⟩),.int .i64 ii,.int .i64 k,.pointer (some ⟨w.heap.size + 1,0,none⟩),.int .i64 2,.bool true,.bool true,.slice (some ⟨g,0,none⟩) l.length c6,.int .i64 k,.pointer (some ⟨g,k * 6,none⟩),.pointer (some ⟨g,k * 6 + 3,none⟩),.int .i64 o.left,f 0,f 1,f 2,f 3,f 4,f 5,f 6,f 7,f 8,f 9,f 10,undef,undef,undef,undef,undef,undef,undef,undef,undef,undef,undef,undef,undef,undef,undef,undef,undef,undef,undef,undef,undef,undef,undef,undef,undef,undef,undef,undef,undef,undef,undef,undef,undef,undef,undef,undef,undef,undef,undef,undef,undef,undef,undef,undef,undef,undef,undef,undef,undef,undef,undef,undef,undef,undef,undef,undef,undef,undef,undef,undef,undef,undef,undef,undef,undef,undef,undef,undef,undef,undef,undef,undef,undef,undef,undef,undef,undef,undef,undef,undef,undef,undef,undef,undef,undef,undef,undef,undef,undef,undef,undef,undef,undef,undef,undef,undef,undef,undef,undef,undef,undef,undef,undef,undef,undef,undef,undef,undef,undef,undef,undef],defers:=[] }) (CX [.pointer (some ⟨w.heap.size,0,none⟩),.int .i64 next,.slice (some ⟨g,0,none⟩) l.length c6,.int .i64 k,undef,undef,.pointer (some ⟨w.heap.size + 1,5,none⟩),.int .i64 ii,.int .i64 o.left,.agg #[.int .i64 6,.int .i64 0,.int .i64 0,.int .i64 0,.int .i64 0,.int .i64 0,.int .i64 0,.float .f64 0,.string ⟨#[]⟩,.int .i64 ii,.int .i64 0,.int .i64 o.left,.int .i64 0,.int .i64 0],undef,undef,undef] [(4,0),(5,1),(10,2),(11,9),(12,2)] (X.heap.size) (next) (sL) ([⟨6,zCm,ii,0,o.left,0,0⟩])) (w.heap.size + 1 + 1) 2 11 (fun f=>aggL (f 5)) w3) (by kernel_rfl) ?_ ?_ ?_
    ·exact ⟨fun j=>if j = 12 then .slice none 0 0 else undef,rfl,rx_start hRb (za HTR)⟩
    rotate_left
    ·rintro x A V i op ⟨f,rfl,hR⟩ hcl hx ho hxi hall
     have HRR:=hide hR
     have cellV:∀ (p:Addr) u,w3.cell? p = some u→p.block ≠ w.heap.size + 1 + 1→V.cell? p = some u:=fun p u hu hp=>kb_cell hR.k hu hp
     match i,ho with
      | 0,ho =>
       obtain rfl:=Option.some.inj ho
       clear hall hR cellV hcl
       rw [if_pos (by rfl)]
       unfold Oper.wp
       go_simp
       exact ⟨upd f 0 (.pointer (some ⟨w.heap.size,0,none⟩)),by simp [upd],zae (za HRR) 0 _ (by decide) (fun _=>rfl) (zT rfl rfl)⟩
      | 1,ho =>
       obtain rfl:=Option.some.inj ho
       have g0:f 0 = .pointer (some ⟨w.heap.size,0,none⟩):=zQ (hR.c 0 (hall ⟨0,.data⟩ (by simp) rfl)) rfl rfl
       have z0:=cellV ⟨w.heap.size,0,none⟩ _ (za HZ0) (show w.heap.size ≠ w.heap.size + 1 + 1 by omega)
       clear hall hR cellV hcl
       rw [if_pos (by rfl)]
       unfold Oper.wp
       go_simp
       exact ⟨upd f 1 (.int .i64 next),by simp [upd,g0],zae (za HRR) 1 _ (by decide) (fun _=>rfl) (zT rfl rfl)⟩
      | 2,ho =>
       obtain rfl:=Option.some.inj ho
       clear hall hR cellV hcl
       rw [if_pos (by rfl)]
       unfold Oper.wp
       go_simp
       exact ⟨upd f 2 (.slice (some ⟨g,0,none⟩) l.length c6),by simp [upd],zae (za HRR) 2 _ (by decide) (fun _=>rfl) (zT rfl rfl)⟩
      | 3,ho =>
       obtain rfl:=Option.some.inj ho
       clear hall hR cellV hcl
       rw [if_pos (by rfl)]
       unfold Oper.wp
       go_simp
       exact ⟨upd f 3 (.int .i64 k),by simp [upd],zae (za HRR) 3 _ (by decide) (fun _=>rfl) (zT rfl rfl)⟩
      | 4,ho =>
       obtain rfl:=Option.some.inj ho
       have g2:f 2 = .slice (some ⟨g,0,none⟩) l.length c6:=zQ (hR.c 2 (hall ⟨2,.data⟩ (by simp) rfl)) rfl rfl
       have g3:f 3 = .int .i64 k:=zQ (hR.c 3 (hall ⟨3,.data⟩ (by simp) rfl)) rfl rfl
       have hOV:=kb_row (za HO3) hR.k hRS
       have HCV:Hid (∀ j c,l[j]? = some c→V.rangeAt g (0 + j * 6) c.vs):=fun j c hj=>by have:=(row_here hOV (by omega) hj).1; rw [Nat.zero_add]; exact this
       have hgV:g < V.heap.size:=Nat.lt_of_lt_of_le ((za HO3).lt g rfl).2 hR.k.size
       have hXV:=Nat.le_trans hXb hR.k.size
       clear hall hR cellV hcl hOV
       rw [if_pos (by rfl)]
       unfold Oper.wp
       go_simp
       refine (l04Drop_any g 0 c6 l k V (za HCV) hgV hkl hcap (by omega)).mono ?_
       rw [za HLD]
       rintro e w4 ⟨v',rfl,ho',hb4⟩
       exact ⟨upd f 4 v',by simp [upd,g2,g3],zae (rx_grow (zbS hRS) (za HRR) hb4) 4 _ (by decide) (fun _=>rfl) (zbQ (d:=0) rfl ⟨zH ho' hXV,zV ho'⟩)⟩
      | 5,ho =>
       obtain rfl:=Option.some.inj ho
       have g1:f 1 = .int .i64 next:=zQ (hR.c 1 (hall ⟨1,.data⟩ (by simp) rfl)) rfl rfl
       have h4:=cx_sp (d:=0) (hR.c 4 (hall ⟨4,.data⟩ (by simp) rfl)) rfl
       obtain ⟨a4,c4,g4⟩:=h4.2
       rw [g4] at h4
       have H4:=hide h4
       have hcl0:=hcl
       clear hall hR cellV hcl h4
       rw [if_pos (by rfl)]
       unfold Oper.wp
       go_simp
       exact ⟨upd f 5 (.agg #[.int .i64 next,.slice a4 sL.length c4]),by simp [upd,g1,g4],zae (za HRR) 5 _ (by decide) (fun h=>by rw [zx hcl0 12 5 11 (by kernel_rfl) hx (by simp) hxi] at h; cases h) (zbQ (d:=1) rfl ⟨_,rfl,⟨_,_,rfl⟩,(za H4).1⟩)⟩
      | 6,ho =>
       obtain rfl:=Option.some.inj ho
       clear hall hR cellV hcl
       rw [if_pos (by rfl)]
       unfold Oper.wp
       go_simp
       exact ⟨upd f 6 (.pointer (some ⟨w.heap.size + 1,5,none⟩)),by simp [upd],zae (za HRR) 6 _ (by decide) (fun _=>rfl) (zT rfl rfl)⟩
      | 7,ho =>
       obtain rfl:=Option.some.inj ho
       have g6:f 6 = .pointer (some ⟨w.heap.size + 1,5,none⟩):=zQ (hR.c 6 (hall ⟨6,.data⟩ (by simp) rfl)) rfl rfl
       have y5:=cellV ⟨w.heap.size + 1,5,none⟩ _ (za HY5) (show w.heap.size + 1 ≠ w.heap.size + 1 + 1 by omega)
       clear hall hR cellV hcl
       rw [if_pos (by rfl)]
       unfold Oper.wp
       go_simp
       exact ⟨upd f 7 (.int .i64 ii),by simp [upd,g6],zae (za HRR) 7 _ (by decide) (fun _=>rfl) (zT rfl rfl)⟩
      | 8,ho =>
       obtain rfl:=Option.some.inj ho
       clear hall hR cellV hcl
       rw [if_pos (by rfl)]
       unfold Oper.wp
       go_simp
       exact ⟨upd f 8 (.int .i64 o.left),by simp [upd],zae (za HRR) 8 _ (by decide) (fun _=>rfl) (zT rfl rfl)⟩
      | 9,ho =>
       obtain rfl:=Option.some.inj ho
       have g7:f 7 = .int .i64 ii:=zQ (hR.c 7 (hall ⟨7,.data⟩ (by simp) rfl)) rfl rfl
       have g8:f 8 = .int .i64 o.left:=zQ (hR.c 8 (hall ⟨8,.data⟩ (by simp) rfl)) rfl rfl
       clear hall hR cellV hcl
       rw [if_pos (by rfl)]
       unfold Oper.wp
       go_simp
       exact ⟨upd f 9 (.agg #[.int .i64 6,.int .i64 0,.int .i64 0,.int .i64 0,.int .i64 0,.int .i64 0,.int .i64 0,.float .f64 0,.string ⟨#[]⟩,.int .i64 ii,.int .i64 0,.int .i64 o.left,.int .i64 0,.int .i64 0]),by simp [upd,g7,g8],zae (za HRR) 9 _ (by decide) (fun _=>rfl) (zT rfl rfl)⟩
      | 10,ho =>
       obtain rfl:=Option.some.inj ho
       have g9:f 9 = .agg #[.int .i64 6,.int .i64 0,.int .i64 0,.int .i64 0,.int .i64 0,.int .i64 0,.int .i64 0,.float .f64 0,.string ⟨#[]⟩,.int .i64 ii,.int .i64 0,.int .i64 o.left,.int .i64 0,.int .i64 0]:=zQ (hR.c 9 (hall ⟨9,.data⟩ (by simp) rfl)) rfl rfl
       have hszV:=Nat.le_trans hXb hR.k.size
       clear hall hR cellV hcl
       rw [if_pos (by rfl)]
       unfold Oper.wp
       go_simp
       exact ⟨upd f 10 (.slice (some ⟨V.heap.size,0,none⟩) 1 1),by simp [upd,g9],zae (rx_grow (zbS hRS) (za HRR) ((Below.refl _ _).alloc (Nat.le_refl _) _)) 10 _ (by decide) (fun _=>rfl) (zbQ (d:=2) rfl ⟨eRow_one V ⟨6,zCm,ii,0,o.left,0,0⟩ hszV,_,_,rfl⟩)⟩
      | 11,ho =>
       obtain rfl:=Option.some.inj ho
       obtain ⟨v4,g0,⟨a4,c4,rfl⟩,-⟩:=cx_sp (d:=1) (hR.c 5 (hall ⟨5,.data⟩ (by simp) rfl)) rfl
       obtain ⟨y0,z0,q0⟩:=zc hR.t (j:=0) (by omega)
       obtain ⟨y1,z1,q1⟩:=zc hR.t (j:=1) (by omega)
       clear hall hR cellV hcl
       rw [if_pos (by rfl)]
       unfold Oper.wp
       go_simp
       have hst:=rx_store (zbS hRS) (za HRR) hxi (by simp [g0,aggL]) (fun _ _=>zbQ (d:=9) rfl trivial)
       simp only [g0,aggL] at hst
       exact ⟨f,by simp [g0],hst⟩
      | 12,ho =>
       obtain rfl:=Option.some.inj ho
       have h8:=cx_sp (d:=2) (hR.c 10 (hall ⟨10,.data⟩ (by simp) rfl)) rfl
       obtain ⟨a8,c8,g8⟩:=h8.2
       rw [g8] at h8
       have H8:=hide h8
       clear h8
       clear hall hR cellV hcl
       rw [if_pos (by rfl)]
       unfold Oper.wp
       go_simp
       exact ⟨upd f 12 (f 10),by simp [upd,g8],zae (za HRR) 12 _ (by decide) (fun _=>rfl) (zbQ (d:=2) rfl (by rw [g8]; exact za H8))⟩
      | n + 13,ho=>simp at ho
    ·rintro x A V ⟨f,rfl,hR⟩ hx hrd
     have hallx:=zac hrd hx (by kernel_rfl)
     obtain ⟨hE8,a8,c8,e8⟩:=cx_sp (d:=2) (hR.c 12 (hallx 12 (by simp))) rfl
     have hres:=hR.r (hallx 11 (by simp))
     obtain ⟨v4,g5,-,ho4⟩:=cx_sp (d:=1) (hR.c 5 (hallx 5 (by simp))) rfl
     simp only [g5,aggL] at hres
     clear g5
     have HO:Hid (ORow V w.heap.size v4 _∧ERow V w.heap.size (.slice a8 _ c8) _):=⟨zH ho4 (by omega),zH (e8 ▸ hE8) (by omega)⟩
     have HBV:Hid (Below w.heap.size w V):=⟨hR.k.os.trans (za HBW).os,hR.k.tape.trans (za HBW).tape,hR.k.output.trans (za HBW).output,Nat.le_trans (za HBW).size hR.k.size,fun k hk=>(hR.k.block k (Nat.lt_of_lt_of_le hk (za HBW).size) (by omega)).trans ((za HBW).block k hk)⟩
     have d0:V.cell? ⟨w.heap.size + 1 + 1,0,none⟩ = some (.int .i64 next):=hres 0 _ rfl
     have d1:V.cell? ⟨w.heap.size + 1 + 1,1,none⟩ = some v4:=hres 1 _ rfl
     simp only [e8]
     generalize f 0 = w0
     generalize f 1 = w1
     generalize f 2 = w2
     generalize f 3 = w3
     generalize f 4 = w4
     generalize f 5 = w5
     generalize f 6 = w6
     generalize f 7 = w7
     generalize f 8 = w8
     generalize f 9 = w9
     generalize f 10 = w10
     clear hR hallx hrd hx hres hE8 ho4
     go_wp2_with fail
     try simp only [Exit.inBlock,Exit.then]
     refine bodyPost_ret (by simp [results,Tryz.results22,go_sem,d0,d1]; try rfl) rfl ?_
     obtain ⟨rfl,rfl⟩:=za HST
     exact ⟨_,_,rfl,(za HO).1,(za HO).2,za HBV⟩
   ·exact absurd (za HWAY).2 (by decide)
   ·exact absurd (za HWAY).2 (by decide)
  ·have hrr0:=hrr
   have hrb:(rr == 0) = false:=by rw [beq_eq_false_iff_ne]; exact hrr
   have HST:Hid (sN = next∧sL = l∧sE = [⟨2,⟨kk,s,ty,li,qt,ii,pr,cutB tg⟩,0,0,0,0,rr⟩]):=⟨by rw [za HSN,if_neg (fun h=>hrr h.1)],by rw [za HSLL,if_neg hrr],by rw [za HSE,if_neg hrr]⟩
   skip
   exact absurd (za HWAY).1 hrr0
 rcases za HSL with hs | ⟨ad,nn,cc,hs⟩
 ·simp only [Value.slice.injEq] at hs
  obtain ⟨rfl,hl0,rfl⟩:=hs
  obtain rfl:=List.length_eq_zero_iff.1 hl0
  obtain ⟨z0,z1,y0,y1,y2,y3,y4,y5,y6,y7⟩:=za HCELL X (Below.refl _ _)
  have HO0:=hide (World.ownsRow_made (base:=X.heap.size) (e:=78) (size:=6) X #[] 0 (Nat.le_refl _) (by decide) rfl)
  have hzX:World.cell? (X.alloc (Obj.cells #[] 78)) ⟨w.heap.size,1,none⟩ = some (.slice none 0 0):=(za HCELL _ ((Below.refl _ _).alloc (Nat.le_refl _) _)).2.1
  have HT':=hide HT
  clear HT hK
  go_wp2_with (at_builtin; go_must (refine wpList_append_own_none rfl _ _ 44 rfl X.heap.size 78 i0 6 Tryz.underlying44 hi0 (.slice (some ⟨X.heap.size,0,none⟩) 0 0) 0 [] rfl (za HO0) rfl ?_))
  exact za HT' _ _ _ (za HO0) ((Below.refl _ _).alloc (Nat.le_refl _) _)
 ·simp only [Value.slice.injEq] at hs
  obtain ⟨rfl,rfl,rfl⟩:=hs
  obtain ⟨z0,z1,y0,y1,y2,y3,y4,y5,y6,y7⟩:=za HCELL X (Below.refl _ _)
  have HBX0:Hid (Below X.heap.size X (X.alloc (Obj.cells #[] 78))):=(Below.refl _ _).alloc (Nat.le_refl _) _
  have HO0:=hide (World.ownsRow_made (base:=X.heap.size) (e:=78) (size:=6) X #[] 0 (Nat.le_refl _) (by decide) rfl)
  have hzX:World.cell? (X.alloc (Obj.cells #[] 78)) ⟨w.heap.size,1,none⟩ = some (.slice (some ad) l.length cap):=(za HCELL _ (za HBX0)).2.1
  have HSRC:Hid (∀ j u,(l.flatMap Od.vs)[j]? = some u→World.cell? (X.alloc (Obj.cells #[] 78)) (ad.add j) = some u):=rd_src (zl (za HR) ((za HB).2.2.2.2.2.trans ((za HBX0).mono (za HB).2.2.2.2.2.size)) (Nat.le_refl _))
  have HT':=hide HT
  clear HT hK
  go_wp2_with (at_builtin; go_must (refine wpList_append_own _ rfl _ _ 44 rfl X.heap.size 78 i0 _ 6 56 Tryz.underlying44 hi0 hz0 hz1 hz2 rfl (by decide) (.slice (some ⟨X.heap.size,0,none⟩) 0 0) 0 [] rfl (za HO0) ad l.length cap (l.flatMap Od.vs) rfl (by rw [zJ Od.len]) (za HSRC) (zaF l) (by unfold maxLen; omega) (by omega) (za HBX0).size ?_); intro v1 w1 hown1 hg1 _; have HO1:=hide hown1; have HG1:=hide hg1; clear hown1 hg1)
  have HOO:Hid (ORow w1 X.heap.size v1 l):=by
   show w1.ownsRow _ _ _ _ l.length _
   simpa using za HO1
  obtain ⟨a6,c6,hv⟩:=zV (za HOO)
  subst hv
  exact za HT' _ _ _ (za HOO) ((za HBX0).grown (za HG1) (za HBX0).size (fun k hk=>((za HO0).lt k hk).1))
end Go.Proofs.YtopjoogdpjaocaaGreat
