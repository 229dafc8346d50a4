/-
  A command done on a book, by the model: proved by walking the function.
-/
import Derived.Test.YtopjoogdpjaocaaGreatTj37
set_option linter.unusedVariables false
set_option maxHeartbeats 6400000
set_option maxRecDepth 100000
namespace Go.Proofs.YtopjoogdpjaocaaGreat
open Go.RowKit
set_option maxRecDepth 100000 in
set_option maxHeartbeats 12800000 in
theorem l04Step_y (next:Int) (vb:Value) (l:List Od) (c:Cm) (w:World) (hway:refR next l c = 0∧c.k = 4) (hr:RdR Od.vs 6 w vb l) (hs:SlOk vb) (hg:GoodL l) (hsd:∀ x ∈ l,x.side = 1 ∨ x.side = 2) (h0:0 ≤ next) (h1:next ≤ 1000000) (ht:c.g.size ≤ maxLen) :
  Calls Tryz.prog 22 #[.agg #[.int .i64 next,vb],cmV c] w fun e w'=>∃ vq vg,e = .returned (.tuple #[.agg #[.int .i64 (stN next l c),vq],vg])∧ORow w' w.heap.size vq (stL next l c)∧ERow w' w.heap.size vg (stE next l c)∧Below w.heap.size w w':=by
 obtain ⟨i0,hi0,hz0,hz1,hz2⟩:=info_parts Tryz.infoOrder
 obtain ⟨j0,hj0,hy0,hy1,hy2⟩:=info_parts infoEv
 have HR:=hide hr
 have HSL:=hide hs
 have HG:=hide hg
 have HTG:=hide ht
 have hlen20:=hg.len
 have HNUM:Hid (0 ≤ next∧next ≤ 1000000):=⟨h0,h1⟩
 have HREA:=hide (fun (W:World) hW=>zaN next vb l c W hW hs hg hsd ht)
 rw [ref_eq] at HREA
 have HK:=hide (@zbG next l c)
 have HQ:=hide (@zbx next l c)
 have HID:=hide (@ref_id next l c)
 have HNS:=hide (@ref_newS next l c)
 have HWAY:=hide hway
 clear hway
 have HSN:Hid (stN next l c = if refR next l c = 0∧c.k = 1 then next + 1 else next):=rfl
 have HSLL:=hide (stL.eq_1 next l c)
 have HSE:=hide (stE.eq_1 next l c)
 have HNO:=hide (fun W=>zaM c W ht)
 have HTA:=hide (fun (a:Option Addr) (n cap:Nat) (W:World)=>zaI next a n cap c W)
 have HMT:=hide (fun (v:Value) (W:World) hr hs hp hq0 hq1=>zaH v l c next W hr hg hs hp hq0 hq1)
 obtain ⟨a,cap,rfl,hrlen,hc⟩:=hr
 obtain ⟨kk,s,ty,li,qt,ii,pr,tg⟩:=c
 generalize stN next l ⟨kk,s,ty,li,qt,ii,pr,tg⟩ = sN at HSN ⊢
 generalize stL next l ⟨kk,s,ty,li,qt,ii,pr,tg⟩ = sL at HSLL ⊢
 generalize stE next l ⟨kk,s,ty,li,qt,ii,pr,tg⟩ = sE at HSE ⊢
 generalize refR next l ⟨kk,s,ty,li,qt,ii,pr,tg⟩ = rr at HREA HSN HSLL HSE HK HQ HID HNS HWAY
 unfold cmV at HREA HTA ⊢
 simp only at HREA HSN HSLL HSE HK HQ HID HNS HNO HTA HMT HTG HWAY ⊢
 have HB:=hide (box3 w [.int .i64 next,.slice a l.length cap] [.int .i64 kk,.int .i64 s,.int .i64 ty,.int .i64 li,.int .i64 qt,.int .i64 ii,.float .f64 pr,.string tg] [.int .i64 0,.slice none 0 0] 46 39 46)
 clear hs hg hsd h0 h1 ht hc hrlen
 go_enter Tryz.func22,Tryz.ntmps22
 refine wp_seq_k fun K hK=>?_
 have HK1:=hide hK
 clear hK
 go_wp2_with fail
 refine za HK1 _ _ ?_
 clear HK1
 change Hid ((((w.alloc (Obj.cells #[.int .i64 next,.slice a l.length cap] 46)).alloc (Obj.cells #[.int .i64 kk,.int .i64 s,.int .i64 ty,.int .i64 li,.int .i64 qt,.int .i64 ii,.float .f64 pr,.string tg] 39)).alloc (Obj.cells #[.int .i64 0,.slice none 0 0] 46)).heap.size = w.heap.size + 3∧World.rangeAt (((w.alloc (Obj.cells #[.int .i64 next,.slice a l.length cap] 46)).alloc (Obj.cells #[.int .i64 kk,.int .i64 s,.int .i64 ty,.int .i64 li,.int .i64 qt,.int .i64 ii,.float .f64 pr,.string tg] 39)).alloc (Obj.cells #[.int .i64 0,.slice none 0 0] 46)) w.heap.size 0 [.int .i64 next,.slice a l.length cap]∧World.rangeAt (((w.alloc (Obj.cells #[.int .i64 next,.slice a l.length cap] 46)).alloc (Obj.cells #[.int .i64 kk,.int .i64 s,.int .i64 ty,.int .i64 li,.int .i64 qt,.int .i64 ii,.float .f64 pr,.string tg] 39)).alloc (Obj.cells #[.int .i64 0,.slice none 0 0] 46)) (w.heap.size + 1) 0 [.int .i64 kk,.int .i64 s,.int .i64 ty,.int .i64 li,.int .i64 qt,.int .i64 ii,.float .f64 pr,.string tg]∧World.rangeAt (((w.alloc (Obj.cells #[.int .i64 next,.slice a l.length cap] 46)).alloc (Obj.cells #[.int .i64 kk,.int .i64 s,.int .i64 ty,.int .i64 li,.int .i64 qt,.int .i64 ii,.float .f64 pr,.string tg] 39)).alloc (Obj.cells #[.int .i64 0,.slice none 0 0] 46)) (w.heap.size + 1 + 1) 0 [.int .i64 0,.slice none 0 0]∧World.there (((w.alloc (Obj.cells #[.int .i64 next,.slice a l.length cap] 46)).alloc (Obj.cells #[.int .i64 kk,.int .i64 s,.int .i64 ty,.int .i64 li,.int .i64 qt,.int .i64 ii,.float .f64 pr,.string tg] 39)).alloc (Obj.cells #[.int .i64 0,.slice none 0 0] 46)) (w.heap.size + 1 + 1) 0 2∧Below w.heap.size w (((w.alloc (Obj.cells #[.int .i64 next,.slice a l.length cap] 46)).alloc (Obj.cells #[.int .i64 kk,.int .i64 s,.int .i64 ty,.int .i64 li,.int .i64 qt,.int .i64 ii,.float .f64 pr,.string tg] 39)).alloc (Obj.cells #[.int .i64 0,.slice none 0 0] 46))) at HB
 generalize (((w.alloc (Obj.cells #[.int .i64 next,.slice a l.length cap] 46)).alloc (Obj.cells #[.int .i64 kk,.int .i64 s,.int .i64 ty,.int .i64 li,.int .i64 qt,.int .i64 ii,.float .f64 pr,.string tg] 39)).alloc (Obj.cells #[.int .i64 0,.slice none 0 0] 46)) = X at HB ⊢
 have HCELL:Hid (∀ W:World,Below X.heap.size X W→W.cell? ⟨w.heap.size,0,none⟩ = some (.int .i64 next)∧W.cell? ⟨w.heap.size,1,none⟩ = some (.slice a l.length cap)∧W.cell? ⟨w.heap.size + 1,0,none⟩ = some (.int .i64 kk)∧W.cell? ⟨w.heap.size + 1,1,none⟩ = some (.int .i64 s)∧W.cell? ⟨w.heap.size + 1,2,none⟩ = some (.int .i64 ty)∧W.cell? ⟨w.heap.size + 1,3,none⟩ = some (.int .i64 li)∧W.cell? ⟨w.heap.size + 1,4,none⟩ = some (.int .i64 qt)∧W.cell? ⟨w.heap.size + 1,5,none⟩ = some (.int .i64 ii)∧W.cell? ⟨w.heap.size + 1,6,none⟩ = some (.float .f64 pr)∧W.cell? ⟨w.heap.size + 1,7,none⟩ = some (.string tg)):=fun W hW =>
  have p:=zb (za HB).2.1 hW (by have:=(za HB).1; omega)
  have q:=zb (za HB).2.2.1 hW (by have:=(za HB).1; omega)
  ⟨p 0 _ rfl,p 1 _ rfl,q 0 _ rfl,q 1 _ rfl,q 2 _ rfl,q 3 _ rfl,q 4 _ rfl,q 5 _ rfl,q 6 _ rfl,q 7 _ rfl⟩
 have hRX:w.heap.size + 1 + 1 < X.heap.size:=by have:=(za HB).1; omega
 refine wp_seq_k fun K hK=>?_
 have HT:∀ (a6:Option Addr) (c6:Nat) (w1:World),ORow w1 X.heap.size (.slice a6 l.length c6) l→Below X.heap.size X w1→K { tmps:=#[.agg #[.int .i64 next,.slice a l.length cap],.agg #[.int .i64 kk,.int .i64 s,.int .i64 ty,.int .i64 li,.int .i64 qt,.int .i64 ii,.float .f64 pr,.string tg],.pointer (some ⟨w.heap.size,0,none⟩),.pointer (some ⟨w.heap.size + 1,0,none⟩),.pointer (some ⟨w.heap.size + 1 + 1,0,none⟩),.slice none 0 0,.slice a6 l.length c6,undef,undef,undef,undef,undef,undef,undef,undef,undef,undef,undef,.slice (some ⟨X.heap.size,0,none⟩) 0 0,.pointer (some ⟨w.heap.size,1,none⟩),.slice a l.length cap,.slice a6 l.length c6,undef,undef,undef,undef,undef,undef,undef,undef,undef,undef,undef,undef,undef,undef,undef,undef,undef,undef,undef,undef,undef,undef,undef,undef,undef,undef,undef,undef,undef,undef,undef,undef,undef,undef,undef,undef,undef,undef,undef,undef,undef,undef,undef,undef,undef,undef,undef,undef,undef,undef,undef,undef,undef,undef,undef,undef,undef,undef,undef,undef,undef,undef,undef,undef,undef,undef,undef,undef,undef,undef,undef,undef,undef,undef,undef,undef,undef,undef,undef,undef,undef,undef,undef,undef,undef,undef,undef,undef,undef,undef,undef,undef,undef,undef,undef,undef,undef,undef,undef,undef,undef,undef,undef,undef,undef,undef,undef,undef,undef,undef,undef,undef,undef,undef,undef,undef,undef,undef,undef,undef,undef,undef,undef,undef,undef,undef,undef,undef,undef,undef,undef,undef,undef,undef,undef,undef,undef,undef,undef,undef,undef,undef,undef,undef,undef,undef,undef,undef,undef],defers:=[] } w1:=by
  intro a6 c6 w1 ho1 hb1
  refine hK _ _ ?_
  clear hK
  have HO1:=hide ho1
  have HB1:=hide hb1
  clear ho1 hb1
  obtain ⟨z0,z1,y0,y1,y2,y3,y4,y5,y6,y7⟩:=za HCELL w1 (za HB1)
  refine wp_seq_k fun K hK=>?_
  have HK1:=hide hK
  clear hK
  go_wp2_with fail
  refine (za HREA w1 (zl (za HR) ((za HB).2.2.2.2.2.trans ((za HB1).mono (za HB).2.2.2.2.2.size)) (Nat.le_refl _))).mono ?_
  rintro e w2 ⟨rfl,hb2⟩
  have HO2:=hide (zk (za HO1) hb2)
  have HB2:=hide ((za HB1).trans (hb2.mono (za HB1).size))
  clear z0 z1 y0 y1 y2 y3 y4 y5 y6 y7 hb2 HO1
  obtain ⟨z0,z1,y0,y1,y2,y3,y4,y5,y6,y7⟩:=za HCELL w2 (za HB2)
  have HTR:=hide (zf (za HB).2.2.2.2.1 (za HB2) hRX)
  have hRb:w.heap.size + 1 + 1 < w2.heap.size:=Nat.lt_of_lt_of_le hRX (za HB2).size
  have HBW:=hide ((za HB).2.2.2.2.2.trans ((za HB2).mono (za HB).2.2.2.2.2.size))
  have hXw:w.heap.size ≤ X.heap.size:=by omega
  have hX2:X.heap.size ≤ w2.heap.size:=(za HB2).size
  have hXb:=hX2
  by_cases hrr:rr = 0
  ·subst hrr
   have hkk:=za HK rfl
   rcases hkk with rfl | rfl | rfl | rfl
   ·exact absurd (za HWAY).2 (by decide)
   ·exact absurd (za HWAY).2 (by decide)
   ·exact absurd (za HWAY).2 (by decide)
   ·have HST:Hid (sN = next∧sL = l.filter ndy∧sE = ⟨8,zCm,0,0,((l.filter dyB).length:Nat),0,0⟩ :: (l.filter dyB).map expE):=⟨by rw [za HSN,if_neg (fun h=>by have:=h.2; omega)],by rw [za HSLL,if_pos rfl,if_neg (by omega),if_neg (by omega),if_neg (by omega)],by rw [za HSE,if_pos rfl,if_neg (by omega),if_neg (by omega),if_neg (by omega)]⟩
    clear HSN HSLL HSE HQ HID HK HNS HTA HMT HNO
    go_wp2_with fail
    refine za HK1 _ _ ?_
    clear HK1
    go_wp2_with fail
    refine (zaU _ l ii w2 (zM (za HO2) (by omega))).mono ?_
    generalize plc l ii = pk
    rintro e w3 ⟨rfl,hb3⟩
    have HO3:=hide (zk (za HO2) hb3)
    have HB3:=hide ((za HB2).trans (hb3.mono (za HB2).size))
    clear hb3 z0 z1 y0 y1 y2 y3 y4 y5 y6 y7 HTR HBW hRb hXb
    have HTR:=hide (zf (za HB).2.2.2.2.1 (za HB3) hRX)
    have hRb:w.heap.size + 1 + 1 < w3.heap.size:=Nat.lt_of_lt_of_le hRX (za HB3).size
    have HBW:=hide ((za HB).2.2.2.2.2.trans ((za HB3).mono (za HB).2.2.2.2.2.size))
    have hXb:X.heap.size ≤ w3.heap.size:=(za HB3).size
    obtain ⟨z0,z1,y0,y1,y2,y3,y4,y5,y6,y7⟩:=za HCELL w3 (za HB3)
    go_wp2_with fail
    refine (l04Days_any _ l w3 (zM (za HO3) (by omega)) (by omega)).mono ?_
    rintro e w4 ⟨v4,rfl,hI4,hb4⟩
    obtain ⟨ad,cd,hv4⟩:=zV hI4
    subst hv4
    have hnd0:(dys l).length = (l.filter dyB).length:=dysF_lenO l 0
    clear hI4
    generalize (dys l).length = nd at hnd0 ⊢
    have HND:=hide hnd0
    have hnd20:nd ≤ 20:=by rw [hnd0]; exact Nat.le_trans (List.length_filter_le _ _) hlen20
    clear hnd0
    have HO4:=hide (zk (za HO3) hb4)
    have HB4:=hide ((za HB3).trans (hb4.mono (za HB3).size))
    clear hb4 z0 z1 y0 y1 y2 y3 y4 y5 y6 y7
    have hsE:(w4.alloc (Obj.cells #[.int .i64 8,.int .i64 0,.int .i64 0,.int .i64 0,.int .i64 0,.int .i64 0,.int .i64 0,.float .f64 0,.string ⟨#[]⟩,.int .i64 0,.int .i64 0,.int .i64 nd,.int .i64 0,.int .i64 0] 43)).heap.size = w4.heap.size + 1:=ze _ _
    have hbE:Below w4.heap.size w4 ((w4.alloc (Obj.cells #[.int .i64 8,.int .i64 0,.int .i64 0,.int .i64 0,.int .i64 0,.int .i64 0,.int .i64 0,.float .f64 0,.string ⟨#[]⟩,.int .i64 0,.int .i64 0,.int .i64 nd,.int .i64 0,.int .i64 0] 43)).alloc (Obj.cells #[] 78)):=((Below.refl _ _).alloc (Nat.le_refl _) _).alloc (by rw [hsE]; omega) _
    have HE5:Hid (ERow ((w4.alloc (Obj.cells #[.int .i64 8,.int .i64 0,.int .i64 0,.int .i64 0,.int .i64 0,.int .i64 0,.int .i64 0,.float .f64 0,.string ⟨#[]⟩,.int .i64 0,.int .i64 0,.int .i64 nd,.int .i64 0,.int .i64 0] 43)).alloc (Obj.cells #[] 78)) w4.heap.size (.slice (some ⟨w4.heap.size,0,none⟩) 1 1) [⟨8,zCm,0,0,(nd:Int),0,0⟩]):=(eRow_one w4 ⟨8,zCm,0,0,(nd:Int),0,0⟩ (Nat.le_refl _)).alloc _
    have HL5:Hid (ORow ((w4.alloc (Obj.cells #[.int .i64 8,.int .i64 0,.int .i64 0,.int .i64 0,.int .i64 0,.int .i64 0,.int .i64 0,.float .f64 0,.string ⟨#[]⟩,.int .i64 0,.int .i64 0,.int .i64 nd,.int .i64 0,.int .i64 0] 43)).alloc (Obj.cells #[] 78)) w4.heap.size (.slice (some ⟨w4.heap.size + 1,0,none⟩) 0 0) []):=by have:=World.ownsRow_made (base:=w4.heap.size) (e:=78) (size:=6) (w4.alloc (Obj.cells #[.int .i64 8,.int .i64 0,.int .i64 0,.int .i64 0,.int .i64 0,.int .i64 0,.int .i64 0,.float .f64 0,.string ⟨#[]⟩,.int .i64 0,.int .i64 0,.int .i64 nd,.int .i64 0,.int .i64 0] 43)) #[] 0 (by rw [hsE]; omega) (by decide) rfl; rw [hsE] at this; exact this
    have HO5:=hide (zk (za HO4) hbE)
    have HB5:=hide ((za HB4).trans (hbE.mono (za HB4).size))
    have h45:w4.heap.size ≤ ((w4.alloc (Obj.cells #[.int .i64 8,.int .i64 0,.int .i64 0,.int .i64 0,.int .i64 0,.int .i64 0,.int .i64 0,.float .f64 0,.string ⟨#[]⟩,.int .i64 0,.int .i64 0,.int .i64 nd,.int .i64 0,.int .i64 0] 43)).alloc (Obj.cells #[] 78)).heap.size:=hbE.size
    have hX4:X.heap.size ≤ w4.heap.size:=(za HB4).size
    have hO4lt:Hid (∀ g,(Value.slice a6 l.length c6).ownBlock = some g→g < w4.heap.size):=fun g hg=>((za HO4).lt g hg).2
    clear hsE hbE
    have hsf:=sfl
    go_wp2_with fail
    generalize ((w4.alloc (Obj.cells #[.int .i64 8,.int .i64 0,.int .i64 0,.int .i64 0,.int .i64 0,.int .i64 0,.int .i64 0,.float .f64 0,.string ⟨#[]⟩,.int .i64 0,.int .i64 0,.int .i64 nd,.int .i64 0,.int .i64 0] 43)).alloc (Obj.cells #[] 78)) = W5 at HE5 HL5 HO5 HB5 h45 ⊢
    go_loopw [11,12,13] (fun evv lfv iv wr=>∃ (k:Nat),k ≤ l.length∧iv = .int .i64 k∧Hid (ERow wr w4.heap.size evv (⟨8,zCm,0,0,(nd:Int),0,0⟩ :: ((l.take k).filter dyB).map expE)∧ORow wr w4.heap.size lfv ((l.take k).filter ndy)∧ORow wr X.heap.size (.slice a6 l.length c6) l∧Below X.heap.size X wr∧w4.heap.size ≤ wr.heap.size)) (fun _ _ iv _=>l.length - (intOf iv).toNat)
    case atStart=>exact ⟨0,Nat.zero_le _,rfl,za HE5,za HL5,za HO5,za HB5,h45⟩
    case round =>
     obtain ⟨k,hk,rfl,hin⟩:=hrel
     by_cases hlt:k < l.length
     ·obtain ⟨o,hko⟩:∃ o,l[k]? = some o:=⟨_,List.getElem?_eq_getElem hlt⟩
      obtain ⟨a',c',e1,_,hcl⟩:=zM (za hin).2.2.1 (by omega)
      obtain ⟨b,off,e2,hb,hcl⟩:=hcl (by rintro rfl; simp at hko)
      simp only [Value.slice.injEq] at e1
      obtain ⟨e1,-,-⟩:=e1
      rw [e2] at e1
      subst e1
      have HCL:=hide (hcl k o hko)
      obtain ⟨g0,g1,g2,g3,g4,g5⟩:=zD (hcl k o hko)
      have hlt':(k:Int) < l.length:=by omega
      have hk0:(0:Int) ≤ k:=by omega
      have HKO:=hide hko
      clear hcl hko hb e2
      by_cases hd:o.life = 1
      ·have hbd:(o.life == 1) = true:=by simpa using hd
       have HNX:=hide (take_dy (za HKO) hd)
       have HNY:=hide (take_ny (za HKO) hd)
       clear hd
       go_wp2_with fail
       obtain ⟨hE,hL,hO,hB9,hs4⟩:=za hin
       have hlev:(⟨8,zCm,0,0,(nd:Int),0,0⟩ :: ((l.take k).filter dyB).map expE:List Ev).length ≤ 100:=by
        have h1:((l.take k).filter dyB).length ≤ 20:=Nat.le_trans (List.length_filter_le _ _) (Nat.le_trans (List.length_take_le _ _) (by omega))
        simp only [List.length_cons,List.length_map]; omega
       have hllf:((l.take k).filter ndy).length ≤ 20:=Nat.le_trans (List.length_filter_le _ _) (Nat.le_trans (List.length_take_le _ _) (by omega))
       have HNXE:Hid ((⟨8,zCm,0,0,(nd:Int),0,0⟩ :: ((l.take (k + 1)).filter dyB).map expE:List Ev) = (⟨8,zCm,0,0,(nd:Int),0,0⟩ :: ((l.take k).filter dyB).map expE) ++ [expE o]):=by show _ = _; rw [za HNX,List.map_append]; rfl
       have HNYE:=za HNY
       generalize (⟨8,zCm,0,0,(nd:Int),0,0⟩ :: ((l.take k).filter dyB).map expE:List Ev) = evs at hE hlev HNXE
       generalize (l.take k).filter ndy = LF at hL hllf HNYE
       have HNYE:=hide HNYE
       have HE:=hide hE
       have HL:=hide hL
       have HO:=hide hO
       have HB9:=hide hB9
       clear hE hL hO hB9 hin
       have HG0:=hide g0
       have HG3:=hide g3
       clear g0 g1 g2 g3 g4 g5
       refine zo (RYBA (fun f=>{ tmps:=#[.agg #[.int .i64 next,.slice a l.length cap],.agg #[.int .i64 4,.int .i64 s,.int .i64 ty,.int .i64 li,.int .i64 qt,.int .i64 ii,.float .f64 pr,.string tg],.pointer (some ⟨w.heap.size,0,none⟩),.pointer (some ⟨w.heap.size + 1,0,none⟩),.pointer (some ⟨w.heap.size + 1 + 1,0,none⟩),.slice none 0 0,.slice (some ⟨b,off,none⟩) l.length c6,.int .i64 0,.int .i64 pk,undef,.slice ad nd cd,f 14,u12,.int .i64 k,undef,undef,undef,undef,.slice (some ⟨X.heap.size,0,none⟩) 0 0,.pointer (some ⟨w.heap.size,1,none⟩),.slice a l.length cap,.slice (some ⟨b,off,none⟩) l.length c6,.agg #[.int .i64 next,.slice a l.length cap],.agg #[.int .i64 4,.int .i64 s,.int .i64 ty,.int .i64 li,.int .i64 qt,.int .i64 ii,.float .f64 pr,.string tg],.int .i64 0,.int .i64 0,.bool false,undef,undef,undef,undef,undef,undef,undef,undef,undef,.slice (some ⟨b,off,none⟩) l.length c6,.pointer (some ⟨w.heap.size + 1,5,none⟩),.int .i64 ii,.int .i64 pk,.pointer (some ⟨w.heap.size + 1,0,none⟩),.int .i64 4,.bool false,.bool false,undef,undef,undef,undef,undef,undef,undef,undef,undef,undef,undef,undef,undef,undef,undef,undef,.bool false,.bool false,undef,undef,undef,undef,undef,undef,undef,undef,undef,undef,undef,undef,undef,undef,undef,undef,.bool true,.bool true,.slice (some ⟨b,off,none⟩) l.length c6,.slice ad nd cd,.slice ad nd cd,.int .i64 nd,.agg #[.int .i64 8,.int .i64 0,.int .i64 0,.int .i64 0,.int .i64 0,.int .i64 0,.int .i64 0,.float .f64 0,.string ⟨#[]⟩,.int .i64 0,.int .i64 0,.int .i64 nd,.int .i64 0,.int .i64 0],.slice (some ⟨w4.heap.size,0,none⟩) 1 1,.slice (some ⟨w4.heap.size + 1,0,none⟩) 0 0,.int .i64 k,.slice (some ⟨b,off,none⟩) l.length c6,.int .i64 l.length,.bool true,u91,u92,.slice (some ⟨b,off,none⟩) l.length c6,.int .i64 k,.pointer (some ⟨b,off + k * 6,none⟩),.pointer (some ⟨b,off + k * 6 + 4,none⟩),.int .i64 o.life,.bool true,f 0,f 1,f 2,f 3,f 4,f 5,f 6,f 7,f 8,f 9,f 10,f 11,f 12,f 13,u113,u114,u115,u116,u117,u118,u119,undef,undef,undef,undef,undef,undef,undef,undef,undef,undef,undef,undef,undef,undef,undef,undef,undef,undef,undef,undef,undef,undef,undef,undef,undef,undef,undef,undef,undef,undef,undef,undef,undef,undef,undef,undef,undef,undef,undef,undef,undef,undef,undef,undef,undef,undef,undef,undef,undef,undef,undef],defers:=[] }) (CX [u11,.slice (some ⟨b,off,none⟩) l.length c6,.int .i64 k,.pointer (some ⟨b,off + k * 6,none⟩),.pointer (some ⟨b,off + k * 6,none⟩),.int .i64 o.id,.slice (some ⟨b,off,none⟩) l.length c6,.int .i64 k,.pointer (some ⟨b,off + k * 6,none⟩),.pointer (some ⟨b,off + k * 6 + 3,none⟩),.int .i64 o.left,.agg #[.int .i64 9,.int .i64 0,.int .i64 0,.int .i64 0,.int .i64 0,.int .i64 0,.int .i64 0,.float .f64 0,.string ⟨#[]⟩,.int .i64 o.id,.int .i64 0,.int .i64 o.left,.int .i64 0,.int .i64 0],undef,undef,undef] [(12,3)] (w4.heap.size) 0 [] ([expE o])) 13 (u11) (fun f W=>ERow W w4.heap.size (f 13) (evs ++ [expE o])∧ORow W w4.heap.size u12 LF∧ORow W X.heap.size (.slice (some ⟨b,off,none⟩) l.length c6) l∧Below X.heap.size X W∧w4.heap.size ≤ W.heap.size) wr) (by kernel_rfl) ?_ ?_ ?_
       ·exact ⟨fun j=>([u99,u100,u101,u102,u103,u104,u105,u106,u107,u108,u109,u110,u111,u112,u11]:List Value)[j]?.getD undef,rfl,ry_start (by decide),ryb_start rfl⟩
       rotate_left
       ·rintro x A V i op ⟨f,rfl,hR,hA⟩ hcl hx ho hxi hall
        have HRR:=hide hR
        have HAA:=hide hA
        clear hA
        have cellV:x[13]? = some false→∀ (p:Addr) u,wr.cell? p = some u→V.cell? p = some u:=fun hn p u hu=>((hR.b hn).cell (World.block_lt_of_cell? wr _ hu)).trans hu
        match i,ho with
        | 0,ho =>
         obtain rfl:=Option.some.inj ho
         have hn:x[13]? = some false:=zx hcl 12 0 13 (by kernel_rfl) hx (by simp) hxi
         have g14:f 14 = u11:=(za HAA).2 (zx hcl 12 0 14 (by kernel_rfl) hx (by simp) hxi)
         clear hall hR hcl cellV
         rw [if_pos (by rfl)]
         unfold Oper.wp
         go_simp
         exact ⟨upd f 0 u11,by simp [upd,g14],zU (za HRR) 0 _ hn (by decide) (zT rfl rfl),zW _ (za HAA) (by decide) (by decide)⟩
        | 1,ho =>
         obtain rfl:=Option.some.inj ho
         have hn:x[13]? = some false:=zx hcl 12 1 13 (by kernel_rfl) hx (by simp) hxi
         clear hall hR hcl cellV
         rw [if_pos (by rfl)]
         unfold Oper.wp
         go_simp
         exact ⟨upd f 1 (.slice (some ⟨b,off,none⟩) l.length c6),by simp [upd],zU (za HRR) 1 _ hn (by decide) (zT rfl rfl),zW _ (za HAA) (by decide) (by decide)⟩
        | 2,ho =>
         obtain rfl:=Option.some.inj ho
         have hn:x[13]? = some false:=zx hcl 12 2 13 (by kernel_rfl) hx (by simp) hxi
         clear hall hR hcl cellV
         rw [if_pos (by rfl)]
         unfold Oper.wp
         go_simp
         exact ⟨upd f 2 (.int .i64 k),by simp [upd],zU (za HRR) 2 _ hn (by decide) (zT rfl rfl),zW _ (za HAA) (by decide) (by decide)⟩
        | 3,ho =>
         obtain rfl:=Option.some.inj ho
         have hn:x[13]? = some false:=zx hcl 12 3 13 (by kernel_rfl) hx (by simp) hxi
         have g1:f 1 = .slice (some ⟨b,off,none⟩) l.length c6:=zQ (hR.c hn 1 (hall ⟨1,.data⟩ (by simp) rfl)) rfl rfl
         have g2:f 2 = .int .i64 k:=zQ (hR.c hn 2 (hall ⟨2,.data⟩ (by simp) rfl)) rfl rfl
         clear hall hR hcl cellV
         rw [if_pos (by rfl)]
         unfold Oper.wp
         go_simp
         exact ⟨upd f 3 (.pointer (some ⟨b,off + k * 6,none⟩)),by simp [upd,g1,g2],zU (za HRR) 3 _ hn (by decide) (zT rfl rfl),zW _ (za HAA) (by decide) (by decide)⟩
        | 4,ho =>
         obtain rfl:=Option.some.inj ho
         have hn:x[13]? = some false:=zx hcl 12 4 13 (by kernel_rfl) hx (by simp) hxi
         have g3:f 3 = .pointer (some ⟨b,off + k * 6,none⟩):=zQ (hR.c hn 3 (hall ⟨3,.data⟩ (by simp) rfl)) rfl rfl
         clear hall hR hcl cellV
         rw [if_pos (by rfl)]
         unfold Oper.wp
         go_simp
         exact ⟨upd f 4 (.pointer (some ⟨b,off + k * 6,none⟩)),by simp [upd,g3],zU (za HRR) 4 _ hn (by decide) (zT rfl rfl),zW _ (za HAA) (by decide) (by decide)⟩
        | 5,ho =>
         obtain rfl:=Option.some.inj ho
         have hn:x[13]? = some false:=zx hcl 12 5 13 (by kernel_rfl) hx (by simp) hxi
         have g4:f 4 = .pointer (some ⟨b,off + k * 6,none⟩):=zQ (hR.c hn 4 (hall ⟨4,.data⟩ (by simp) rfl)) rfl rfl
         have q0:=cellV hn ⟨b,off + k * 6,none⟩ _ (za HG0)
         clear hall hR hcl cellV
         rw [if_pos (by rfl)]
         unfold Oper.wp
         go_simp
         exact ⟨upd f 5 (.int .i64 o.id),by simp [upd,g4],zU (za HRR) 5 _ hn (by decide) (zT rfl rfl),zW _ (za HAA) (by decide) (by decide)⟩
        | 6,ho =>
         obtain rfl:=Option.some.inj ho
         have hn:x[13]? = some false:=zx hcl 12 6 13 (by kernel_rfl) hx (by simp) hxi
         clear hall hR hcl cellV
         rw [if_pos (by rfl)]
         unfold Oper.wp
         go_simp
         exact ⟨upd f 6 (.slice (some ⟨b,off,none⟩) l.length c6),by simp [upd],zU (za HRR) 6 _ hn (by decide) (zT rfl rfl),zW _ (za HAA) (by decide) (by decide)⟩
        | 7,ho =>
         obtain rfl:=Option.some.inj ho
         have hn:x[13]? = some false:=zx hcl 12 7 13 (by kernel_rfl) hx (by simp) hxi
         clear hall hR hcl cellV
         rw [if_pos (by rfl)]
         unfold Oper.wp
         go_simp
         exact ⟨upd f 7 (.int .i64 k),by simp [upd],zU (za HRR) 7 _ hn (by decide) (zT rfl rfl),zW _ (za HAA) (by decide) (by decide)⟩
        | 8,ho =>
         obtain rfl:=Option.some.inj ho
         have hn:x[13]? = some false:=zx hcl 12 8 13 (by kernel_rfl) hx (by simp) hxi
         have g6:f 6 = .slice (some ⟨b,off,none⟩) l.length c6:=zQ (hR.c hn 6 (hall ⟨6,.data⟩ (by simp) rfl)) rfl rfl
         have g7:f 7 = .int .i64 k:=zQ (hR.c hn 7 (hall ⟨7,.data⟩ (by simp) rfl)) rfl rfl
         clear hall hR hcl cellV
         rw [if_pos (by rfl)]
         unfold Oper.wp
         go_simp
         exact ⟨upd f 8 (.pointer (some ⟨b,off + k * 6,none⟩)),by simp [upd,g6,g7],zU (za HRR) 8 _ hn (by decide) (zT rfl rfl),zW _ (za HAA) (by decide) (by decide)⟩
        | 9,ho =>
         obtain rfl:=Option.some.inj ho
         have hn:x[13]? = some false:=zx hcl 12 9 13 (by kernel_rfl) hx (by simp) hxi
         have g8:f 8 = .pointer (some ⟨b,off + k * 6,none⟩):=zQ (hR.c hn 8 (hall ⟨8,.data⟩ (by simp) rfl)) rfl rfl
         clear hall hR hcl cellV
         rw [if_pos (by rfl)]
         unfold Oper.wp
         go_simp
         exact ⟨upd f 9 (.pointer (some ⟨b,off + k * 6 + 3,none⟩)),by simp [upd,g8],zU (za HRR) 9 _ hn (by decide) (zT rfl rfl),zW _ (za HAA) (by decide) (by decide)⟩
        | 10,ho =>
         obtain rfl:=Option.some.inj ho
         have hn:x[13]? = some false:=zx hcl 12 10 13 (by kernel_rfl) hx (by simp) hxi
         have g9:f 9 = .pointer (some ⟨b,off + k * 6 + 3,none⟩):=zQ (hR.c hn 9 (hall ⟨9,.data⟩ (by simp) rfl)) rfl rfl
         have q3:=cellV hn ⟨b,off + k * 6 + 3,none⟩ _ (za HG3)
         clear hall hR hcl cellV
         rw [if_pos (by rfl)]
         unfold Oper.wp
         go_simp
         exact ⟨upd f 10 (.int .i64 o.left),by simp [upd,g9],zU (za HRR) 10 _ hn (by decide) (zT rfl rfl),zW _ (za HAA) (by decide) (by decide)⟩
        | 11,ho =>
         obtain rfl:=Option.some.inj ho
         have hn:x[13]? = some false:=zx hcl 12 11 13 (by kernel_rfl) hx (by simp) hxi
         have g5:f 5 = .int .i64 o.id:=zQ (hR.c hn 5 (hall ⟨5,.data⟩ (by simp) rfl)) rfl rfl
         have g10:f 10 = .int .i64 o.left:=zQ (hR.c hn 10 (hall ⟨10,.data⟩ (by simp) rfl)) rfl rfl
         clear hall hR hcl cellV
         rw [if_pos (by rfl)]
         unfold Oper.wp
         go_simp
         exact ⟨upd f 11 (.agg #[.int .i64 9,.int .i64 0,.int .i64 0,.int .i64 0,.int .i64 0,.int .i64 0,.int .i64 0,.float .f64 0,.string ⟨#[]⟩,.int .i64 o.id,.int .i64 0,.int .i64 o.left,.int .i64 0,.int .i64 0]),by simp [upd,g5,g10],zU (za HRR) 11 _ hn (by decide) (zT rfl rfl),zW _ (za HAA) (by decide) (by decide)⟩
        | 12,ho =>
         obtain rfl:=Option.some.inj ho
         have hn:x[13]? = some false:=zx hcl 12 12 13 (by kernel_rfl) hx (by simp) hxi
         have g11:f 11 = .agg #[.int .i64 9,.int .i64 0,.int .i64 0,.int .i64 0,.int .i64 0,.int .i64 0,.int .i64 0,.float .f64 0,.string ⟨#[]⟩,.int .i64 o.id,.int .i64 0,.int .i64 o.left,.int .i64 0,.int .i64 0]:=zQ (hR.c hn 11 (hall ⟨11,.data⟩ (by simp) rfl)) rfl rfl
         have hszV:=Nat.le_trans hs4 (hR.b hn).size
         clear hall hR hcl cellV
         rw [if_pos (by rfl)]
         unfold Oper.wp
         go_simp
         exact ⟨upd f 12 (.slice (some ⟨V.heap.size,0,none⟩) 1 1),by simp [upd,g11],zU (ry_grow (cx_monoB (by omega)) (za HRR) hn ((Below.refl _ _).alloc (Nat.le_refl _) _)) 12 _ hn (by decide) (zbQ (d:=3) rfl ⟨V.heap.size,rfl,by rw [ze]; omega,hszV,zh V (expE o).vs _⟩),zW _ (za HAA) (by decide) (by decide)⟩
        | 13,ho =>
         obtain rfl:=Option.some.inj ho
         have hn:x[13]? = some false:=hxi
         have g0:f 0 = u11:=zQ (hR.c hn 0 (hall ⟨0,.data⟩ (by simp) rfl)) rfl rfl
         obtain ⟨b12,g12,hb12,_,hr12⟩:=cx_sp (d:=3) (hR.c hn 12 (hall ⟨12,.data⟩ (by simp) rfl)) rfl
         have h14:x[14]? = some false:=zx hcl 12 13 14 (by kernel_rfl) hx (by simp) hxi
         have hbV:=hR.b hn
         have hEV:=zI (za HE) hbV
         have hLV:=zk (za HL) hbV
         have hOV:=zk (za HO) hbV
         have hBV:=(za HB9).trans (hbV.mono (za HB9).size)
         have hsV:=Nat.le_trans hs4 hbV.size
         rw [if_pos (by rfl)]
         refine wp_append_own V (.tmp 99) (.tmp 111) 36 rfl w4.heap.size 43 j0 _ 14 120 Tryz.underlying36 hj0 hy0 hy1 hy2 rfl (by decide) u11 evs.length (evs.flatMap Ev.vs) g0 hEV ⟨b12,0,none⟩ 1 1 (expE o).vs g12 rfl (fun j u hu=>by rw [Addr.add_mid]; exact hr12 j u hu) (one_ev (expE o)) (by unfold maxLen; omega) (by omega) hsV ?_
         intro v' w' hown hgr _
         refine ⟨upd f 13 v',rfl,ry_write (za HRR) hn v' ⟨?_,World.ownsRow.kept hLV hgr (zB hLV hEV (by decide)),World.ownsRow.kept hOV hgr (zB hOV hEV (by decide)),hBV.grown hgr hBV.size (fun g hg=>Nat.le_trans hX4 (hEV.lt g hg).1),Nat.le_trans hsV hgr.size⟩,ryb_write v' (za HAA) h14⟩
         rw [show upd f 13 v' 13 = v' from zp _ _ _]
         show w'.ownsRow _ _ _ _ (evs ++ [expE o]).length _
         rw [List.length_append,List.flatMap_append]
         simpa using hown
        | 14,ho =>
         obtain rfl:=Option.some.inj ho
         have hn:x[13]? = some true:=hall ⟨13,.data⟩ (by simp) rfl
         clear hall hR hcl cellV
         rw [if_pos (by rfl)]
         unfold Oper.wp
         go_simp
         exact ⟨upd f 14 (f 13),by simp [upd],ry_after (za HRR) 14 _ hn (by decide) (fun h=>h),ryb_lay hxi⟩
        | n + 15,ho=>simp at ho
       ·rintro x A V ⟨f,rfl,hR,hA⟩ hx hrd
        have hallx:=zac hrd hx (by kernel_rfl)
        have e14:f 14 = f 13:=hA.1 (hallx 14 (by simp))
        obtain ⟨q1,q2,q3,q4,q5⟩:=hR.m (hallx 13 (by simp))
        rw [← e14] at q1
        have HQ1:=hide q1
        have HQ2:=hide q2
        have HQ3:=hide q3
        have HQ4:=hide q4
        clear hR hA hallx hrd hx q1 q2 q3 q4 e14
        dsimp only
        generalize f 0 = w0
        generalize f 1 = w1
        generalize f 2 = w2
        generalize f 3 = w3
        generalize f 4 = w4
        generalize f 5 = w5
        generalize f 6 = w6
        generalize f 7 = w7
        generalize f 8 = w8
        generalize f 9 = w9
        generalize f 10 = w10
        generalize f 11 = w11
        generalize f 12 = w12
        generalize f 13 = w13
        generalize f 14 = w14 at HQ1 ⊢
        go_wp2_with fail
        go_roundw
        case rel=>exact ⟨k + 1,by omega,by go_num,by rw [za HNXE]; exact za HQ1,by rw [za HNYE]; exact za HQ2,za HQ3,za HQ4,q5⟩
        case measure=>simp [intOf]; omega
      ·have hbd:(o.life == 1) = false:=by rw [beq_eq_false_iff_ne]; exact hd
       have HNX:=hide (take_no (za HKO) hd)
       have HNY:=hide (take_nd (za HKO) hd)
       clear hd
       obtain ⟨hE,hL,hO,hB9,hs4⟩:=za hin
       have hlev:(⟨8,zCm,0,0,(nd:Int),0,0⟩ :: ((l.take k).filter dyB).map expE:List Ev).length ≤ 100:=by
        have h1:((l.take k).filter dyB).length ≤ 20:=Nat.le_trans (List.length_filter_le _ _) (Nat.le_trans (List.length_take_le _ _) (by omega))
        simp only [List.length_cons,List.length_map]; omega
       have hllf:((l.take k).filter ndy).length ≤ 20:=Nat.le_trans (List.length_filter_le _ _) (Nat.le_trans (List.length_take_le _ _) (by omega))
       have HNXE:Hid ((⟨8,zCm,0,0,(nd:Int),0,0⟩ :: ((l.take (k + 1)).filter dyB).map expE:List Ev) = (⟨8,zCm,0,0,(nd:Int),0,0⟩ :: ((l.take k).filter dyB).map expE)):=by show _ = _; rw [za HNX]
       have HNYE:=za HNY
       generalize (⟨8,zCm,0,0,(nd:Int),0,0⟩ :: ((l.take k).filter dyB).map expE:List Ev) = evs at hE hlev HNXE
       generalize (l.take k).filter ndy = LF at hL hllf HNYE
       have HNYE:=hide HNYE
       have HE:=hide hE
       have HL:=hide hL
       have HO:=hide hO
       have HB9:=hide hB9
       clear hE hL hO hB9 hin
       have HLA:=hide ((za HL).alloc (Obj.cells #[.int .i64 o.id,.int .i64 o.side,.int .i64 o.ticks,.int .i64 o.left,.int .i64 o.life,.string o.tag] 78))
       have HBA:Hid (Below wr.heap.size wr (wr.alloc (Obj.cells #[.int .i64 o.id,.int .i64 o.side,.int .i64 o.ticks,.int .i64 o.left,.int .i64 o.life,.string o.tag] 78))):=(Below.refl _ _).alloc (Nat.le_refl _) _
       go_wp2_with (at_builtin; go_must (refine wpList_append_own _ rfl _ _ 44 rfl w4.heap.size 78 i0 _ 6 56 Tryz.underlying44 hi0 hz0 hz1 hz2 rfl (by decide) u12 LF.length (LF.flatMap Od.vs) rfl (za HLA) ⟨wr.heap.size,0,none⟩ 1 1 o.vs rfl rfl (cellsQ wr o.vs 78) (one_od o) (by unfold maxLen; omega) (by omega) (Nat.le_trans hs4 (za HBA).size) ?_); intro v5 w5 hown5 hg5 _; have HO5:=hide hown5; have HG5:=hide hg5; clear hown5 hg5)
       have HN:Hid (ERow w5 w4.heap.size u11 evs∧ORow w5 w4.heap.size v5 (LF ++ [o])∧ORow w5 X.heap.size (.slice (some ⟨b,off,none⟩) l.length c6) l∧Below X.heap.size X w5∧w4.heap.size ≤ w5.heap.size):=by
        have hEA:=zI (za HE) (za HBA)
        have hOA:=zk (za HO) (za HBA)
        have hBA:=(za HB9).trans ((za HBA).mono (za HB9).size)
        refine ⟨World.ownsRow.kept hEA (za HG5) (zB hEA (za HLA) (by decide)),?_,World.ownsRow.kept hOA (za HG5) (.inr fun e=>?_),hBA.grown (za HG5) hBA.size (fun g hg=>Nat.le_trans hX4 ((za HLA).lt g hg).1),Nat.le_trans hs4 (Nat.le_trans (za HBA).size (za HG5).size)⟩
        ·show w5.ownsRow _ _ _ _ (LF ++ [o]).length _
         rw [List.length_append,List.flatMap_append]
         simpa using za HO5
        ·have h1:=za hO4lt b rfl
         have h2:=((za HLA).lt b e.symm).1
         omega
       clear HO5 HG5
       go_wp2_with fail
       go_roundw
       case rel=>exact ⟨k + 1,by omega,by go_num,by rw [za HNXE]; exact (za HN).1,by rw [za HNYE]; exact (za HN).2.1,(za HN).2.2.1,(za HN).2.2.2.1,(za HN).2.2.2.2⟩
       case measure=>simp [intOf]; omega
     ·obtain rfl:k = l.length:=by omega
      have hlt':¬ (l.length:Int) < l.length:=by omega
      obtain ⟨hE,hL,hO,hB9,hs4⟩:=za hin
      rw [List.take_of_length_le (Nat.le_refl _)] at hE hL
      have HSL9:Hid (sL = l.filter ndy):=(za HST).2.1
      generalize l.filter ndy = LF at hL HSL9
      obtain ⟨al,cl,hv⟩:=zV hL
      subst hv
      obtain ⟨z0,z1,y0,y1,y2,y3,y4,y5,y6,y7⟩:=za HCELL wr hB9
      have hTW:=zf (za HB).2.2.2.2.1 hB9 hRX
      obtain ⟨p0,x0,f0⟩:=zc hTW (j:=0) (by omega)
      obtain ⟨p1,x1,f1⟩:=zc hTW (j:=1) (by omega)
      have hBW:=(za HB).2.2.2.2.2.trans (hB9.mono (za HB).2.2.2.2.2.size)
      have HWF:Hid (Below w.heap.size w ((wr.setCell ⟨w.heap.size + 1 + 1,0,none⟩ (.int .i64 next)).setCell ⟨w.heap.size + 1 + 1,1,none⟩ (.slice al LF.length cl))):=(hBW.setCell (p:=⟨w.heap.size + 1 + 1,0,none⟩) (show w.heap.size ≤ w.heap.size + 1 + 1 by omega) _).setCell (p:=⟨w.heap.size + 1 + 1,1,none⟩) (show w.heap.size ≤ w.heap.size + 1 + 1 by omega) _
      have hS4:w.heap.size + 1 + 1 < w4.heap.size:=by omega
      have HEF:Hid (ERow ((wr.setCell ⟨w.heap.size + 1 + 1,0,none⟩ (.int .i64 next)).setCell ⟨w.heap.size + 1 + 1,1,none⟩ (.slice al LF.length cl)) w.heap.size u11 _):=zH (zbu (zbu hE hS4 0 _) hS4 1 _) (by omega)
      have HLF:Hid (ORow ((wr.setCell ⟨w.heap.size + 1 + 1,0,none⟩ (.int .i64 next)).setCell ⟨w.heap.size + 1 + 1,1,none⟩ (.slice al LF.length cl)) w.heap.size (.slice al LF.length cl) LF):=zH (zaD (zaD hL hS4 0 _) hS4 1 _) (by omega)
      have d0:((wr.setCell ⟨w.heap.size + 1 + 1,0,none⟩ (.int .i64 next)).setCell ⟨w.heap.size + 1 + 1,1,none⟩ (.slice al LF.length cl)).cell? ⟨w.heap.size + 1 + 1,0,none⟩ = some (.int .i64 next):=(World.cell?_setCell_other _ _ _ _ (zX (by decide))).trans (World.cell?_setCell_same _ _ _ x0)
      have d1:((wr.setCell ⟨w.heap.size + 1 + 1,0,none⟩ (.int .i64 next)).setCell ⟨w.heap.size + 1 + 1,1,none⟩ (.slice al LF.length cl)).cell? ⟨w.heap.size + 1 + 1,1,none⟩ = some (.slice al LF.length cl):=World.cell?_setCell_same _ _ _ ((World.cell?_setCell_other _ _ _ _ (zX (by decide))).trans x1)
      have HD0:=hide d0
      have HD1:=hide d1
      clear hE hL hO hB9 hin hTW hBW d0 d1 y0 y1 y2 y3 y4 y5 y6 y7
      go_wp2_with fail
      have d0:=za HD0
      have d1:=za HD1
      try simp only [Exit.inBlock,Exit.then]
      refine bodyPost_ret (by simp [results,Tryz.results22,go_sem,d0,d1]; try rfl) rfl ?_
      obtain ⟨rfl,-,hsE9⟩:=za HST
      rw [← za HND] at hsE9
      have hsL9:=za HSL9
      subst hsL9 hsE9
      exact ⟨_,_,rfl,za HLF,za HEF,za HWF⟩
  ·have hrr0:=hrr
   have hrb:(rr == 0) = false:=by rw [beq_eq_false_iff_ne]; exact hrr
   have HST:Hid (sN = next∧sL = l∧sE = [⟨2,⟨kk,s,ty,li,qt,ii,pr,cutB tg⟩,0,0,0,0,rr⟩]):=⟨by rw [za HSN,if_neg (fun h=>hrr h.1)],by rw [za HSLL,if_neg hrr],by rw [za HSE,if_neg hrr]⟩
   skip
   exact absurd (za HWAY).1 hrr0
 rcases za HSL with hs | ⟨ad,nn,cc,hs⟩
 ·simp only [Value.slice.injEq] at hs
  obtain ⟨rfl,hl0,rfl⟩:=hs
  obtain rfl:=List.length_eq_zero_iff.1 hl0
  obtain ⟨z0,z1,y0,y1,y2,y3,y4,y5,y6,y7⟩:=za HCELL X (Below.refl _ _)
  have HO0:=hide (World.ownsRow_made (base:=X.heap.size) (e:=78) (size:=6) X #[] 0 (Nat.le_refl _) (by decide) rfl)
  have hzX:World.cell? (X.alloc (Obj.cells #[] 78)) ⟨w.heap.size,1,none⟩ = some (.slice none 0 0):=(za HCELL _ ((Below.refl _ _).alloc (Nat.le_refl _) _)).2.1
  have HT':=hide HT
  clear HT hK
  go_wp2_with (at_builtin; go_must (refine wpList_append_own_none rfl _ _ 44 rfl X.heap.size 78 i0 6 Tryz.underlying44 hi0 (.slice (some ⟨X.heap.size,0,none⟩) 0 0) 0 [] rfl (za HO0) rfl ?_))
  exact za HT' _ _ _ (za HO0) ((Below.refl _ _).alloc (Nat.le_refl _) _)
 ·simp only [Value.slice.injEq] at hs
  obtain ⟨rfl,rfl,rfl⟩:=hs
  obtain ⟨z0,z1,y0,y1,y2,y3,y4,y5,y6,y7⟩:=za HCELL X (Below.refl _ _)
  have HBX0:Hid (Below X.heap.size X (X.alloc (Obj.cells #[] 78))):=(Below.refl _ _).alloc (Nat.le_refl _) _
  have HO0:=hide (World.ownsRow_made (base:=X.heap.size) (e:=78) (size:=6) X #[] 0 (Nat.le_refl _) (by decide) rfl)
  have hzX:World.cell? (X.alloc (Obj.cells #[] 78)) ⟨w.heap.size,1,none⟩ = some (.slice (some ad) l.length cap):=(za HCELL _ (za HBX0)).2.1
  have HSRC:Hid (∀ j u,(l.flatMap Od.vs)[j]? = some u→World.cell? (X.alloc (Obj.cells #[] 78)) (ad.add j) = some u):=rd_src (zl (za HR) ((za HB).2.2.2.2.2.trans ((za HBX0).mono (za HB).2.2.2.2.2.size)) (Nat.le_refl _))
  have HT':=hide HT
  clear HT hK
  go_wp2_with (at_builtin; go_must (refine wpList_append_own _ rfl _ _ 44 rfl X.heap.size 78 i0 _ 6 56 Tryz.underlying44 hi0 hz0 hz1 hz2 rfl (by decide) (.slice (some ⟨X.heap.size,0,none⟩) 0 0) 0 [] rfl (za HO0) ad l.length cap (l.flatMap Od.vs) rfl (by rw [zJ Od.len]) (za HSRC) (zaF l) (by unfold maxLen; omega) (by omega) (za HBX0).size ?_); intro v1 w1 hown1 hg1 _; have HO1:=hide hown1; have HG1:=hide hg1; clear hown1 hg1)
  have HOO:Hid (ORow w1 X.heap.size v1 l):=by
   show w1.ownsRow _ _ _ _ l.length _
   simpa using za HO1
  obtain ⟨a6,c6,hv⟩:=zV (za HOO)
  subst hv
  exact za HT' _ _ _ (za HOO) ((za HBX0).grown (za HG1) (za HBX0).size (fun k hk=>((za HO0).lt k hk).1))
end Go.Proofs.YtopjoogdpjaocaaGreat
