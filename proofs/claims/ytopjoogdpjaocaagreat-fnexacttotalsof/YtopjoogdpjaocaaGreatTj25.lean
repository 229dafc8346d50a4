/-
  What the two functions that cut a text return, proved by walking them: the text, or its first 13 bytes.
-/
import Derived.Test.YtopjoogdpjaocaaGreatTj23
import Derived.Test.YtopjoogdpjaocaaGreatTj24
set_option linter.unusedVariables false
set_option maxHeartbeats 6400000
set_option maxRecDepth 100000
namespace Go.Proofs.YtopjoogdpjaocaaGreat
open Go.RowKit
def cutB (s:ByteArray):ByteArray:=if 12 < s.size then s.extract 0 13 else s
theorem cutB_one (s:ByteArray) (h:s.size = 13):cutB s = s:=by
 unfold cutB; rw [if_pos (by omega),← h]; exact ByteArray.extract_zero_size
theorem implCut_any (s:ByteArray) (w:World) (hs:s.size ≤ maxLen) :
  Calls Tryz.prog 47 #[.string s] w fun e w'=>e = .returned (.string (cutB s))∧w' = w:=by
 unfold maxLen at hs
 by_cases h:12 < s.size
 ·have HF:=hide (show cutB s = s.extract 0 13 from if_pos h)
  have h':(12:Int) < s.size:=by omega
  go_enter Tryz.func47,Tryz.ntmps47
  go_wp2
  go_ret
  exact ⟨by rw [za HF]; rfl,rfl⟩
 ·have HF:=hide (show cutB s = s from if_neg h)
  have h':(s.size:Int) ≤ 12:=by omega
  go_enter Tryz.func47,Tryz.ntmps47
  go_wp2
  go_ret
  exact ⟨by rw [za HF]; rfl,rfl⟩
def stN (next:Int) (l:List Od) (c:Cm):Int:=if refR next l c = 0∧c.k = 1 then next + 1 else next
def stL (next:Int) (l:List Od) (c:Cm):List Od :=
 if refR next l c = 0 then
  if c.k = 1 then accL c next (matL c next 21 l c.q [])
  else if c.k = 2 then (match l[(plc l c.i).toNat]? with | some o=>zau l (plc l c.i).toNat o o.left | none=>l)
  else if c.k = 3 then (match l[(plc l c.i).toNat]? with | some o=>l.set (plc l c.i).toNat { o with left:=c.q } | none=>l)
  else l.filter ndy
 else l
def stE (next:Int) (l:List Od) (c:Cm):List Ev :=
 if refR next l c = 0 then
  if c.k = 1 then accE c next (matL c next 21 l c.q [])
  else if c.k = 2 then (match l[(plc l c.i).toNat]? with | some o=>[⟨6,zCm,c.i,0,o.left,0,0⟩] | none=>[])
  else if c.k = 3 then [⟨7,zCm,c.i,0,c.q,0,0⟩]
  else ⟨8,zCm,0,0,((l.filter dyB).length:Nat),0,0⟩ :: (l.filter dyB).map expE
 else [⟨2,⟨c.k,c.s,c.t,c.l,c.q,c.i,c.p,cutB c.g⟩,0,0,0,0,refR next l c⟩]
theorem ens_box {mb B Bo bx:Nat} {W:World} {gv:Value} {gs:List Value} {gl:List (List Ev)} {next:Int} {vq:Value} {l:List Od} {t:Tot} {vo:Value} {ts:List Ev} (h:EnS mb B Bo W gv gs gl next vq l t vo ts) (hb:∃ cur,W.heap[bx]? = some (.cells cur 39 (0,0))) (o:Nat) (u:Value):EnS mb B Bo (W.setCell ⟨bx,o,none⟩ u) gv gs gl next vq l t vo ts:=by
 have hne:bx ≠ mb:=by
  rintro rfl
  obtain ⟨c1,h1⟩:=hb
  obtain ⟨c2,h2⟩:=h.box
  rw [h1] at h2
  simp at h2
 refine ⟨fun j u' hj=>(World.cell?_setCell_other _ _ _ _ (fun e=>hne (congrArg Addr.block e))).trans (h.cells j u' hj),zC h.there,zt h.grow (zj h.grow hb (by decide)) _ _,h.glen,fun i g es hg hes=>zt (h.geach i g es hg hes) (zj (h.geach i g es hg hes) hb (by decide)) _ _,h.glt,zt h.orow (zj h.orow hb (by decide)) _ _,zt h.erow (zj h.erow hb (by decide)) _ _,?_,h.bo,by simp only [World.setCell,Array.size_modify]; exact h.le⟩
 obtain ⟨c2,h2⟩:=h.box
 exact ⟨c2,(Below.heap_setCell _ _ _ _ (fun e=>hne e.symm)).trans h2⟩
theorem zbG {next:Int} {l:List Od} {c:Cm} (h:refR next l c = 0):c.k = 1 ∨ c.k = 2 ∨ c.k = 3 ∨ c.k = 4:=by
 rw [refR] at h
 split at h
 ·omega
 ·split at h
  ·omega
  ·split at h
   ·omega
   ·split at h
    ·omega
    ·cases h
theorem ref_new {next:Int} {l:List Od} {c:Cm} (h:refR next l c = 0) (hk:c.k = 1):newR next l c = 0:=by
 rw [refR,if_pos hk] at h
 split at h
 ·exact h
 ·cases h
theorem zbx {next:Int} {l:List Od} {c:Cm} (h:refR next l c = 0) (hk:c.k = 1):1 ≤ c.q∧c.q ≤ 1000000:=by
 have h:=ref_new h hk
 rw [newR] at h
 repeat (split at h; (· cases h))
 rename_i h7 _
 simp [betB] at h7
 omega
theorem ref_id {next:Int} {l:List Od} {c:Cm} (h:refR next l c = 0) (hk:c.k = 2 ∨ c.k = 3):∃ (k:Nat) (o:Od),plc l c.i = k∧l[k]? = some o:=by
 rcases zbU l c.i with h1 | h1
 ·exfalso
  rw [refR] at h
  rcases hk with hk | hk
  ·rw [if_neg (by omega),if_pos hk] at h
   split at h
   ·simp [idR,h1] at h
   ·cases h
  ·rw [if_neg (by omega),if_neg (by omega),if_pos hk] at h
   split at h
   ·rw [redR] at h
    split at h
    ·simp [h1] at h
    ·cases h
   ·cases h
 ·exact h1
set_option maxRecDepth 100000 in
set_option maxHeartbeats 6400000 in
theorem doE_any {mb B Bo:Nat} {gv:Value} {gs:List Value} {gl:List (List Ev)} {next:Int} {vq:Value} {l:List Od} {t:Tot} (c:Cm) (w:World) (h:EnS mb B Bo w gv gs gl next vq l t (.slice none 0 0) []) (hg:GoodL l) (h0:0 ≤ next) (h1:next ≤ 1000000) (htg:c.g.size ≤ maxLen) (hgn:gs.length ≤ 999) :
  Calls Tryz.prog 27 #[.pointer (some ⟨mb,0,none⟩),cmV c] w fun r w'=>r = .returned (.tuple #[])∧(∃ Bo' gv' gs' vq',EnS mb B Bo' w' gv' gs' (gl ++ [stE next l c]) (stN next l c) vq' (stL next l c) (wgT t (stE next l c)) (.slice none 0 0) [])∧KeptBut mb B w w':=by
 have hmw:=h.lt
 have hBw:B ≤ w.heap.size:=Nat.le_trans h.bo h.le
 have hlen20:=hg.len
 obtain ⟨a,cap,rfl,hrlen,hc⟩:=zM h.orow (by omega)
 have HRD0:=hide (zM h.orow (by omega))
 have HRF:=hide (fun (W:World) hW=>refusal_any next (.slice a l.length cap) l c W hW (oRow_sl h.orow) hg h0 h1 htg)
 have HK:=hide (@zbG next l c)
 have HQ:=hide (@zbx next l c)
 have HID:=hide (@ref_id next l c)
 have HSN:Hid (stN next l c = if refR next l c = 0∧c.k = 1 then next + 1 else next):=rfl
 have HSL:=hide (stL.eq_1 next l c)
 have HSE:=hide (stE.eq_1 next l c)
 obtain ⟨kk,s,ty,li,qt,ii,pr,tg⟩:=c
 generalize stN next l ⟨kk,s,ty,li,qt,ii,pr,tg⟩ = sN at HSN ⊢
 generalize stL next l ⟨kk,s,ty,li,qt,ii,pr,tg⟩ = sL at HSL ⊢
 generalize stE next l ⟨kk,s,ty,li,qt,ii,pr,tg⟩ = sE at HSE ⊢
 generalize refR next l ⟨kk,s,ty,li,qt,ii,pr,tg⟩ = rr at HRF HSN HSL HSE HK HQ HID
 unfold cmV at HRF ⊢
 simp only at HRF HSN HSL HSE HK HQ HID htg ⊢
 have hb1:Below w.heap.size w (w.alloc (Obj.cells #[.int .i64 kk,.int .i64 s,.int .i64 ty,.int .i64 li,.int .i64 qt,.int .i64 ii,.float .f64 pr,.string tg] 39)):=(Below.refl _ _).alloc (Nat.le_refl _) _
 have HE:=hide (zO h hb1)
 have HB1:=hide hb1
 have hs1:w.heap.size < (w.alloc (Obj.cells #[.int .i64 kk,.int .i64 s,.int .i64 ty,.int .i64 li,.int .i64 qt,.int .i64 ii,.float .f64 pr,.string tg] 39)).heap.size:=by rw [ze]; omega
 have HCR:Hid (World.rangeAt (w.alloc (Obj.cells #[.int .i64 kk,.int .i64 s,.int .i64 ty,.int .i64 li,.int .i64 qt,.int .i64 ii,.float .f64 pr,.string tg] 39)) w.heap.size 0 [.int .i64 kk,.int .i64 s,.int .i64 ty,.int .i64 li,.int .i64 qt,.int .i64 ii,.float .f64 pr,.string tg]):=zh w [.int .i64 kk,.int .i64 s,.int .i64 ty,.int .i64 li,.int .i64 qt,.int .i64 ii,.float .f64 pr,.string tg] _
 have HTH:Hid (World.there (w.alloc (Obj.cells #[.int .i64 kk,.int .i64 s,.int .i64 ty,.int .i64 li,.int .i64 qt,.int .i64 ii,.float .f64 pr,.string tg] 39)) w.heap.size 0 8):=zw w [.int .i64 kk,.int .i64 s,.int .i64 ty,.int .i64 li,.int .i64 qt,.int .i64 ii,.float .f64 pr,.string tg] _
 have HBX:Hid (∃ cur,(w.alloc (Obj.cells #[.int .i64 kk,.int .i64 s,.int .i64 ty,.int .i64 li,.int .i64 qt,.int .i64 ii,.float .f64 pr,.string tg] 39)).heap[w.heap.size]? = some (.cells cur 39 (0,0))):=⟨_,heap_alloc_new w _⟩
 have HRD:=hide (zl (za HRD0) hb1 (Nat.le_refl _))
 have HG:=hide hg
 have HNUM:Hid (0 ≤ next∧next ≤ 1000000):=⟨h0,h1⟩
 have HTG:=hide htg
 clear h hb1 hc hrlen hg h0 h1 HRD0 htg
 go_enter_defers Tryz.func27,Tryz.ntmps27
 refine wp_seq_k fun K hK=>?_
 have HK1:=hide hK
 clear hK
 go_wp2_with fail
 refine za HK1 _ _ ?_
 clear HK1
 refine wp_seq_k fun K hK=>?_
 have HK1:=hide hK
 clear hK
 go_wp2_with fail
 refine za HK1 _ _ ?_
 clear HK1
 generalize (w.alloc (Obj.cells #[.int .i64 kk,.int .i64 s,.int .i64 ty,.int .i64 li,.int .i64 qt,.int .i64 ii,.float .f64 pr,.string tg] 39)) = X at HE HB1 hs1 HCR HTH HBX HRD ⊢
 have HM1:Hid (X.cell? ⟨mb,1,none⟩ = some (.int .i64 next)):=(za HE).cells 1 _ rfl
 have HM2:Hid (X.cell? ⟨mb,2,none⟩ = some (.slice a l.length cap)):=(za HE).cells 2 _ rfl
 refine wp_seq_k fun K hK=>?_
 have HK1:=hide hK
 clear hK
 refine wp_seq_k fun K2 hK2=>?_
 have HK2:=hide hK2
 clear hK2
 refine zo (RG X (fun f=>{ tmps:=#[.pointer (some ⟨mb,0,none⟩),.agg #[.int .i64 kk,.int .i64 s,.int .i64 ty,.int .i64 li,.int .i64 qt,.int .i64 ii,.float .f64 pr,.string tg],undef,.pointer (some ⟨w.heap.size,0,none⟩),f 7,undef,undef,undef,undef,.pointer (some ⟨mb,0,none⟩),f 0,f 1,f 2,f 3,f 4,f 5,f 6,undef,undef,undef,undef,undef,undef,undef,undef,undef,undef,undef,undef,undef,undef,undef,undef,undef,undef,undef,undef,undef,undef,undef,undef,undef,undef,undef,undef,undef,undef,undef,undef,undef,undef,undef,undef],defers:=[{ target:=.fn (.func 45) #[],args:=#[.pointer (some ⟨mb,0,none⟩)] }] }) 99 (DVE [.pointer (some ⟨mb,0,none⟩),.pointer (some ⟨mb,0,none⟩),.pointer (some ⟨mb,0,none⟩),.pointer (some ⟨mb,1,none⟩),.agg #[.int .i64 next,.slice a l.length cap],.agg #[.int .i64 kk,.int .i64 s,.int .i64 ty,.int .i64 li,.int .i64 qt,.int .i64 ii,.float .f64 pr,.string tg],.int .i64 rr,.int .i64 rr])) (by kernel_rfl) ?_ ?_ ?_
 ·exact ⟨fun _=>undef,rfl,⟨rfl,rfl,rfl,Nat.le_refl _,fun _ _=>rfl⟩,fun j hj=>by rw [List.getElem?_replicate] at hj; split at hj <;> simp at hj⟩
 rotate_left
 ·rintro x A V i op ⟨f,rfl,hbel,hD⟩ hcl hx ho hxi hall
  clear hcl
  have HBV:=hide hbel
  have HD:=hide hD
  have cellV:∀ (p:Addr) u,X.cell? p = some u→V.cell? p = some u:=fun p u hu=>(hbel.cell (World.block_lt_of_cell? X _ hu)).trans hu
  have HRV:=hide (zl (za HRD) hbel (Nat.le_refl _))
  match i,ho with
  | 0,ho =>
   obtain rfl:=Option.some.inj ho
   clear hall hD hbel cellV
   rw [if_pos (by rfl)]
   unfold Oper.wp
   go_simp
   exact ⟨upd f 0 (.pointer (some ⟨mb,0,none⟩)),by simp [upd],zn (za HBV) (za HD) (by decide) (fun u hu=>by cases hu; rfl)⟩
  | 1,ho =>
   obtain rfl:=Option.some.inj ho
   have g0:f 0 = .pointer (some ⟨mb,0,none⟩):=hD 0 (hall ⟨0,.data⟩ (by simp) rfl) _ rfl
   clear hall hD hbel cellV
   rw [if_pos (by rfl)]
   unfold Oper.wp
   go_simp
   exact ⟨upd f 1 (.pointer (some ⟨mb,0,none⟩)),by simp [upd,g0],zn (za HBV) (za HD) (by decide) (fun u hu=>by cases hu; rfl)⟩
  | 2,ho =>
   obtain rfl:=Option.some.inj ho
   have g1:f 1 = .pointer (some ⟨mb,0,none⟩):=hD 1 (hall ⟨1,.data⟩ (by simp) rfl) _ rfl
   clear hall hD hbel cellV
   rw [if_pos (by rfl)]
   unfold Oper.wp
   go_simp
   exact ⟨upd f 2 (.pointer (some ⟨mb,0,none⟩)),by simp [upd,g1],zn (za HBV) (za HD) (by decide) (fun u hu=>by cases hu; rfl)⟩
  | 3,ho =>
   obtain rfl:=Option.some.inj ho
   have g2:f 2 = .pointer (some ⟨mb,0,none⟩):=hD 2 (hall ⟨2,.data⟩ (by simp) rfl) _ rfl
   clear hall hD hbel cellV
   rw [if_pos (by rfl)]
   unfold Oper.wp
   go_simp
   exact ⟨upd f 3 (.pointer (some ⟨mb,1,none⟩)),by simp [upd,g2],zn (za HBV) (za HD) (by decide) (fun u hu=>by cases hu; rfl)⟩
  | 4,ho =>
   obtain rfl:=Option.some.inj ho
   have g3:f 3 = .pointer (some ⟨mb,1,none⟩):=hD 3 (hall ⟨3,.data⟩ (by simp) rfl) _ rfl
   have z1:=cellV ⟨mb,1,none⟩ _ (za HM1)
   have z2:=cellV ⟨mb,2,none⟩ _ (za HM2)
   clear hall hD hbel cellV
   rw [if_pos (by rfl)]
   unfold Oper.wp
   go_simp
   exact ⟨upd f 4 (.agg #[.int .i64 next,.slice a l.length cap]),by simp [upd,g3],zn (za HBV) (za HD) (by decide) (fun u hu=>by cases hu; rfl)⟩
  | 5,ho =>
   obtain rfl:=Option.some.inj ho
   have y0:=cellV ⟨w.heap.size,0,none⟩ _ (za HCR 0 _ rfl)
   have y1:=cellV ⟨w.heap.size,1,none⟩ _ (za HCR 1 _ rfl)
   have y2:=cellV ⟨w.heap.size,2,none⟩ _ (za HCR 2 _ rfl)
   have y3:=cellV ⟨w.heap.size,3,none⟩ _ (za HCR 3 _ rfl)
   have y4:=cellV ⟨w.heap.size,4,none⟩ _ (za HCR 4 _ rfl)
   have y5:=cellV ⟨w.heap.size,5,none⟩ _ (za HCR 5 _ rfl)
   have y6:=cellV ⟨w.heap.size,6,none⟩ _ (za HCR 6 _ rfl)
   have y7:=cellV ⟨w.heap.size,7,none⟩ _ (za HCR 7 _ rfl)
   clear hall hD hbel cellV
   rw [if_pos (by rfl)]
   unfold Oper.wp
   go_simp
   exact ⟨upd f 5 (.agg #[.int .i64 kk,.int .i64 s,.int .i64 ty,.int .i64 li,.int .i64 qt,.int .i64 ii,.float .f64 pr,.string tg]),by simp [upd],zn (za HBV) (za HD) (by decide) (fun u hu=>by cases hu; rfl)⟩
  | 6,ho =>
   obtain rfl:=Option.some.inj ho
   have g4:f 4 = .agg #[.int .i64 next,.slice a l.length cap]:=hD 4 (hall ⟨4,.data⟩ (by simp) rfl) _ rfl
   have g5:f 5 = .agg #[.int .i64 kk,.int .i64 s,.int .i64 ty,.int .i64 li,.int .i64 qt,.int .i64 ii,.float .f64 pr,.string tg]:=hD 5 (hall ⟨5,.data⟩ (by simp) rfl) _ rfl
   clear hall hD hbel cellV
   rw [if_pos (by rfl)]
   unfold Oper.wp
   go_simp
   refine (za HRF V (za HRV)).mono ?_
   rintro e w4 ⟨rfl,hb4⟩
   exact ⟨upd f 6 (.int .i64 rr),by simp [upd,g4,g5],zcr dvE_mono (za HBV) (za HD) hb4 (by decide) (fun u hu=>by cases hu; rfl)⟩
  | 7,ho =>
   obtain rfl:=Option.some.inj ho
   have g6:f 6 = .int .i64 rr:=hD 6 (hall ⟨6,.data⟩ (by simp) rfl) _ rfl
   clear hall hD hbel cellV
   rw [if_pos (by rfl)]
   unfold Oper.wp
   go_simp
   exact ⟨upd f 7 (.int .i64 rr),by simp [upd,g6],zn (za HBV) (za HD) (by decide) (fun u hu=>by cases hu; rfl)⟩
  | i + 8,ho=>simp at ho
 ·rintro x A V ⟨f,rfl,hbel,hD⟩ hx hrd
  have hallx:=zac hrd hx (by kernel_rfl)
  have e7:f 7 = .int .i64 rr:=hD 7 (hallx 7 (by simp)) _ rfl
  refine za HK2 _ _ ?_
  clear HK2
  simp only [e7]
  generalize f 0 = v0
  generalize f 1 = v1
  generalize f 2 = v2
  generalize f 3 = v3
  generalize f 4 = v4
  generalize f 5 = v5
  generalize f 6 = v6
  have HEV:=hide (zO (za HE) hbel)
  have HKV:Hid (KeptBut mb B w V):=zi (zA (za HB1) hBw) (zA hbel (by omega))
  have HCV:=hide (zb (za HCR) hbel hs1)
  have HTV:=hide (zf (za HTH) hbel hs1)
  have HBV:Hid (∃ cur,V.heap[w.heap.size]? = some (.cells cur 39 (0,0))):=by obtain ⟨cur,hc⟩:=za HBX; exact ⟨cur,(hbel.block _ hs1).trans hc⟩
  have hsV:w.heap.size < V.heap.size:=Nat.lt_of_lt_of_le hs1 hbel.size
  clear hD hallx e7 hrd hx hbel HM1 HM2 HRD HE HCR HTH HBX HRF HB1 hs1
  have y0:V.cell? ⟨w.heap.size,0,none⟩ = some (.int .i64 kk):=za HCV 0 _ rfl
  have y1:V.cell? ⟨w.heap.size,1,none⟩ = some (.int .i64 s):=za HCV 1 _ rfl
  have y2:V.cell? ⟨w.heap.size,2,none⟩ = some (.int .i64 ty):=za HCV 2 _ rfl
  have y3:V.cell? ⟨w.heap.size,3,none⟩ = some (.int .i64 li):=za HCV 3 _ rfl
  have y4:V.cell? ⟨w.heap.size,4,none⟩ = some (.int .i64 qt):=za HCV 4 _ rfl
  have y5:V.cell? ⟨w.heap.size,5,none⟩ = some (.int .i64 ii):=za HCV 5 _ rfl
  have y6:V.cell? ⟨w.heap.size,6,none⟩ = some (.float .f64 pr):=za HCV 6 _ rfl
  have y7:V.cell? ⟨w.heap.size,7,none⟩ = some (.string tg):=za HCV 7 _ rfl
  by_cases hrr:rr = 0
  ·subst hrr
   have hkk:=za HK rfl
   rcases hkk with rfl | rfl | rfl | rfl
   ·have hq:=za HQ rfl rfl
    have HST:Hid (sN = next + 1∧sL = _∧sE = _):=⟨by rw [za HSN,if_pos ⟨rfl,rfl⟩],by rw [za HSL,if_pos rfl,if_pos rfl],by rw [za HSE,if_pos rfl,if_pos rfl]⟩
    have HLE:Hid ((accE ⟨1,s,ty,li,qt,ii,pr,tg⟩ next (matL ⟨1,s,ty,li,qt,ii,pr,tg⟩ next 21 l qt [])).length ≤ 1000):=by
     have h1:=zcb (c:=⟨1,s,ty,li,qt,ii,pr,tg⟩) (id:=next) 21 l qt []
     show _ ≤ _
     simp only [accE,List.cons_append,List.length_cons,List.length_append,List.length_nil] at h1 ⊢
     split <;> simp <;> omega
    clear HSN HSL HSE HQ HID HK
    go_wp2_with fail
    refine za HK1 _ _ ?_
    clear HK1
    go_wp2_with fail
    refine (zag ⟨1,s,ty,li,qt,ii,pr,tg⟩ V).mono ?_
    have hci:cmdI ⟨1,s,ty,li,qt,ii,pr,tg⟩ = .iface 99 (.agg #[.int .i64 s,.int .i64 ty,.int .i64 li,.int .i64 qt,.float .f64 pr,.string tg]):=by simp [cmdI,noV]
    rw [hci]
    clear hci
    rintro e w4 ⟨rfl,hb4⟩
    have hb5:Below w4.heap.size w4 (w4.alloc (Obj.cells #[.int .i64 s,.int .i64 ty,.int .i64 li,.int .i64 qt,.float .f64 pr,.string tg] 99)):=(Below.refl _ _).alloc (Nat.le_refl _) _
    have HE5:=hide (zO (zO (za HEV) hb4) hb5)
    have HK5:Hid (KeptBut mb B w (w4.alloc (Obj.cells #[.int .i64 s,.int .i64 ty,.int .i64 li,.int .i64 qt,.float .f64 pr,.string tg] 99))):=zi (zi (za HKV) (zA hb4 (by omega))) (zA hb5 (by have:=hb4.size; omega))
    clear hb4 hb5 y0 y1 y2 y3 y4 y5 y6 y7
    have ta1:∀ W:World,Sem.run Tryz.prog (Instr.typeAssert (.iface 99 (.agg #[.int .i64 s,.int .i64 ty,.int .i64 li,.int .i64 qt,.float .f64 pr,.string tg])) 96 99 true) W = .ok (.tuple #[.agg #[.int .i64 s,.int .i64 ty,.int .i64 li,.int .i64 qt,.float .f64 pr,.string tg],.bool true]) W:=fun W=>by kernel_rfl
    have hsf:=sfl
    go_wp2_with fail
    generalize (w4.alloc (Obj.cells #[.int .i64 s,.int .i64 ty,.int .i64 li,.int .i64 qt,.float .f64 pr,.string tg] 99)) = Y at HE5 HK5 ⊢
    refine (acceptE_any ⟨1,s,ty,li,qt,ii,pr,tg⟩ Y (za HE5) (za HG) (za HNUM).1 (za HNUM).2 (show 0 ≤ qt by omega) hq.2).mono ?_
    rintro e w6 ⟨rfl,⟨Bo6,vq6,vo6,hE6⟩,hk6⟩
    have HE6:=hide hE6
    have HK6:=hide (zi (za HK5) hk6)
    clear hE6 hk6
    go_wp2_with fail
    refine leaves_cons (f:=45) (args:=#[.pointer (some ⟨mb,0,none⟩)]) (by simp) (by simp [go_sem]) ?_
    refine (zbA .returning w6 (za HE6) (za HLE) (by omega)).mono ?_
    rintro e u' w' ⟨rfl,rfl,⟨gv',hE'⟩,hk'⟩
    simp only [Leaves,settle,results,Tryz.results27,go_sem]
    simp
    obtain ⟨rfl,rfl,rfl⟩:=za HST
    exact ⟨⟨_,gv',_,_,hE'⟩,zi (za HK6) hk'⟩
   ·obtain ⟨k,o,hpk,hlo⟩:=za HID rfl (by simp)
    have hob:=(za HG).left o (List.mem_of_getElem? hlo)
    have hpt:(plc l ii).toNat = k:=by rw [hpk]; rfl
    have HST:Hid (sN = next∧sL = zau l k o o.left∧sE = [⟨6,zCm,ii,0,o.left,0,0⟩]):=⟨by rw [za HSN,if_neg (fun h=>by have:=h.2; omega)],by rw [za HSL,if_pos rfl,if_neg (by omega),if_pos rfl]; simp only [hpt,hlo],by rw [za HSE,if_pos rfl,if_neg (by omega),if_pos rfl]; simp only [hpt,hlo]⟩
    have HLE:Hid (([] ++ [(⟨6,zCm,ii,0,o.left,0,0⟩:Ev)]).length ≤ 1000):=by show _ ≤ _; simp
    have HPK:=hide hpk
    have HLO:=hide hlo
    clear hpk hlo hpt
    clear HSN HSL HSE HQ HID HK
    go_wp2_with fail
    refine za HK1 _ _ ?_
    clear HK1
    go_wp2_with fail
    refine (zag ⟨2,s,ty,li,qt,ii,pr,tg⟩ V).mono ?_
    have hci:cmdI ⟨2,s,ty,li,qt,ii,pr,tg⟩ = .iface 102 (.agg #[.int .i64 ii]):=by simp [cmdI]
    rw [hci]
    clear hci
    rintro e w4 ⟨rfl,hb4⟩
    have hb5:Below w4.heap.size w4 (w4.alloc (Obj.cells #[.int .i64 ii] 102)):=(Below.refl _ _).alloc (Nat.le_refl _) _
    have HE5:=hide (zO (zO (za HEV) hb4) hb5)
    have HK5:Hid (KeptBut mb B w (w4.alloc (Obj.cells #[.int .i64 ii] 102))):=zi (zi (za HKV) (zA hb4 (by omega))) (zA hb5 (by have:=hb4.size; omega))
    clear hb4 hb5 y0 y1 y2 y3 y4 y5 y6 y7
    have ta1:∀ W:World,Sem.run Tryz.prog (Instr.typeAssert (.iface 102 (.agg #[.int .i64 ii])) 96 99 true) W = .ok (.tuple #[.agg #[.int .i64 0,.int .i64 0,.int .i64 0,.int .i64 0,.float .f64 0,.string ⟨#[]⟩],.bool false]) W:=fun W=>by kernel_rfl
    have ta2:∀ W:World,Sem.run Tryz.prog (Instr.typeAssert (.iface 102 (.agg #[.int .i64 ii])) 96 102 true) W = .ok (.tuple #[.agg #[.int .i64 ii],.bool true]) W:=fun W=>by kernel_rfl
    have hsf:=sfl
    go_wp2_with fail
    generalize (w4.alloc (Obj.cells #[.int .i64 ii] 102)) = Y at HE5 HK5 ⊢
    refine (cancelE_any ii k o Y (za HE5) (by omega) (by simp) (za HPK) (za HLO) (by omega) hob.2).mono ?_
    rintro e w6 ⟨rfl,⟨vq6,vo6,hE6⟩,hk6⟩
    have HE6:=hide hE6
    have HK6:=hide (zi (za HK5) hk6)
    clear hE6 hk6
    go_wp2_with fail
    refine leaves_cons (f:=45) (args:=#[.pointer (some ⟨mb,0,none⟩)]) (by simp) (by simp [go_sem]) ?_
    refine (zbA .returning w6 (za HE6) (za HLE) (by omega)).mono ?_
    rintro e u' w' ⟨rfl,rfl,⟨gv',hE'⟩,hk'⟩
    simp only [Leaves,settle,results,Tryz.results27,go_sem]
    simp
    obtain ⟨rfl,rfl,rfl⟩:=za HST
    exact ⟨⟨_,gv',_,_,hE'⟩,zi (za HK6) hk'⟩
   ·obtain ⟨k,o,hpk,hlo⟩:=za HID rfl (by simp)
    have hob:=(za HG).left o (List.mem_of_getElem? hlo)
    have hpt:(plc l ii).toNat = k:=by rw [hpk]; rfl
    have HST:Hid (sN = next∧sL = l.set k { o with left:=qt }∧sE = [⟨7,zCm,ii,0,qt,0,0⟩]):=⟨by rw [za HSN,if_neg (fun h=>by have:=h.2; omega)],by rw [za HSL,if_pos rfl,if_neg (by omega),if_neg (by omega),if_pos rfl]; simp only [hpt,hlo],by rw [za HSE,if_pos rfl,if_neg (by omega),if_neg (by omega),if_pos rfl]⟩
    have HLE:Hid (([] ++ [(⟨7,zCm,ii,0,qt,0,0⟩:Ev)]).length ≤ 1000):=by show _ ≤ _; simp
    have HPK:=hide hpk
    have HLO:=hide hlo
    clear hpk hlo hpt
    clear HSN HSL HSE HQ HID HK
    go_wp2_with fail
    refine za HK1 _ _ ?_
    clear HK1
    go_wp2_with fail
    refine (zag ⟨3,s,ty,li,qt,ii,pr,tg⟩ V).mono ?_
    have hci:cmdI ⟨3,s,ty,li,qt,ii,pr,tg⟩ = .iface 105 (.agg #[.int .i64 ii,.int .i64 qt]):=by simp [cmdI]
    rw [hci]
    clear hci
    rintro e w4 ⟨rfl,hb4⟩
    have hb5:Below w4.heap.size w4 (w4.alloc (Obj.cells #[.int .i64 ii,.int .i64 qt] 105)):=(Below.refl _ _).alloc (Nat.le_refl _) _
    have HE5:=hide (zO (zO (za HEV) hb4) hb5)
    have HK5:Hid (KeptBut mb B w (w4.alloc (Obj.cells #[.int .i64 ii,.int .i64 qt] 105))):=zi (zi (za HKV) (zA hb4 (by omega))) (zA hb5 (by have:=hb4.size; omega))
    clear hb4 hb5 y0 y1 y2 y3 y4 y5 y6 y7
    have ta1:∀ W:World,Sem.run Tryz.prog (Instr.typeAssert (.iface 105 (.agg #[.int .i64 ii,.int .i64 qt])) 96 99 true) W = .ok (.tuple #[.agg #[.int .i64 0,.int .i64 0,.int .i64 0,.int .i64 0,.float .f64 0,.string ⟨#[]⟩],.bool false]) W:=fun W=>by kernel_rfl
    have ta2:∀ W:World,Sem.run Tryz.prog (Instr.typeAssert (.iface 105 (.agg #[.int .i64 ii,.int .i64 qt])) 96 102 true) W = .ok (.tuple #[.agg #[.int .i64 0],.bool false]) W:=fun W=>by kernel_rfl
    have ta3:∀ W:World,Sem.run Tryz.prog (Instr.typeAssert (.iface 105 (.agg #[.int .i64 ii,.int .i64 qt])) 96 105 true) W = .ok (.tuple #[.agg #[.int .i64 ii,.int .i64 qt],.bool true]) W:=fun W=>by kernel_rfl
    have hsf:=sfl
    go_wp2_with fail
    generalize (w4.alloc (Obj.cells #[.int .i64 ii,.int .i64 qt] 105)) = Y at HE5 HK5 ⊢
    refine (reduceE_any ii qt k o Y (za HE5) (by omega) (by simp) (za HPK) (za HLO)).mono ?_
    rintro e w6 ⟨rfl,⟨vo6,hE6⟩,hk6⟩
    have HE6:=hide hE6
    have HK6:=hide (zi (za HK5) hk6)
    clear hE6 hk6
    go_wp2_with fail
    refine leaves_cons (f:=45) (args:=#[.pointer (some ⟨mb,0,none⟩)]) (by simp) (by simp [go_sem]) ?_
    refine (zbA .returning w6 (za HE6) (za HLE) (by omega)).mono ?_
    rintro e u' w' ⟨rfl,rfl,⟨gv',hE'⟩,hk'⟩
    simp only [Leaves,settle,results,Tryz.results27,go_sem]
    simp
    obtain ⟨rfl,rfl,rfl⟩:=za HST
    exact ⟨⟨_,gv',_,_,hE'⟩,zi (za HK6) hk'⟩
   ·have HST:Hid (sN = next∧sL = _∧sE = _):=⟨by rw [za HSN,if_neg (fun h=>by have:=h.2; omega)],by rw [za HSL,if_pos rfl,if_neg (by omega),if_neg (by omega),if_neg (by omega)],by rw [za HSE,if_pos rfl,if_neg (by omega),if_neg (by omega),if_neg (by omega)]⟩
    have HLE:Hid (([] ++ [(⟨8,zCm,0,0,((l.filter dyB).length:Nat),0,0⟩:Ev)] ++ (l.filter dyB).map expE).length ≤ 1000):=by
     have h1:(l.filter dyB).length ≤ 20:=Nat.le_trans (List.length_filter_le _ _) hlen20
     show _ ≤ _
     simp only [List.nil_append,List.length_append,List.length_cons,List.length_nil,List.length_map]; omega
    clear HSN HSL HSE HQ HID HK
    go_wp2_with fail
    refine za HK1 _ _ ?_
    clear HK1
    go_wp2_with fail
    refine (zag ⟨4,s,ty,li,qt,ii,pr,tg⟩ V).mono ?_
    have hci:cmdI ⟨4,s,ty,li,qt,ii,pr,tg⟩ = .iface 108 (.agg #[]):=by simp [cmdI]
    rw [hci]
    clear hci
    rintro e w4 ⟨rfl,hb4⟩
    have hb5:Below w4.heap.size w4 (w4.alloc (Obj.cells #[] 108)):=(Below.refl _ _).alloc (Nat.le_refl _) _
    have HE5:=hide (zO (zO (za HEV) hb4) hb5)
    have HK5:Hid (KeptBut mb B w (w4.alloc (Obj.cells #[] 108))):=zi (zi (za HKV) (zA hb4 (by omega))) (zA hb5 (by have:=hb4.size; omega))
    clear hb4 hb5 y0 y1 y2 y3 y4 y5 y6 y7
    have ta1:∀ W:World,Sem.run Tryz.prog (Instr.typeAssert (.iface 108 (.agg #[])) 96 99 true) W = .ok (.tuple #[.agg #[.int .i64 0,.int .i64 0,.int .i64 0,.int .i64 0,.float .f64 0,.string ⟨#[]⟩],.bool false]) W:=fun W=>by kernel_rfl
    have ta2:∀ W:World,Sem.run Tryz.prog (Instr.typeAssert (.iface 108 (.agg #[])) 96 102 true) W = .ok (.tuple #[.agg #[.int .i64 0],.bool false]) W:=fun W=>by kernel_rfl
    have ta3:∀ W:World,Sem.run Tryz.prog (Instr.typeAssert (.iface 108 (.agg #[])) 96 105 true) W = .ok (.tuple #[.agg #[.int .i64 0,.int .i64 0],.bool false]) W:=fun W=>by kernel_rfl
    have ta4:∀ W:World,Sem.run Tryz.prog (Instr.typeAssert (.iface 108 (.agg #[])) 96 108 true) W = .ok (.tuple #[.agg #[],.bool true]) W:=fun W=>by kernel_rfl
    have hsf:=sfl
    go_wp2_with fail
    generalize (w4.alloc (Obj.cells #[] 108)) = Y at HE5 HK5 ⊢
    refine (endDayE_any Y (za HE5) (by omega) (by simp)).mono ?_
    rintro e w6 ⟨rfl,⟨vq6,vo6,hE6⟩,hk6⟩
    have HE6:=hide hE6
    have HK6:=hide (zi (za HK5) hk6)
    clear hE6 hk6
    go_wp2_with fail
    refine leaves_cons (f:=45) (args:=#[.pointer (some ⟨mb,0,none⟩)]) (by simp) (by simp [go_sem]) ?_
    refine (zbA .returning w6 (za HE6) (za HLE) (by omega)).mono ?_
    rintro e u' w' ⟨rfl,rfl,⟨gv',hE'⟩,hk'⟩
    simp only [Leaves,settle,results,Tryz.results27,go_sem]
    simp
    obtain ⟨rfl,rfl,rfl⟩:=za HST
    exact ⟨⟨_,gv',_,_,hE'⟩,zi (za HK6) hk'⟩
  ·have hrb:(rr == 0) = false:=by rw [beq_eq_false_iff_ne]; exact hrr
   have f7:V.frozen? ⟨w.heap.size,7,none⟩ = false:=(za HTV 7 (by omega)).2
   have HST:Hid (sN = next∧sL = l∧sE = [⟨2,⟨kk,s,ty,li,qt,ii,pr,cutB tg⟩,0,0,0,0,rr⟩]):=⟨by rw [za HSN,if_neg (fun h=>hrr h.1)],by rw [za HSL,if_neg hrr],by rw [za HSE,if_neg hrr]⟩
   clear hrr HSN HSL HSE
   have HE9:=hide (ens_box (za HEV) (za HBV) 7 (.string (cutB tg)))
   have HK9:Hid (KeptBut mb B w (V.setCell ⟨w.heap.size,7,none⟩ (.string (cutB tg)))):=zi (za HKV) ⟨rfl,rfl,rfl,by simp [World.setCell],fun k hk _=>Below.heap_setCell _ _ _ _ (show k ≠ w.heap.size by omega)⟩
   go_wp2_with fail
   refine (implCut_any tg V (za HTG)).mono ?_
   rintro e w' ⟨rfl,hw'⟩
   rw [hw']
   clear hw' w'
   go_wp2_with fail
   have HLE:Hid (([] ++ [⟨2,⟨kk,s,ty,li,qt,ii,pr,cutB tg⟩,0,0,0,0,rr⟩]:List Ev).length ≤ 1000):=by show _ ≤ _; simp
   refine (zaQ ⟨2,⟨kk,s,ty,li,qt,ii,pr,cutB tg⟩,0,0,0,0,rr⟩ _ (za HE9) (by simp)).mono ?_
   rintro e w10 ⟨rfl,⟨vo10,hE10⟩,hk10,-⟩
   have HE10:=hide hE10
   have HK10:=hide (zi (za HK9) hk10)
   clear hE10 hk10 y0 y1 y2 y3 y4 y5 y6 y7 f7
   go_wp2_with fail
   refine leaves_cons (f:=45) (args:=#[.pointer (some ⟨mb,0,none⟩)]) (by simp) (by simp [go_sem]) ?_
   refine (zbA .returning w10 (za HE10) (za HLE) (by omega)).mono ?_
   rintro e u' w' ⟨rfl,rfl,⟨gv',hE'⟩,hk'⟩
   simp only [Leaves,settle,results,Tryz.results27,go_sem]
   simp
   obtain ⟨rfl,rfl,rfl⟩:=za HST
   exact ⟨⟨_,gv',_,_,hE'⟩,zi (za HK10) hk'⟩
def tkS (x:Nat):Int:=if ((FloatKind.f64.format.order x 0 == some Ordering.gt) && ((FloatKind.f64.format.order x 4687829947429945344 == some Ordering.lt) || (FloatKind.f64.format.order x 4687829947429945344 == some Ordering.eq))) = true then tkN x else 0
theorem tkS_ok {x:Nat} (h:tkOk x = true):tkS x = tk x:=by
 unfold tk tkS
 rw [if_pos h]
 unfold tkOk at h
 rw [Bool.and_eq_true] at h
 rw [if_pos h.1]
set_option maxRecDepth 100000 in
set_option maxHeartbeats 1000000 in
theorem l01Ticks_any (x:Nat) (w:World) :
  Calls Tryz.prog 62 #[.float .f64 x] w fun e w'=>e = .returned (.tuple #[.int .i64 (tkS x),.bool (tkOk x)])∧w' = w:=by
 by_cases h0:FloatKind.f64.format.order x 0 = some Ordering.gt
 ·by_cases h1:FloatKind.f64.format.order x 4687829947429945344 = some Ordering.lt ∨ FloatKind.f64.format.order x 4687829947429945344 = some Ordering.eq
  ·obtain ⟨r,n,hmul,hint,hn⟩:=price_four h0 h1
   have hn':(n:Int) < 9007199254740992:=by omega
   have eR:tkR x = r:=by unfold tkR; rw [show FloatKind.f64.format.mul x 4616189618054758400 = some r from hmul]; rfl
   have eN:tkN x = n:=by unfold tkN; rw [eR,show (FloatKind.f64.decode r).toInt .zero = some (n:Int) from hint]; rfl
   have b0:(FloatKind.f64.format.order x 0 == some Ordering.gt) = true:=by rw [h0]; rfl
   have hm:∀ W,(binOp .mul 37 (.float .f64 x) (.float .f64 4616189618054758400)).run Tryz.prog W = .ok (.float .f64 r) W:=fun W=>by
    have:FloatKind.f64.format.mul x 4616189618054758400 = some r:=hmul
    simp [binOp,Op.floatArith,this]
   have hc:∀ W,(convert 37 3 (.float .f64 r)).run Tryz.prog W = .ok (.int .i64 n) W:=fun W=>by
    have h2:(FloatKind.f64.decode r).toInt .zero = some (n:Int):=hint
    have hb:IntKind.i64.min ≤ (n:Int)∧(n:Int) ≤ IntKind.i64.max:=by
     rw [show IntKind.i64.min = -9223372036854775808 by decide,show IntKind.i64.max = 9223372036854775807 by decide]; omega
    simp [convert,run_underlying Tryz.underlying37,run_underlying Tryz.underlying3,Conv.floatToInt,h2,hb.1]
    intro h
    omega
   have h12:((FloatKind.f64.format.order x 4687829947429945344 == some Ordering.lt) || (FloatKind.f64.format.order x 4687829947429945344 == some Ordering.eq)) = true:=by
    rcases h1 with h1 | h1 <;> rw [h1] <;> rfl
   have hok:tkOk x = (FloatKind.f64.format.order (floatOfInt .f64 n) r == some Ordering.eq):=by unfold tkOk; rw [eN,eR,b0,h12]; rfl
   have hS:tkS x = n:=by unfold tkS; rw [b0,h12,eN]; rfl
   clear hmul hint h0 h12
   cases he:(FloatKind.f64.format.order (floatOfInt .f64 n) r == some Ordering.eq)
   all_goals
    have he2:(FloatKind.f64.format.order (floatOfInt .f64 n) r != some Ordering.eq) = !(FloatKind.f64.format.order (floatOfInt .f64 n) r == some Ordering.eq):=rfl
    rw [he] at he2
    rw [he] at hok
   ·have HT:Hid (tkS x = n∧tkOk x = false):=⟨hS,hok⟩
    clear hok eN eR hS
    rcases h1 with h1 | h1
    ·have b1:(FloatKind.f64.format.order x 4687829947429945344 == some Ordering.lt) = true:=by rw [h1]; rfl
     have b2:(FloatKind.f64.format.order x 4687829947429945344 == some Ordering.eq) = false:=by rw [h1]; rfl
     clear h1
     go_enter Tryz.func62,Tryz.ntmps62
     go_wp2
     go_ret2
     exact ⟨by rw [(za HT).1,(za HT).2]; rfl,rfl⟩
    ·have b1:(FloatKind.f64.format.order x 4687829947429945344 == some Ordering.lt) = false:=by rw [h1]; rfl
     have b2:(FloatKind.f64.format.order x 4687829947429945344 == some Ordering.eq) = true:=by rw [h1]; rfl
     clear h1
     go_enter Tryz.func62,Tryz.ntmps62
     go_wp2
     go_ret2
     exact ⟨by rw [(za HT).1,(za HT).2]; rfl,rfl⟩
   ·have HT:Hid (tkS x = n∧tkOk x = true):=⟨hS,hok⟩
    clear hok eN eR hS
    rcases h1 with h1 | h1
    ·have b1:(FloatKind.f64.format.order x 4687829947429945344 == some Ordering.lt) = true:=by rw [h1]; rfl
     have b2:(FloatKind.f64.format.order x 4687829947429945344 == some Ordering.eq) = false:=by rw [h1]; rfl
     clear h1
     go_enter Tryz.func62,Tryz.ntmps62
     go_wp2
     go_ret2
     exact ⟨by rw [(za HT).1,(za HT).2]; rfl,rfl⟩
    ·have b1:(FloatKind.f64.format.order x 4687829947429945344 == some Ordering.lt) = false:=by rw [h1]; rfl
     have b2:(FloatKind.f64.format.order x 4687829947429945344 == some Ordering.eq) = true:=by rw [h1]; rfl
     clear h1
     go_enter Tryz.func62,Tryz.ntmps62
     go_wp2
     go_ret2
     exact ⟨by rw [(za HT).1,(za HT).2]; rfl,rfl⟩
  ·have b0:(FloatKind.f64.format.order x 0 == some Ordering.gt) = true:=by rw [h0]; rfl
   have b1:(FloatKind.f64.format.order x 4687829947429945344 == some Ordering.lt) = false:=by rw [beq_eq_false_iff_ne]; exact fun h=>h1 (.inl h)
   have b2:(FloatKind.f64.format.order x 4687829947429945344 == some Ordering.eq) = false:=by rw [beq_eq_false_iff_ne]; exact fun h=>h1 (.inr h)
   have hok:tkOk x = false:=by unfold tkOk; rw [b0,b1,b2]; rfl
   have HT:Hid (tkS x = 0∧tkOk x = false):=⟨by unfold tkS; rw [b0,b1,b2]; rfl,hok⟩
   clear h0 h1 hok
   go_enter Tryz.func62,Tryz.ntmps62
   go_wp2
   go_ret2
   exact ⟨by rw [(za HT).1,(za HT).2]; rfl,rfl⟩
 ·have b0:(FloatKind.f64.format.order x 0 == some Ordering.gt) = false:=by rw [beq_eq_false_iff_ne]; exact h0
  have hok:tkOk x = false:=by unfold tkOk; rw [b0]; rfl
  have HT:Hid (tkS x = 0∧tkOk x = false):=⟨by unfold tkS; rw [b0]; rfl,hok⟩
  clear h0 hok
  go_enter Tryz.func62,Tryz.ntmps62
  go_wp2
  go_ret2
  exact ⟨by rw [(za HT).1,(za HT).2]; rfl,rfl⟩
end Go.Proofs.YtopjoogdpjaocaaGreat
