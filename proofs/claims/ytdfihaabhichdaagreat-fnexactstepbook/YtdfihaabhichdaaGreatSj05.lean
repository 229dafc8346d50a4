/-
  Orders as records of six cells: copied one by one and in rows, held against each other, their size: proved by walking the laws' own helpers. (what walks the functions of the model or of the laws)
-/
import Derived.Test.YtdfihaabhichdaaGreatSj03
import Derived.Test.YtdfihaabhichdaaGreatSj04
import Derived.Deep.RegionWith
import Derived.WalkLawsBesides
namespace Go.Proofs.YtdfihaabhichdaaGreat
open Go.RowKit
set_option linter.unusedVariables false

theorem toOrder_any (o:Od) (w:World) :
    Calls Tryz.prog 71 #[.agg #[.int .i64 o.id,.int .i64 o.side,.int .i64 o.ticks,.int .i64 o.left,.int .i64 o.life,.string o.tag]] w fun e w'=>e = .returned (.agg #[.int .i64 o.id,.int .i64 o.side,.int .i64 o.ticks,.int .i64 o.left,.int .i64 o.life,.string o.tag])∧Below w.heap.size w w':=by
  obtain ⟨id,side,ticks,left,life,tag⟩:=o
  simp only
  go_enter Tryz.func71,Tryz.ntmps71
  go_wp2_with fail
  go_returns
  refine ⟨rfl,?_⟩
  go_grown
set_option maxRecDepth 100000 in
set_option maxHeartbeats 400000 in
theorem toOrderS_any (v:Value) (l:List Od) (w:World) (hr:RdR Od.vs 6 w v l) :
    Calls Tryz.prog 36 #[v] w fun e w'=>∃ v',e = .returned v'∧OwnR Od.vs 6 w.heap.size w' v' l∧Below w.heap.size w w':=by
  obtain ⟨a,cap,rfl,hl,hc⟩:=hr
  obtain ⟨i0,hi,hz0,hz1,hz2⟩:=info_parts Tryz.infoOrder
  have hcell:∀ (k:Nat) (c:Od),l[k]? = some c→∃ b off,a = some ⟨b,off,none⟩∧b < w.heap.size∧w.rangeAt b (off + k * 6) c.vs:=by
    intro k c hk
    obtain ⟨b,off,h1,h2,h3⟩:=hc (by intro h; rw [h] at hk; simp at hk)
    exact ⟨b,off,h1,h2,h3 k c hk⟩
  have HC:=hide hcell
  clear hcell hc
  go_enter Tryz.func36,Tryz.ntmps36
  go_wp2_with (at_make; go_must (refine wpList_make_full _ rfl _ _ 30 rfl w.heap.size 100 i0 _ 6 Tryz.underlying30 hi hz0 hz1 _ _ _ _ l.length rfl rfl rfl rfl (by rw [hz2]; omega) (by unfold maxLen; omega) (Nat.le_refl _) ?_); intro w1 hown hgrow)
  have HA:=hide (fill_made (f:=Od.vs) hown hgrow)
  clear hown hgrow hi hz0 hz1 hz2
  go_loopw [4] (fun i wr=>∃ k:Nat,k ≤ l.length∧i = .int .i64 k∧FillR Od.vs 6 l.length w.heap.size w wr (l.take k)) (fun i _=>l.length - (intOf i).toNat)
  case atStart=>exact ⟨0,Nat.zero_le _,rfl,by simpa using za HA⟩
  case round =>
    obtain ⟨k,hk,rfl,harr⟩:=hrel
    have HF:=hide harr
    clear harr HA
    by_cases hlt:k < l.length
    · obtain ⟨c,hkc⟩:∃ c,l[k]? = some c:=⟨_,List.getElem?_eq_getElem hlt⟩
      have HKC:=hide hkc
      obtain ⟨b,off,rfl,hb,hcl⟩:=za HC k c hkc
      have hcr:=zb hcl (za HF).2.2.2.2 hb
      obtain ⟨g0,g1,g2,g3,g4,g5⟩:=zy hcr
      have hlt':(k:Int) < l.length:=by omega
      clear hkc hcl hb hcr
      go_wp2_with fail
      refine (toOrder_any c _).mono ?_
      rintro e w2 ⟨rfl,hb2⟩
      have HF2:=hide (fill_below (za HF) hb2 (Nat.le_refl _))
      clear hb2
      obtain ⟨⟨x0,y0,z0⟩,⟨x1,y1,z1⟩,⟨x2,y2,z2⟩,⟨x3,y3,z3⟩,⟨x4,y4,z4⟩,x5,y5,z5⟩:=there6 (fill_there (za HF2) hlt)
      go_wp2_with fail
      go_roundw
      case rel =>
        refine ⟨k + 1,by omega,by go_num,?_⟩
        have h:=fill_step c (za HF2) (by rw [List.length_take]; omega) Od.len
        rw [← takeR l k c (za HKC),show (l.take k).length = k by rw [List.length_take]; omega] at h
        exact h
      case measure=>simp [intOf]; omega
    · go_wp2_with fail
      go_ret
      have h:=za HF
      rw [List.take_of_length_le (by omega)] at h
      exact ⟨_,rfl,fill_own h rfl hl,h.2.2.2.2⟩
set_option maxHeartbeats 400000 in
theorem eqOrder_same (o:Od) (w:World) :
    Calls Tryz.prog 87 #[.agg #[.int .i64 o.id,.int .i64 o.side,.int .i64 o.ticks,.int .i64 o.left,.int .i64 o.life,.string o.tag],.agg #[.int .i64 o.id,.int .i64 o.side,.int .i64 o.ticks,.int .i64 o.left,.int .i64 o.life,.string o.tag]] w fun e w'=>e = .returned (.bool true)∧Below w.heap.size w w':=by
  obtain ⟨id,side,ticks,left,life,tag⟩:=o
  simp only
  go_enter Tryz.func87,Tryz.ntmps87
  go_wp2_with fail
  go_returns
  refine ⟨rfl,?_⟩
  go_grown
set_option maxRecDepth 100000 in
set_option maxHeartbeats 400000 in
theorem eqOrderS_same (va vb:Value) (l:List Od) (w:World) (ha:RdR Od.vs 6 w va l) (hb:RdR Od.vs 6 w vb l) :
    Calls Tryz.prog 40 #[va,vb] w fun e w'=>e = .returned (.bool true)∧Below w.heap.size w w':=by
  obtain ⟨aa,ca,rfl,hl,hca⟩:=ha
  obtain ⟨ab,cb,rfl,_,hcb⟩:=hb
  have hcell:∀ (k:Nat) (c:Od),l[k]? = some c→∃ b off b' off',aa = some ⟨b,off,none⟩∧ab = some ⟨b',off',none⟩∧b < w.heap.size∧b' < w.heap.size∧w.rangeAt b (off + k * 6) c.vs∧w.rangeAt b' (off' + k * 6) c.vs:=by
    intro k c hk
    have hne:l ≠ []:=by intro h; rw [h] at hk; simp at hk
    obtain ⟨b,off,h1,h2,h3⟩:=hca hne
    obtain ⟨b',off',h1',h2',h3'⟩:=hcb hne
    exact ⟨b,off,b',off',h1,h1',h2,h2',h3 k c hk,h3' k c hk⟩
  have HC:=hide hcell
  clear hcell hca hcb
  go_enter Tryz.func40,Tryz.ntmps40
  go_wp2_with fail
  go_loopw [5] (fun i wr=>∃ k:Nat,k ≤ l.length∧i = .int .i64 k∧Below w.heap.size w wr) (fun i _=>l.length - (intOf i).toNat)
  case atStart=>exact ⟨0,Nat.zero_le _,rfl,Below.refl _ _⟩
  case round =>
    obtain ⟨k,hk,rfl,hbel⟩:=hrel
    have HB:=hide hbel
    clear hbel
    by_cases hlt:k < l.length
    · obtain ⟨c,hkc⟩:∃ c,l[k]? = some c:=⟨_,List.getElem?_eq_getElem hlt⟩
      obtain ⟨b,off,b',off',rfl,rfl,hb,hb',hcl,hcl'⟩:=za HC k c hkc
      obtain ⟨g0,g1,g2,g3,g4,g5⟩:=zy (zb hcl (za HB) hb)
      obtain ⟨e0,e1,e2,e3,e4,e5⟩:=zy (zb hcl' (za HB) hb')
      have hlt':(k:Int) < l.length:=by omega
      clear hkc hcl hcl' hb hb'
      go_wp2_with fail
      go_region_with (go_at_call 87; refine (eqOrder_same c _).mono ?_; rintro e w2 ⟨rfl,hb2⟩; have HB2:=hide ((za HB).drew.trans (hb2.mono (za HB).drew.size)); clear hb2)
      go_wp2_with fail
      go_roundw
      case rel=>exact ⟨k + 1,by omega,by go_num,za HB2⟩
      case measure=>simp [intOf]; omega
      all_goals exact ⟨⟨k + 1,by omega,by go_num,za HB2⟩,by simp [intOf]; omega⟩
    · go_wp2_with fail
      go_ret
      exact ⟨rfl,za HB⟩
set_option maxHeartbeats 400000 in
theorem szOrder_any (o:Od) (x:Int) (w:World) (h0:0 ≤ x) (h1:x ≤ 1073741824) (hg:o.tag.size ≤ maxLen) :
    Calls Tryz.prog 58 #[.agg #[.int .i64 o.id,.int .i64 o.side,.int .i64 o.ticks,.int .i64 o.left,.int .i64 o.life,.string o.tag],.int .i64 x] w fun e w' =>
      ∃ y:Int,e = .returned (.int .i64 y)∧-1 ≤ y∧y ≤ x∧Below w.heap.size w w':=by
  obtain ⟨id,side,ticks,left,life,g⟩:=o
  simp only at *
  unfold maxLen at hg
  by_cases h:x < g.size
  · go_enter Tryz.func58,Tryz.ntmps58
    go_wp2_with fail
    go_ret
    exact ⟨_,rfl,by omega,by omega,by go_grown⟩
  · go_enter Tryz.func58,Tryz.ntmps58
    go_wp2_with fail
    go_ret
    exact ⟨_,rfl,by omega,by omega,by go_grown⟩
set_option maxRecDepth 100000 in
set_option maxHeartbeats 400000 in
theorem szOrderS_any (v:Value) (l:List Od) (w:World) (hr:RdR Od.vs 6 w v l) (hl:l.length ≤ 1048576) (hg:∀ c ∈ l,c.tag.size ≤ maxLen) :
    Calls Tryz.prog 33 #[v,.int .i64 1048576] w fun e w'=>∃ y:Int,e = .returned (.int .i64 y)∧-1 ≤ y∧y ≤ 1048576∧Below w.heap.size w w':=by
  obtain ⟨a,cap,rfl,_,hc⟩:=hr
  have hcell:∀ (k:Nat) (c:Od),l[k]? = some c→∃ b off,a = some ⟨b,off,none⟩∧b < w.heap.size∧w.rangeAt b (off + k * 6) c.vs:=by
    intro k c hk
    obtain ⟨b,off,h1,h2,h3⟩:=hc (by intro h; rw [h] at hk; simp at hk)
    exact ⟨b,off,h1,h2,h3 k c hk⟩
  have HC:=hide hcell
  have HG:=hide hg
  clear hcell hc hg
  have hl':¬ (1048576 - (l.length:Int) < 0):=by omega
  go_enter Tryz.func33,Tryz.ntmps33
  go_wp2_with fail
  go_loopw [1,5] (fun xv i wr=>∃ (x:Int) (k:Nat),xv = .int .i64 x∧0 ≤ x∧x ≤ 1048576∧k ≤ l.length∧i = .int .i64 k∧Below w.heap.size w wr) (fun _ i _=>l.length - (intOf i).toNat)
  case atStart=>exact ⟨_,0,rfl,by omega,by omega,Nat.zero_le _,rfl,Below.refl _ _⟩
  case round =>
    obtain ⟨x,k,rfl,hx0,hx1,hk,rfl,hbel⟩:=hrel
    have HB:=hide hbel
    clear hbel
    by_cases hlt:k < l.length
    · obtain ⟨c,hkc⟩:∃ c,l[k]? = some c:=⟨_,List.getElem?_eq_getElem hlt⟩
      obtain ⟨b,off,rfl,hb,hcl⟩:=za HC k c hkc
      have HS:=hide (za HG c (List.mem_of_getElem? hkc))
      obtain ⟨g0,g1,g2,g3,g4,g5⟩:=zy (zb hcl (za HB) hb)
      have hlt':(k:Int) < l.length:=by omega
      clear hkc hcl hb
      go_wp2_with fail
      refine (szOrder_any c x _ hx0 (by omega) (za HS)).mono ?_
      rintro e w2 ⟨y,rfl,hy0,hy1,hb2⟩
      have HB2:=hide ((za HB).trans (hb2.mono (za HB).size))
      clear hb2
      by_cases hy:y < 0
      · go_wp2_with fail
        go_ret
        exact ⟨_,rfl,by omega,by omega,za HB2⟩
      · go_wp2_with fail
        go_roundw
        case rel=>exact ⟨y,k + 1,rfl,by omega,by omega,by omega,by go_num,za HB2⟩
        case measure=>simp [intOf]; omega
    · go_wp2_with fail
      go_ret
      exact ⟨_,rfl,by omega,by omega,za HB⟩
theorem szOrderS_long (a:Option Addr) (len cap:Nat) (w:World) (hl:1048576 < len) (hm:len ≤ maxLen) :
    Calls Tryz.prog 33 #[.slice a len cap,.int .i64 1048576] w fun e w'=>e = .returned (.int .i64 (-1))∧w' = w:=by
  unfold maxLen at hm
  have hl':1048576 - (len:Int) < 0:=by omega
  go_enter Tryz.func33,Tryz.ntmps33
  go_wp2_with fail
  go_ret
  exact ⟨rfl,rfl⟩
set_option maxHeartbeats 400000 in
theorem szBook_any (n:Int) (v:Value) (l:List Od) (w:World) (hr:RdR Od.vs 6 w v l) (hl:l.length ≤ 1048576) (hg:∀ c ∈ l,c.tag.size ≤ maxLen) :
    Calls Tryz.prog 6 #[.agg #[.int .i64 n,v],.int .i64 1048576] w fun e w'=>∃ y:Int,e = .returned (.int .i64 y)∧-1 ≤ y∧y ≤ 1048576∧Below w.heap.size w w':=by
  have HR:=hide hr
  obtain ⟨a,cap,rfl,_,_⟩:=hr
  have HG:=hide hg
  clear hg
  have HA:Hid (Below w.heap.size w (w.alloc (Obj.cells #[.int .i64 n,.slice a l.length cap] 24))):=(Below.refl _ _).alloc (Nat.le_refl _) _
  go_enter Tryz.func6,Tryz.ntmps6
  go_wp2_with fail
  refine (szOrderS_any _ l _ (zj (za HR) (za HA) (Nat.le_refl _)) hl (za HG)).mono ?_
  rintro e w1 ⟨y,rfl,hy0,hy1,hb1⟩
  have HB:=hide ((za HA).trans (hb1.mono (za HA).size))
  clear hb1
  by_cases hy:y < 0
  · go_wp2_with fail
    go_ret
    exact ⟨_,rfl,by omega,by omega,za HB⟩
  · go_wp2_with fail
    go_ret
    exact ⟨_,rfl,by omega,by omega,za HB⟩
set_option maxHeartbeats 400000 in
theorem szBook_long (n:Int) (a:Option Addr) (len cap:Nat) (w:World) (hl:1048576 < len) (hm:len ≤ maxLen) :
    Calls Tryz.prog 6 #[.agg #[.int .i64 n,.slice a len cap],.int .i64 1048576] w fun e w'=>e = .returned (.int .i64 (-1))∧Below w.heap.size w w':=by
  have HZ:=hide (fun W=>szOrderS_long a len cap W hl hm)
  clear hl hm
  go_enter Tryz.func6,Tryz.ntmps6
  go_wp2_with fail
  refine (za HZ _).mono ?_
  rintro e w1 ⟨rfl,rfl⟩
  go_wp2_with fail
  go_ret
  exact ⟨rfl,by go_grown⟩
set_option maxHeartbeats 400000 in
theorem toBook_any (n:Int) (v:Value) (l:List Od) (w:World) (hr:RdR Od.vs 6 w v l) :
    Calls Tryz.prog 9 #[.agg #[.int .i64 n,v]] w fun e w'=>∃ v',e = .returned (.agg #[.int .i64 n,v'])∧OwnR Od.vs 6 w.heap.size w' v' l∧Below w.heap.size w w':=by
  have HR:=hide hr
  obtain ⟨a,cap,rfl,_,_⟩:=hr
  have hs1:(w.alloc (Obj.cells #[.int .i64 n,.slice a l.length cap] 24)).heap.size = w.heap.size + 1:=ze _ _
  have hs2:((w.alloc (Obj.cells #[.int .i64 n,.slice a l.length cap] 24)).alloc (Obj.cells #[.int .i64 0,.slice none 0 0] 32)).heap.size = w.heap.size + 1 + 1:=by rw [ze,hs1]
  have r1:=zh (w.alloc (Obj.cells #[.int .i64 n,.slice a l.length cap] 24)) [.int .i64 0,.slice none 0 0] 32
  have r2:=zh ((w.alloc (Obj.cells #[.int .i64 n,.slice a l.length cap] 24)).alloc (Obj.cells #[.int .i64 0,.slice none 0 0] 32)) [.int .i64 n,.slice none 0 0] 32
  have t1:=zaj (n:=2) (heap_alloc_new (w.alloc (Obj.cells #[.int .i64 n,.slice a l.length cap] 24)) (Obj.cells #[.int .i64 0,.slice none 0 0] 32)) (by simp)
  have t2:=zaj (n:=2) (heap_alloc_new ((w.alloc (Obj.cells #[.int .i64 n,.slice a l.length cap] 24)).alloc (Obj.cells #[.int .i64 0,.slice none 0 0] 32)) (Obj.cells #[.int .i64 n,.slice none 0 0] 32)) (by simp)
  rw [hs1] at r1 t1
  rw [hs2] at r2 t2
  have HB0:Hid (Below w.heap.size w (((w.alloc (Obj.cells #[.int .i64 n,.slice a l.length cap] 24)).alloc (Obj.cells #[.int .i64 0,.slice none 0 0] 32)).alloc (Obj.cells #[.int .i64 n,.slice none 0 0] 32))) :=
    (((Below.refl _ _).alloc (Nat.le_refl _) _).alloc (by rw [hs1]; omega) _).alloc (by rw [hs2]; omega) _
  have hs3:(((w.alloc (Obj.cells #[.int .i64 n,.slice a l.length cap] 24)).alloc (Obj.cells #[.int .i64 0,.slice none 0 0] 32)).alloc (Obj.cells #[.int .i64 n,.slice none 0 0] 32)).heap.size = w.heap.size + 1 + 1 + 1:=by rw [ze,hs2]
  have r1':=zb r1 (C:=w.heap.size + 1 + 1) (((Below.refl _ _).alloc (by rw [hs2]; omega) (Obj.cells #[.int .i64 n,.slice none 0 0] 32))) (by omega)
  have t1':=zf t1 (C:=w.heap.size + 1 + 1) (((Below.refl _ _).alloc (by rw [hs2]; omega) (Obj.cells #[.int .i64 n,.slice none 0 0] 32))) (by omega)
  have HX:Hid (_∧_∧_∧_):=⟨r1',t1',r2,t2⟩
  have HS3:=hide hs3
  clear r1 t1 r1' t1' r2 t2 hs1 hs2 hs3
  go_enter Tryz.func9,Tryz.ntmps9
  go_wp2_with fail
  generalize hW3:(((w.alloc (Obj.cells #[.int .i64 n,.slice a l.length cap] 24)).alloc (Obj.cells #[.int .i64 0,.slice none 0 0] 32)).alloc (Obj.cells #[.int .i64 n,.slice none 0 0] 32)) = W3 at HB0 HX HS3 ⊢
  clear hW3
  refine (toOrderS_any _ l _ (zj (za HR) (za HB0) (Nat.le_refl _))).mono ?_
  rintro e w1 ⟨v',rfl,ho,hb1⟩
  have HO:=hide ho
  have HB:=hide hb1
  obtain ⟨x1,x2,x3,x4⟩:=za HX
  have y1:=zb x1 hb1 (by rw [za HS3]; omega)
  have y2:=zf x2 hb1 (by rw [za HS3]; omega)
  have y3:=zb x3 hb1 (by rw [za HS3]; omega)
  have y4:=zf x4 hb1 (by rw [za HS3]; omega)
  have c0:w1.cell? ⟨w.heap.size + 1,0,none⟩ = some (.int .i64 0):=y1 0 _ rfl
  have c1:w1.cell? ⟨w.heap.size + 1,1,none⟩ = some (.slice none 0 0):=y1 1 _ rfl
  have c2:w1.cell? ⟨w.heap.size + 1 + 1,0,none⟩ = some (.int .i64 n):=y3 0 _ rfl
  have c3:w1.cell? ⟨w.heap.size + 1 + 1,1,none⟩ = some (.slice none 0 0):=y3 1 _ rfl
  have f0:w1.frozen? ⟨w.heap.size + 1,0,none⟩ = false:=(y2 0 (by omega)).2
  have f1:w1.frozen? ⟨w.heap.size + 1,1,none⟩ = false:=(y2 1 (by omega)).2
  have f2:w1.frozen? ⟨w.heap.size + 1 + 1,0,none⟩ = false:=(y4 0 (by omega)).2
  have f3:w1.frozen? ⟨w.heap.size + 1 + 1,1,none⟩ = false:=(y4 1 (by omega)).2
  clear ho hb1 x1 x2 x3 x4 y1 y2 y3 y4
  obtain ⟨a',cap',rfl,hl',ho'⟩:=za HO
  clear ho'
  go_wp2_with fail
  have hne:(⟨w.heap.size + 1,0,none⟩:Addr) ≠ ⟨w.heap.size + 1,1,none⟩:=fun e=>by simp at e
  have hnb:∀ i j,(⟨w.heap.size + 1 + 1,i,none⟩:Addr) ≠ ⟨w.heap.size + 1,j,none⟩:=fun i j e=>by have:=congrArg Addr.block e; simp at this
  have d1:(((w1.setCell ⟨w.heap.size + 1 + 1,1,none⟩ (.slice a' l.length cap')).setCell ⟨w.heap.size + 1,0,none⟩ (.int .i64 n)).setCell ⟨w.heap.size + 1,1,none⟩ (.slice a' l.length cap')).cell? ⟨w.heap.size + 1,1,none⟩ = some (.slice a' l.length cap') :=
    World.cell?_setCell_same _ _ _ ((World.cell?_setCell_other _ _ _ _ hne).trans ((World.cell?_setCell_other _ _ _ _ (hnb 1 1)).trans c1))
  have d0:(((w1.setCell ⟨w.heap.size + 1 + 1,1,none⟩ (.slice a' l.length cap')).setCell ⟨w.heap.size + 1,0,none⟩ (.int .i64 n)).setCell ⟨w.heap.size + 1,1,none⟩ (.slice a' l.length cap')).cell? ⟨w.heap.size + 1,0,none⟩ = some (.int .i64 n) :=
    (World.cell?_setCell_other _ _ _ _ hne.symm).trans (World.cell?_setCell_same _ _ _ ((World.cell?_setCell_other _ _ _ _ (hnb 1 0)).trans c0))
  have HO5:=hide (ownR_base (ownR_set (b:=w.heap.size + 1) (ownR_set (b:=w.heap.size + 1) (ownR_set (b:=w.heap.size + 1 + 1) (za HO) (by rw [za HS3]; omega) 1 (.slice a' l.length cap')) (by rw [za HS3]; omega) 0 (.int .i64 n)) (by rw [za HS3]; omega) 1 (.slice a' l.length cap')) (B':=w.heap.size) (by rw [za HS3]; omega))
  have HB5:=hide (((((za HB0).trans ((za HB).mono (za HB0).size)).setCell (p:=⟨w.heap.size + 1 + 1,1,none⟩) (by simp; omega) (.slice a' l.length cap')).setCell (p:=⟨w.heap.size + 1,0,none⟩) (by simp) (.int .i64 n)).setCell (p:=⟨w.heap.size + 1,1,none⟩) (by simp) (.slice a' l.length cap'))
  generalize (((w1.setCell ⟨w.heap.size + 1 + 1,1,none⟩ (.slice a' l.length cap')).setCell ⟨w.heap.size + 1,0,none⟩ (.int .i64 n)).setCell ⟨w.heap.size + 1,1,none⟩ (.slice a' l.length cap')) = W5 at *
  try simp only [Exit.inBlock,Exit.then]
  refine bodyPost_ret (by simp [results,Tryz.results9,go_sem,d0,d1]; try rfl) rfl ?_
  exact ⟨_,rfl,za HO5,za HB5⟩
set_option maxHeartbeats 400000 in
theorem zbP (n:Int) (va vb:Value) (l:List Od) (w:World) (ha:RdR Od.vs 6 w va l) (hb:RdR Od.vs 6 w vb l) :
    Calls Tryz.prog 12 #[.agg #[.int .i64 n,va],.agg #[.int .i64 n,vb]] w fun e w'=>e = .returned (.bool true)∧Below w.heap.size w w':=by
  have HA:=hide ha
  have HB:=hide hb
  obtain ⟨aa,ca,rfl,_,_⟩:=ha
  obtain ⟨ab,cb,rfl,_,_⟩:=hb
  have H0:Hid (Below w.heap.size w ((w.alloc (Obj.cells #[.int .i64 n,.slice aa l.length ca] 32)).alloc (Obj.cells #[.int .i64 n,.slice ab l.length cb] 32))):=((Below.refl _ _).alloc (Nat.le_refl _) _).alloc (by rw [ze]; omega) _
  go_enter Tryz.func12,Tryz.ntmps12
  go_wp2_with fail
  refine (eqOrderS_same _ _ l _ (zj (za HA) (za H0) (Nat.le_refl _)) (zj (za HB) (za H0) (Nat.le_refl _))).mono ?_
  rintro e w1 ⟨rfl,hb1⟩
  have HB1:=hide ((za H0).trans (hb1.mono (za H0).size))
  clear hb1
  go_wp2_with fail
  go_ret
  exact ⟨rfl,za HB1⟩
end Go.Proofs.YtdfihaabhichdaaGreat
namespace Go.Proofs.YtdfihaabhichdaaGreat
open Go.RowKit
set_option linter.unusedVariables false

structure Cm where
  k:Int
  s:Int
  t:Int
  l:Int
  q:Int
  i:Int
  p:Nat
  g:ByteArray
def Cm.vs (c:Cm):List Value:=[.int .i64 c.k,.int .i64 c.s,.int .i64 c.t,.int .i64 c.l,.int .i64 c.q,.int .i64 c.i,.float .f64 c.p,.string c.g]
theorem Cm.len (c:Cm):c.vs.length = 8:=rfl
theorem cm_cells {w:World} {b o:Nat} {c:Cm} (h:w.rangeAt b o c.vs) :
    w.cell? ⟨b,o,none⟩ = some (.int .i64 c.k)∧w.cell? ⟨b,o + 1,none⟩ = some (.int .i64 c.s)∧w.cell? ⟨b,o + 2,none⟩ = some (.int .i64 c.t)∧w.cell? ⟨b,o + 3,none⟩ = some (.int .i64 c.l) ∧
    w.cell? ⟨b,o + 4,none⟩ = some (.int .i64 c.q)∧w.cell? ⟨b,o + 5,none⟩ = some (.int .i64 c.i)∧w.cell? ⟨b,o + 6,none⟩ = some (.float .f64 c.p)∧w.cell? ⟨b,o + 7,none⟩ = some (.string c.g) :=
  ⟨h 0 _ rfl,h 1 _ rfl,h 2 _ rfl,h 3 _ rfl,h 4 _ rfl,h 5 _ rfl,h 6 _ rfl,h 7 _ rfl⟩
theorem zK {w:World} {b o n:Nat} (h:w.there b o n) (j:Nat) (hj:j < n):∃ v,w.cell? ⟨b,o + j,none⟩ = some v∧w.frozen? ⟨b,o + j,none⟩ = false:=by
  obtain ⟨v,hv⟩:=Option.isSome_iff_exists.1 (h j hj).1
  exact ⟨v,hv,(h j hj).2⟩
theorem sfl (a:Addr) (x:Nat) (m:Mode) (w:World):(store a (.float .f64 x) m).run Tryz.prog w = stored Tryz.prog w a (.float .f64 x) m:=run_store _ w a _ m rfl
end Go.Proofs.YtdfihaabhichdaaGreat
namespace Go.Proofs.YtdfihaabhichdaaGreat
open Go.RowKit
set_option linter.unusedVariables false

theorem toCmd_any (c:Cm) (w:World) :
    Calls Tryz.prog 10 #[.agg #[.int .i64 c.k,.int .i64 c.s,.int .i64 c.t,.int .i64 c.l,.int .i64 c.q,.int .i64 c.i,.float .f64 c.p,.string c.g]] w fun e w' =>
      e = .returned (.agg #[.int .i64 c.k,.int .i64 c.s,.int .i64 c.t,.int .i64 c.l,.int .i64 c.q,.int .i64 c.i,.float .f64 c.p,.string c.g])∧Below w.heap.size w w':=by
  obtain ⟨k,s,t,l,q,i,p,g⟩:=c
  have hsf:=sfl
  simp only
  go_enter Tryz.func10,Tryz.ntmps10
  go_wp2_with fail
  go_returns
  refine ⟨rfl,?_⟩
  go_grown
end Go.Proofs.YtdfihaabhichdaaGreat
namespace Go.Proofs.YtdfihaabhichdaaGreat
open Go.RowKit
set_option linter.unusedVariables false

def betB (n a b:Int):Bool:=decide (a ≤ n) && decide (n ≤ b)
theorem zJ (n a b:Int) (w:World) :
    Calls Tryz.prog 72 #[.int .i64 n,.int .i64 a,.int .i64 b] w fun e w'=>e = .returned (.bool (betB n a b))∧w' = w:=by
  go_enter Tryz.func72,Tryz.ntmps72
  go_wp2
  all_goals go_ret
  all_goals exact ⟨zl (by rw [Bool.eq_iff_iff]; simp [betB]; omega),rfl⟩
theorem zbc (n:Int) (w:World) :
    Calls Tryz.prog 104 #[.int .i64 n] w fun e w'=>e = .returned (.bool (betB n 1 2))∧w' = w:=by
  go_enter Tryz.func104,Tryz.ntmps104
  go_wp2
  all_goals go_ret
  all_goals exact ⟨zl (by rw [Bool.eq_iff_iff]; simp [betB]; omega),rfl⟩
theorem zbb (n:Int) (w:World) :
    Calls Tryz.prog 105 #[.int .i64 n] w fun e w'=>e = .returned (.bool (betB n 0 1))∧w' = w:=by
  go_enter Tryz.func105,Tryz.ntmps105
  go_wp2
  all_goals go_ret
  all_goals exact ⟨zl (by rw [Bool.eq_iff_iff]; simp [betB]; omega),rfl⟩
def tagC (c:UInt8):Bool:=betB c.toNat 32 126
def tagB (s:ByteArray):Bool:=decide (s.size ≤ 12) && s.data.toList.all tagC
theorem drop_cons (s:ByteArray) (k:Nat) (h:k < s.size):s.data.toList.drop k = s[k] :: s.data.toList.drop (k + 1):=by
  rw [get_nat s k h]
  exact List.drop_eq_getElem_cons (by rw [data_len]; exact h)
theorem tag_yes (s:ByteArray) (h:s.size ≤ 12) (hk:s.data.toList.all tagC = true):tagB s = true:=by simp only [tagB,hk,decide_eq_true h,Bool.and_true]
theorem tag_long (s:ByteArray) (h:¬ s.size ≤ 12):tagB s = false:=by simp only [tagB,decide_eq_false h,Bool.false_and]
theorem tag_no (s:ByteArray) (hk:s.data.toList.all tagC = false):tagB s = false:=by simp only [tagB,hk,Bool.and_false]
set_option maxHeartbeats 400000 in
theorem isTag_any (s:ByteArray) (w:World) (hs:s.size ≤ maxLen) :
    Calls Tryz.prog 106 #[.string s] w fun e w'=>e = .returned (.bool (tagB s))∧w' = w:=by
  unfold maxLen at hs
  by_cases hl:s.size ≤ 12
  · have hl':¬ ((12:Int) < s.size):=by omega
    go_enter Tryz.func106,Tryz.ntmps106
    go_wp2_with fail
    go_loop [9] (fun i=>∃ k:Nat,k ≤ s.size∧i = .int .i64 k∧Hid (s.data.toList.all tagC = (s.data.toList.drop k).all tagC)) (fun i=>s.size - (intOf i).toNat)
    case atStart=>exact ⟨0,Nat.zero_le _,rfl,by simp [Hid]⟩
    case round =>
      obtain ⟨k,hk,rfl,hall⟩:=hrel
      by_cases hlt:k < s.size
      · have hlt':(k:Int) < s.size:=by omega
        have hdr:=drop_cons s k hlt
        have hgen:∃ c,c = s[k]:=⟨_,rfl⟩
        obtain ⟨c,hc⟩:=hgen
        have hw:betB (wrap64 (s[k].toNat:Int)) 32 126 = tagC c:=by
          have hlt256:=UInt8.toNat_lt s[k]
          rw [hc,show wrap64 (s[k].toNat:Int) = (s[k].toNat:Int) by unfold wrap64; omega]; rfl
        cases ht:tagC c
        · rw [ht] at hw
          have HT:Hid (s.data.toList.all tagC = false):=by
            have:=za hall
            rw [hdr,List.all_cons,← hc,ht,Bool.false_and] at this
            exact this
          clear hdr hc ht
          go_wp2_with fail
          refine (zJ (wrap64 (s[k].toNat:Int)) 32 126 w).mono ?_
          rintro e w1 ⟨rfl,rfl⟩
          go_wp2_with fail
          go_ret
          exact ⟨zl (tag_no s (za HT)).symm,rfl⟩
        · rw [ht] at hw
          have HN:Hid (s.data.toList.all tagC = (s.data.toList.drop (k + 1)).all tagC):=by
            have:=za hall
            rw [hdr,List.all_cons,← hc,ht,Bool.true_and] at this
            exact this
          clear hdr hc ht
          go_wp2_with fail
          refine (zJ (wrap64 (s[k].toNat:Int)) 32 126 w).mono ?_
          rintro e w1 ⟨rfl,rfl⟩
          go_wp2_with fail
          go_round
          case rel=>exact ⟨k + 1,by omega,by go_num,za HN⟩
          case measure=>simp [intOf]; omega
      · go_wp2_with fail
        go_ret
        have h:=za hall
        rw [List.drop_of_length_le (by rw [data_len]; omega)] at h
        exact ⟨zl (tag_yes s hl (by rw [h]; rfl)).symm,rfl⟩
  · have hl':(12:Int) < s.size:=by omega
    go_enter Tryz.func106,Tryz.ntmps106
    go_wp2_with fail
    go_ret
    exact ⟨zl (tag_long s hl).symm,rfl⟩
def ordB (o:Od):Bool:=betB o.side 1 2 && betB o.life 0 1 && tagB o.tag && betB o.ticks 1 1000000 && betB o.left 1 1000000
set_option maxHeartbeats 800000 in
theorem orderOK_any (o:Od) (w:World) (hs:o.tag.size ≤ maxLen) :
    Calls Tryz.prog 74 #[.agg #[.int .i64 o.id,.int .i64 o.side,.int .i64 o.ticks,.int .i64 o.left,.int .i64 o.life,.string o.tag]] w fun e w'=>e = .returned (.bool (ordB o))∧Below w.heap.size w w':=by
  have HT:=hide (fun W=>isTag_any o.tag W hs)
  clear hs
  cases h1:betB o.side 1 2
  · go_enter Tryz.func74,Tryz.ntmps74
    go_wp2_with (first | (go_at_call 104; refine (zbc _ _).mono ?_; rintro e w' ⟨rfl,rfl⟩) | (go_at_call 105; refine (zbb _ _).mono ?_; rintro e w' ⟨rfl,rfl⟩) | (go_at_call 106; refine (za HT _).mono ?_; rintro e w' ⟨rfl,rfl⟩) | (go_at_call 72; refine (zJ _ _ _ _).mono ?_; rintro e w' ⟨rfl,rfl⟩))
    go_ret
    exact ⟨zl (by simp [ordB,h1]),by go_grown⟩
  ·
    cases h2:betB o.life 0 1
    · go_enter Tryz.func74,Tryz.ntmps74
      go_wp2_with (first | (go_at_call 104; refine (zbc _ _).mono ?_; rintro e w' ⟨rfl,rfl⟩) | (go_at_call 105; refine (zbb _ _).mono ?_; rintro e w' ⟨rfl,rfl⟩) | (go_at_call 106; refine (za HT _).mono ?_; rintro e w' ⟨rfl,rfl⟩) | (go_at_call 72; refine (zJ _ _ _ _).mono ?_; rintro e w' ⟨rfl,rfl⟩))
      go_ret
      exact ⟨zl (by simp [ordB,h1,h2]),by go_grown⟩
    ·
      cases h3:tagB o.tag
      · go_enter Tryz.func74,Tryz.ntmps74
        go_wp2_with (first | (go_at_call 104; refine (zbc _ _).mono ?_; rintro e w' ⟨rfl,rfl⟩) | (go_at_call 105; refine (zbb _ _).mono ?_; rintro e w' ⟨rfl,rfl⟩) | (go_at_call 106; refine (za HT _).mono ?_; rintro e w' ⟨rfl,rfl⟩) | (go_at_call 72; refine (zJ _ _ _ _).mono ?_; rintro e w' ⟨rfl,rfl⟩))
        go_ret
        exact ⟨zl (by simp [ordB,h1,h2,h3]),by go_grown⟩
      ·
        cases h4:betB o.ticks 1 1000000
        · go_enter Tryz.func74,Tryz.ntmps74
          go_wp2_with (first | (go_at_call 104; refine (zbc _ _).mono ?_; rintro e w' ⟨rfl,rfl⟩) | (go_at_call 105; refine (zbb _ _).mono ?_; rintro e w' ⟨rfl,rfl⟩) | (go_at_call 106; refine (za HT _).mono ?_; rintro e w' ⟨rfl,rfl⟩) | (go_at_call 72; refine (zJ _ _ _ _).mono ?_; rintro e w' ⟨rfl,rfl⟩))
          go_ret
          exact ⟨zl (by simp [ordB,h1,h2,h3,h4]),by go_grown⟩
        ·
          cases h5:betB o.left 1 1000000
          · go_enter Tryz.func74,Tryz.ntmps74
            go_wp2_with (first | (go_at_call 104; refine (zbc _ _).mono ?_; rintro e w' ⟨rfl,rfl⟩) | (go_at_call 105; refine (zbb _ _).mono ?_; rintro e w' ⟨rfl,rfl⟩) | (go_at_call 106; refine (za HT _).mono ?_; rintro e w' ⟨rfl,rfl⟩) | (go_at_call 72; refine (zJ _ _ _ _).mono ?_; rintro e w' ⟨rfl,rfl⟩))
            go_ret
            exact ⟨zl (by simp [ordB,h1,h2,h3,h4,h5]),by go_grown⟩
          · go_enter Tryz.func74,Tryz.ntmps74
            go_wp2_with (first | (go_at_call 104; refine (zbc _ _).mono ?_; rintro e w' ⟨rfl,rfl⟩) | (go_at_call 105; refine (zbb _ _).mono ?_; rintro e w' ⟨rfl,rfl⟩) | (go_at_call 106; refine (za HT _).mono ?_; rintro e w' ⟨rfl,rfl⟩) | (go_at_call 72; refine (zJ _ _ _ _).mono ?_; rintro e w' ⟨rfl,rfl⟩))
            go_ret
            exact ⟨zl (by simp [ordB,h1,h2,h3,h4,h5]),by go_grown⟩
end Go.Proofs.YtdfihaabhichdaaGreat
