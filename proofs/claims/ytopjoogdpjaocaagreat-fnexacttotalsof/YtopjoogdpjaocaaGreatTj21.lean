/-
  The end of a day, by the engine: proved by walking the method.
-/
import Derived.Test.YtopjoogdpjaocaaGreatTj20
set_option linter.unusedVariables false
set_option maxHeartbeats 6400000
set_option maxRecDepth 100000
namespace Go.Proofs.YtopjoogdpjaocaaGreat
open Go.RowKit
def dyB (o:Od):Bool:=o.life == 1
def expE (o:Od):Ev:=⟨9,zCm,o.id,0,o.left,0,0⟩
theorem take_dy {l:List Od} {j:Nat} {o:Od} (h:l[j]? = some o) (hd:o.life = 1):(l.take (j + 1)).filter dyB = (l.take j).filter dyB ++ [o]:=by
 rw [List.take_add_one,h,List.filter_append]
 simp [dyB,hd]
theorem take_no {l:List Od} {j:Nat} {o:Od} (h:l[j]? = some o) (hd:o.life ≠ 1):(l.take (j + 1)).filter dyB = (l.take j).filter dyB:=by
 rw [List.take_add_one,h,List.filter_append]
 simp [dyB,hd]
theorem ev_more (going:List Od) (ts:List Ev) (n:Int) {k:Nat} {o:Od} (h:going[k]? = some o):ts ++ [⟨8,zCm,0,0,n,0,0⟩] ++ (going.take (k + 1)).map expE = (ts ++ [⟨8,zCm,0,0,n,0,0⟩] ++ (going.take k).map expE) ++ [expE o]:=by
 rw [List.take_add_one,h]; simp
set_option maxHeartbeats 800000 in
theorem deleteDay_nil (w:World) :
  Calls Tryz.prog 77 #[.slice none 0 0,.func (.func 76) #[] #[]] w fun e w'=>e = .returned (.slice none 0 0)∧Below w.heap.size w w':=by
 go_enter Tryz.func77,Tryz.ntmps77
 go_wp2_with fail
 refine (indexDay_any (.slice none 0 0) [] w ⟨none,0,rfl,by simp,fun h=>absurd rfl h⟩).mono ?_
 rintro e w2 ⟨rfl,hb2⟩
 have hf:fdy [] = -1:=rfl
 rw [hf]
 have HB:=hide hb2
 clear hb2
 go_wp2_with fail
 go_ret
 exact ⟨rfl,za HB⟩
theorem deleteDay_row (B:Nat) (v:Value) (l:List Od) (w:World) (hn:l.length ≤ 1000) (ho:ORow w B v l) :
  Calls Tryz.prog 77 #[v,.func (.func 76) #[] #[]] w fun e w'=>∃ v',e = .returned v'∧ORow w' B v' (l.filter ndy)∧w.grownBy w' v.ownBlock∧v'.oneCell' = true:=by
 rcases ho.2 with ⟨rfl,h0⟩ | ⟨g,cap,cur,rfl,_⟩
 ·obtain rfl:=List.length_eq_zero_iff.1 h0
  refine (deleteDay_nil w).mono ?_
  rintro e w2 ⟨rfl,hb2⟩
  exact ⟨_,rfl,World.ownsRow_nil _ _ _ _,zaa hb2 (Nat.le_refl _),rfl⟩
 ·refine (deleteDay_any g cap B l w hn ho).mono ?_
  rintro e w2 ⟨rfl,ho2,hg2⟩
  exact ⟨_,rfl,ho2,hg2,rfl⟩
set_option maxRecDepth 100000 in
set_option maxHeartbeats 6400000 in
theorem endDayE_any {mb B Bo:Nat} {gv:Value} {gs:List Value} {gl:List (List Ev)} {next:Int} {vq:Value} {l:List Od} {t:Tot} {vo:Value} {ts:List Ev} (w:World) (h:EnS mb B Bo w gv gs gl next vq l t vo ts) (hl:l.length ≤ 100) (hn:ts.length ≤ 100) :
  Calls Tryz.prog 53 #[.pointer (some ⟨mb,0,none⟩)] w fun r w'=>r = .returned (.tuple #[])∧(∃ vq' vo',EnS mb B Bo w' gv gs gl next vq' (l.filter ndy) t vo' (ts ++ [⟨8,zCm,0,0,((l.filter dyB).length:Nat),0,0⟩] ++ (l.filter dyB).map expE))∧KeptBut mb B w w':=by
 obtain ⟨i0,hi0,hz0,hz1,hz2⟩:=info_parts Tryz.infoOrder
 have HE:=hide h
 have hmw:=h.lt
 have hBw:B ≤ w.heap.size:=Nat.le_trans h.bo h.le
 obtain ⟨a,cap,hvq,hlen,hc⟩:=zM h.orow (by omega)
 have hcell:∀ (k:Nat) (c:Od),l[k]? = some c→∃ b off,a = some ⟨b,off,none⟩∧b < w.heap.size∧w.rangeAt b (off + k * 6) c.vs:=by
  intro k c hk
  obtain ⟨b,off,h1,h2,h3⟩:=hc (by intro h; rw [h] at hk; simp at hk)
  exact ⟨b,off,h1,h2,h3 k c hk⟩
 have HC:=hide hcell
 have z2:w.cell? ⟨mb,2,none⟩ = some (.slice a l.length cap):=by rw [← hvq]; exact h.cells 2 _ rfl
 have HVQ:=hide hvq
 clear hcell hc hlen h hvq
 go_enter Tryz.func53,Tryz.ntmps53
 refine wp_seq_k fun K hK=>?_
 have HK1:=hide hK
 clear hK
 go_wp2_with fail
 refine za HK1 _ _ ?_
 clear HK1
 refine wp_seq_k fun K hK=>?_
 have HK1:=hide hK
 clear hK
 go_wp2_with fail
 clear z2
 go_loopw [2,14] (fun gov iv wr=>∃ (k:Nat),k ≤ l.length∧iv = .int .i64 k∧Hid (ORow wr w.heap.size gov ((l.take k).filter dyB)∧Below w.heap.size w wr)) (fun _ iv _=>l.length - (intOf iv).toNat)
 case atStart=>exact ⟨0,Nat.zero_le _,rfl,⟨World.ownsRow_nil _ _ _ _,Below.refl _ _⟩⟩
 case round =>
  obtain ⟨k,hk,rfl,hin⟩:=hrel
  by_cases hlt:k < l.length
  ·obtain ⟨c,hkc⟩:∃ c,l[k]? = some c:=⟨_,List.getElem?_eq_getElem hlt⟩
   obtain ⟨b,off,rfl,hb,hcl⟩:=za HC k c hkc
   obtain ⟨g0,g1,g2,g3,g4,g5⟩:=zD (zb hcl (za hin).2 hb)
   have hlt':(k:Int) < l.length:=by omega
   have HKC:=hide hkc
   have hszr:=(za hin).2.size
   have HBX:Hid (Below wr.heap.size wr (wr.alloc (Obj.cells #[.int .i64 c.id,.int .i64 c.side,.int .i64 c.ticks,.int .i64 c.left,.int .i64 c.life,.string c.tag] 78))):=(Below.refl _ _).alloc (Nat.le_refl _) _
   have HBR:Hid (World.rangeAt (wr.alloc (Obj.cells #[.int .i64 c.id,.int .i64 c.side,.int .i64 c.ticks,.int .i64 c.left,.int .i64 c.life,.string c.tag] 78)) wr.heap.size 0 c.vs):=zh wr c.vs _
   have hsx:wr.heap.size < (wr.alloc (Obj.cells #[.int .i64 c.id,.int .i64 c.side,.int .i64 c.ticks,.int .i64 c.left,.int .i64 c.life,.string c.tag] 78)).heap.size:=by rw [ze]; omega
   have hc0:World.cell? (wr.alloc (Obj.cells #[.int .i64 c.id,.int .i64 c.side,.int .i64 c.ticks,.int .i64 c.left,.int .i64 c.life,.string c.tag] 78)) ⟨wr.heap.size,0,none⟩ = some (.int .i64 c.id):=za HBR 0 _ rfl
   clear hkc hcl hb hc0
   go_wp2_with fail
   generalize (wr.alloc (Obj.cells #[.int .i64 c.id,.int .i64 c.side,.int .i64 c.ticks,.int .i64 c.left,.int .i64 c.life,.string c.tag] 78)) = Y at HBX HBR hsx ⊢
   refine (zcl c Y).mono ?_
   rintro e w3 ⟨rfl,hb3⟩
   have HB3:=hide ((za HBX).trans (hb3.mono (za HBX).size))
   have hbr:=zb (za HBR) hb3 hsx
   have hs3:wr.heap.size < w3.heap.size:=Nat.lt_of_lt_of_le hsx hb3.size
   clear hb3 g0 g1 g2 g3 g4 g5
   have HO3:=hide (zk (za hin).1 (za HB3))
   have HW3:=hide ((za hin).2.trans ((za HB3).mono hszr))
   by_cases hd:c.life = 1
   ·have hbd:(c.life == 1) = true:=by simpa using hd
    have HN:=hide (take_dy (za HKC) hd)
    have hlg:((l.take k).filter dyB).length ≤ 100:=Nat.le_trans (List.length_filter_le _ _) (Nat.le_trans (List.length_take_le _ _) (by omega))
    have x0:w3.cell? ⟨wr.heap.size,0,none⟩ = some (.int .i64 c.id):=hbr 0 _ rfl
    have x1:w3.cell? ⟨wr.heap.size,1,none⟩ = some (.int .i64 c.side):=hbr 1 _ rfl
    have x2:w3.cell? ⟨wr.heap.size,2,none⟩ = some (.int .i64 c.ticks):=hbr 2 _ rfl
    have x3:w3.cell? ⟨wr.heap.size,3,none⟩ = some (.int .i64 c.left):=hbr 3 _ rfl
    have x4:w3.cell? ⟨wr.heap.size,4,none⟩ = some (.int .i64 c.life):=hbr 4 _ rfl
    have x5:w3.cell? ⟨wr.heap.size,5,none⟩ = some (.string c.tag):=hbr 5 _ rfl
    have HO4:=hide ((za HO3).alloc (Obj.cells #[.int .i64 c.id,.int .i64 c.side,.int .i64 c.ticks,.int .i64 c.left,.int .i64 c.life,.string c.tag] 78))
    have HW4:=hide ((za HW3).alloc (za HW3).size (Obj.cells #[.int .i64 c.id,.int .i64 c.side,.int .i64 c.ticks,.int .i64 c.left,.int .i64 c.life,.string c.tag] 78))
    generalize hgl:(l.take k).filter dyB = going at HO3 HO4 HN hlg
    clear hd hbr hgl hin
    go_wp2_with (at_builtin; go_must (refine wpList_append_own _ rfl _ _ 44 rfl w.heap.size 78 i0 _ 6 56 Tryz.underlying44 hi0 hz0 hz1 hz2 rfl (by decide) u2 going.length (going.flatMap Od.vs) rfl (za HO4) ⟨w3.heap.size,0,none⟩ 1 1 c.vs rfl rfl (cellsQ w3 c.vs 78) (one_od c) (by unfold maxLen; omega) (by omega) (za HW4).size ?_); intro v5 w5 hown5 hg5 _; have HO5:=hide hown5; have HG5:=hide hg5; clear hown5 hg5)
    have HN5:Hid (ORow w5 w.heap.size v5 ((l.take (k + 1)).filter dyB)∧Below w.heap.size w w5):=by
     refine ⟨?_,(za HW4).grown (za HG5) (za HW4).size (fun q hq=>((za HO4).lt q hq).1)⟩
     rw [za HN]
     show w5.ownsRow _ _ _ _ (going ++ [c]).length _
     rw [List.length_append,List.flatMap_append]
     simpa using za HO5
    clear HO5 HG5
    go_wp2_with fail
    go_roundw
    case rel=>exact ⟨k + 1,by omega,by go_num,za HN5⟩
    case measure=>simp [intOf]; omega
   ·have hbd:(c.life == 1) = false:=by rw [beq_eq_false_iff_ne]; exact hd
    have HN5:Hid (ORow w3 w.heap.size u2 ((l.take (k + 1)).filter dyB)∧Below w.heap.size w w3):=by
     rw [take_no (za HKC) hd]
     exact ⟨za HO3,za HW3⟩
    clear hd hbr
    go_wp2_with fail
    go_roundw
    case rel=>exact ⟨k + 1,by omega,by go_num,za HN5⟩
    case measure=>simp [intOf]; omega
  ·obtain rfl:k = l.length:=by omega
   rw [List.take_of_length_le (Nat.le_refl _)] at hin
   have hlt':¬ (l.length:Int) < l.length:=by omega
   have hlg:(l.filter dyB).length ≤ 100:=Nat.le_trans (List.length_filter_le _ _) hl
   have HIN:=hide (za hin)
   generalize hgo:l.filter dyB = going at HIN hlg
   have HGO:=hide hgo
   obtain ⟨ag,cg,hu2,hu3,hu4⟩:=zM (za HIN).1 (by omega)
   have HE0:=hide (zO (za HE) (za HIN).2)
   subst hu2
   have HK0:Hid (KeptBut mb B w wr):=zA (za HIN).2 hBw
   clear hin hgo hu3 hu4
   go_wp2_with fail
   refine za HK1 _ _ ?_
   clear HK1
   refine wp_seq_k fun K hK=>?_
   have HK1:=hide hK
   clear hK
   go_wp2_with fail
   refine (zaQ ⟨8,zCm,0,0,(going.length:Nat),0,0⟩ wr (za HE0) (by omega)).mono ?_
   rintro e w5 ⟨rfl,⟨vo5,hE5⟩,hk5,ht5⟩
   have HST:Hid (ORow w5 w.heap.size (.slice ag going.length cg) going∧(∃ vo',EnS mb B Bo w5 gv gs gl next vq l t vo' (ts ++ [⟨8,zCm,0,0,(going.length:Nat),0,0⟩] ++ (going.take 0).map expE))∧KeptBut mb B w w5):=⟨zam (za HIN).1 ht5 (zj (za HIN).1 (za HE0).box (by decide)) (zB (za HIN).1 (za HE0).erow (by decide)),⟨vo5,by simpa using hE5⟩,zi (za HK0) hk5⟩
   clear hE5 hk5 ht5 HIN HE0 HK0
   go_wp2_with fail
   refine za HK1 _ _ ?_
   clear HK1
   refine wp_seq_k fun K hK=>?_
   have HK1:=hide hK
   clear hK
   go_wp2_with fail
   go_loopw [32] (fun iv wr2=>∃ (k:Nat),k ≤ going.length∧iv = .int .i64 k∧Hid (ORow wr2 w.heap.size (.slice ag going.length cg) going∧(∃ vo',EnS mb B Bo wr2 gv gs gl next vq l t vo' (ts ++ [⟨8,zCm,0,0,(going.length:Nat),0,0⟩] ++ (going.take k).map expE))∧KeptBut mb B w wr2)) (fun iv _=>going.length - (intOf iv).toNat)
   case atStart=>exact ⟨0,Nat.zero_le _,rfl,za HST⟩
   case round =>
    obtain ⟨k,hk2,rfl,hin2⟩:=hrel
    obtain ⟨hor,⟨vo6,hE6⟩,hk6⟩:=za hin2
    by_cases hlt2:k < going.length
    ·obtain ⟨o,hko⟩:∃ o,going[k]? = some o:=⟨_,List.getElem?_eq_getElem hlt2⟩
     obtain ⟨a',c',e1,_,hcl⟩:=zM hor (by omega)
     obtain ⟨b,off,e2,hb,hcl⟩:=hcl (by rintro rfl; simp at hko)
     simp only [Value.slice.injEq] at e1
     obtain ⟨e1,-,-⟩:=e1
     rw [e2] at e1
     subst e1
     obtain ⟨g0,g1,g2,g3,g4,g5⟩:=zD (hcl k o hko)
     have hlt2':(k:Int) < going.length:=by omega
     have hk0:(0:Int) ≤ k:=by omega
     have hbY:Below wr.heap.size wr (wr.alloc (Obj.cells #[.int .i64 o.id,.int .i64 o.side,.int .i64 o.ticks,.int .i64 o.left,.int .i64 o.life,.string o.tag] 78)):=(Below.refl _ _).alloc (Nat.le_refl _) _
     have HEY:=hide (zO hE6 hbY)
     have HOY:=hide (zk hor hbY)
     have HKY:=hide (zi hk6 (zA hbY (by have:=hE6.bo; have:=hE6.le; omega)))
     have HNX:=hide (ev_more going ts (going.length:Nat) hko)
     have HLN:Hid ((ts ++ [(⟨8,zCm,0,0,(going.length:Nat),0,0⟩:Ev)] ++ (going.take k).map expE).length ≤ 1000):=by
      show _ ≤ _
      simp [List.length_take]; omega
     clear hor hE6 hk6 hcl hbY hko e2 hb
     go_wp2_with fail
     generalize (wr.alloc (Obj.cells #[.int .i64 o.id,.int .i64 o.side,.int .i64 o.ticks,.int .i64 o.left,.int .i64 o.life,.string o.tag] 78)) = Y at HEY HOY HKY ⊢
     refine (zaQ (expE o) Y (za HEY) (za HLN)).mono ?_
     rintro e w6 ⟨rfl,⟨vo7,hE7⟩,hk7,ht7⟩
     have HN:Hid (ORow w6 w.heap.size (.slice (some ⟨b,off,none⟩) going.length cg) going∧(∃ vo',EnS mb B Bo w6 gv gs gl next vq l t vo' (ts ++ [⟨8,zCm,0,0,(going.length:Nat),0,0⟩] ++ (going.take (k + 1)).map expE))∧KeptBut mb B w w6):=⟨zam (za HOY) ht7 (zj (za HOY) (za HEY).box (by decide)) (zB (za HOY) (za HEY).erow (by decide)),⟨vo7,by rw [za HNX]; exact hE7⟩,zi (za HKY) hk7⟩
     clear hE7 hk7 ht7
     go_wp2_with fail
     go_roundw
     case rel=>exact ⟨k + 1,by omega,by go_num,za HN⟩
     case measure=>simp [intOf]; omega
    ·obtain rfl:k = going.length:=by omega
     rw [List.take_of_length_le (Nat.le_refl _)] at hE6
     have hlt2':¬ (going.length:Int) < going.length:=by omega
     have HE6:=hide hE6
     have HK6:=hide hk6
     clear hor hE6 hk6
     go_wp2_with fail
     refine za HK1 _ _ ?_
     clear HK1
     have z2:wr.cell? ⟨mb,2,none⟩ = some vq:=(za HE6).cells 2 _ rfl
     go_wp2_with fail
     refine (deleteDay_row B vq l wr (by omega) (za HE6).orow).mono ?_
     rintro e w7 ⟨vq',rfl,ho7,hg7,-⟩
     have hnq:some mb ≠ vq.ownBlock:=zj (za HE6).orow (za HE6).box (by decide)
     have y2:w7.cell? ⟨mb,2,none⟩ = some vq:=hg7.cell z2 hnq
     have f2:w7.frozen? ⟨mb,2,none⟩ = false:=(World.frozen?_of_block (a:=⟨mb,2,none⟩) (hg7.block mb (za HE6).lt hnq)).trans (by have:=((za HE6).there 2 (by omega)).2; rwa [Nat.zero_add] at this)
     obtain ⟨aq,cq,hq1,-,-⟩:=zM ho7 (Nat.le_trans (List.length_filter_le _ _) (by omega))
     subst hq1
     have hbx7:∃ cur,w7.heap[mb]? = some (.cells cur 69 (0,0)):=by obtain ⟨cur,hc⟩:=(za HE6).box; exact ⟨cur,(hg7.block mb (za HE6).lt hnq).trans hc⟩
     have ht8:TookAt mb 1 vq.ownBlock wr (w7.setCell ⟨mb,2,none⟩ (.slice aq (l.filter ndy).length cq)):=zas (zaj hg7 (za HE6).lt hnq) (zbK (o:=1) _ _)
     have HE8:=hide (ens_took (za HE6) (World.cell?_setCell_same _ _ _ y2) (zt ho7 (zj ho7 hbx7 (by decide)) 2 _) ht8)
     have HK8:=hide (zi (za HK6) (zaY ht8 (Nat.le_trans (za HE6).bo (za HE6).le) (fun g' hg'=>((za HE6).orow.lt g' hg').1)))
     clear ho7 hg7 ht8 hbx7 z2
     go_wp2_with fail
     go_end0
     rw [za HGO]
     exact ⟨rfl,⟨_,vo6,za HE8⟩,za HK8⟩
set_option maxRecDepth 100000 in
set_option maxHeartbeats 3200000 in
theorem rest_took (mb B:Nat) (next:Int) (vq:Value) (l:List Od) (t:Od) (vt:Value) (ts:List Ev) (w:World) (h:MatS mb B w next vq l t vt ts) (hn:l.length ≤ 1000) :
  Calls Tryz.prog 73 #[.pointer (some ⟨mb,0,none⟩)] w fun e w'=>∃ vq',e = .returned (.tuple #[])∧MatS mb B w' next vq' (l ++ [t]) t vt ts∧TookAt mb 0 vq.ownBlock w w':=by
 have HM:=hide h
 have hmw:=h.lt
 have hBw:=h.le
 have hnq:=h.nq
 have HBX:=hide h.box
 have HORO:=hide h.orow
 have hM:=hide h.cells
 have HM1:Hid (w.cell? ⟨mb,1,none⟩ = some vq):=za hM 1 _ rfl
 have HF1:Hid (w.frozen? ⟨mb,1,none⟩ = false):=by have:=(h.there 1 (by omega)).2; rwa [Nat.zero_add] at this
 clear h
 obtain ⟨i0,hi0,hz0,hz1,hz2⟩:=info_parts Tryz.infoOrder
 go_enter Tryz.func73,Tryz.ntmps73
 go_wp2_with fail
 refine zo (RT (fun V=>Below w.heap.size w V) (fun f=>{ tmps:=#[.pointer (some ⟨mb,0,none⟩),undef,f 0,f 1,f 2,f 3,f 4,f 5,f 6,f 7,f 8,f 9,f 10,f 11,f 12,f 13,f 14],defers:=[] }) 11 15 (DR mb B w vq l t)) (by kernel_rfl) ?_ ?_ ?_
 ·exact ⟨fun _=>undef,rfl,fun _=>⟨rfl,rfl,rfl,Nat.le_refl _,fun _ _=>rfl⟩,fun j hj=>by rw [List.getElem?_replicate] at hj; split at hj <;> simp at hj⟩
 ·rintro x A V ⟨f,rfl,-,hD⟩ hx hrd
  have hallx:=zab hrd hx (acyc _ (by kernel_rfl))
  have k11:x[11]? = some true:=hallx 11 (by simp)
  have k15:x[15]? = some true:=hallx 15 (by simp)
  obtain ⟨va,vc,-,-,-,hfin⟩:=hD 11 k11
  obtain ⟨q1,q2,q3⟩:=hfin k15
  have HFIN:Hid (_∧_∧_):=⟨q1,q2,q3⟩
  clear hD hallx hrd hx k11 k15 hfin q1 q2 q3
  dsimp only
  go_wp2_with fail
  go_end0
  exact ⟨_,rfl,matS_took (za HM) (za HFIN).2.2 (za HFIN).1 (za HFIN).2.1,(za HFIN).2.2⟩
 ·rintro x A V i op ⟨f,rfl,hbs,hD⟩ hcl hx ho hxi hall
  have HBS:=hide hbs
  have HD:=hide hD
  have cellV:∀ b o u,w.cell? ⟨b,o,none⟩ = some u→¬ x[11]? = some true→V.cell? ⟨b,o,none⟩ = some u:=fun b o u hu hn11=>((za HBS hn11).cell (p:=⟨b,o,none⟩) (World.block_lt_of_cell? w _ hu)).trans hu
  have n11':i < 11→0 < i→¬ x[11]? = some true:=fun hlt hpos h11=>by
   have h5:=hcl 11 _ rfl h11 ⟨5,.data⟩ (by simp) rfl
   have h10:=hcl 11 _ rfl h11 ⟨10,.data⟩ (by simp) rfl
   have h4:=hcl 5 _ rfl h5 ⟨4,.data⟩ (by simp) rfl
   have h9:=hcl 10 _ rfl h10 ⟨9,.data⟩ (by simp) rfl
   have h3:=hcl 4 _ rfl h4 ⟨3,.data⟩ (by simp) rfl
   have h8:=hcl 9 _ rfl h9 ⟨8,.data⟩ (by simp) rfl
   have h2:=hcl 3 _ rfl h3 ⟨2,.data⟩ (by simp) rfl
   have h7:=hcl 8 _ rfl h8 ⟨7,.data⟩ (by simp) rfl
   have h1:=hcl 2 _ rfl h2 ⟨1,.data⟩ (by simp) rfl
   have h6:=hcl 7 _ rfl h7 ⟨6,.data⟩ (by simp) rfl
   have hallk:∀ j,0 < j→j < 11→x[j]? = some true:=fun j hj0 hj=>by
    rcases (by omega:j = 1 ∨ j = 2 ∨ j = 3 ∨ j = 4 ∨ j = 5 ∨ j = 6 ∨ j = 7 ∨ j = 8 ∨ j = 9 ∨ j = 10) with rfl | rfl | rfl | rfl | rfl | rfl | rfl | rfl | rfl | rfl <;> assumption
   rw [hallk i hpos hlt] at hxi; cases hxi
  have n15':i < 15→¬ x[15]? = some true:=fun hlt h15=>by
   have h14:=hcl 15 _ rfl h15 ⟨14,.data⟩ (by simp) rfl
   have h11:=hcl 15 _ rfl h15 ⟨11,.data⟩ (by simp) rfl
   have h13:=hcl 14 _ rfl h14 ⟨13,.data⟩ (by simp) rfl
   have h5:=hcl 11 _ rfl h11 ⟨5,.data⟩ (by simp) rfl
   have h10:=hcl 11 _ rfl h11 ⟨10,.data⟩ (by simp) rfl
   have h12:=hcl 13 _ rfl h13 ⟨12,.data⟩ (by simp) rfl
   have h4:=hcl 5 _ rfl h5 ⟨4,.data⟩ (by simp) rfl
   have h9:=hcl 10 _ rfl h10 ⟨9,.data⟩ (by simp) rfl
   have h0:=hcl 12 _ rfl h12 ⟨0,.data⟩ (by simp) rfl
   have h3:=hcl 4 _ rfl h4 ⟨3,.data⟩ (by simp) rfl
   have h8:=hcl 9 _ rfl h9 ⟨8,.data⟩ (by simp) rfl
   have h2:=hcl 3 _ rfl h3 ⟨2,.data⟩ (by simp) rfl
   have h7:=hcl 8 _ rfl h8 ⟨7,.data⟩ (by simp) rfl
   have h1:=hcl 2 _ rfl h2 ⟨1,.data⟩ (by simp) rfl
   have h6:=hcl 7 _ rfl h7 ⟨6,.data⟩ (by simp) rfl
   have hallk:∀ j,j < 15→x[j]? = some true:=fun j hj=>by
    rcases (by omega:j = 0 ∨ j = 1 ∨ j = 2 ∨ j = 3 ∨ j = 4 ∨ j = 5 ∨ j = 6 ∨ j = 7 ∨ j = 8 ∨ j = 9 ∨ j = 10 ∨ j = 11 ∨ j = 12 ∨ j = 13 ∨ j = 14) with rfl | rfl | rfl | rfl | rfl | rfl | rfl | rfl | rfl | rfl | rfl | rfl | rfl | rfl | rfl <;> assumption
   rw [hallk i hlt] at hxi; cases hxi
  clear hcl hbs
  match i,ho with
  | 0,ho =>
   obtain rfl:=Option.some.inj ho
   clear hall hD
   rw [if_pos (by rfl)]
   unfold Oper.wp
   go_simp
   exact ⟨upd f 0 (.pointer (some ⟨mb,0,none⟩)),by simp [upd],zF (za HD) (by decide) (by decide) (fun _ _ h=>h) (za HBS) rfl⟩
  | 1,ho =>
   obtain rfl:=Option.some.inj ho
   clear hall hD
   rw [if_pos (by rfl)]
   unfold Oper.wp
   go_simp
   exact ⟨upd f 1 (.pointer (some ⟨mb,0,none⟩)),by simp [upd],zF (za HD) (by decide) (by decide) (fun _ _ h=>h) (za HBS) rfl⟩
  | 2,ho =>
   obtain rfl:=Option.some.inj ho
   have g:f 1 = .pointer (some ⟨mb,0,none⟩):=hD 1 (hall ⟨1,.data⟩ (by simp) rfl)
   clear hall hD
   rw [if_pos (by rfl)]
   unfold Oper.wp
   go_simp
   exact ⟨upd f 2 (.pointer (some ⟨mb,0,none⟩)),by simp [upd,g],zF (za HD) (by decide) (by decide) (fun _ _ h=>h) (za HBS) rfl⟩
  | 3,ho =>
   obtain rfl:=Option.some.inj ho
   have g:f 2 = .pointer (some ⟨mb,0,none⟩):=hD 2 (hall ⟨2,.data⟩ (by simp) rfl)
   clear hall hD
   rw [if_pos (by rfl)]
   unfold Oper.wp
   go_simp
   exact ⟨upd f 3 (.pointer (some ⟨mb,0,none⟩)),by simp [upd,g],zF (za HD) (by decide) (by decide) (fun _ _ h=>h) (za HBS) rfl⟩
  | 4,ho =>
   obtain rfl:=Option.some.inj ho
   have g:f 3 = .pointer (some ⟨mb,0,none⟩):=hD 3 (hall ⟨3,.data⟩ (by simp) rfl)
   clear hall hD
   rw [if_pos (by rfl)]
   unfold Oper.wp
   go_simp
   exact ⟨upd f 4 (.pointer (some ⟨mb,1,none⟩)),by simp [upd,g],zF (za HD) (by decide) (by decide) (fun _ _ h=>h) (za HBS) rfl⟩
  | 5,ho =>
   obtain rfl:=Option.some.inj ho
   have g:f 4 = .pointer (some ⟨mb,1,none⟩):=hD 4 (hall ⟨4,.data⟩ (by simp) rfl)
   have n11:=n11' (by omega) (by omega)
   have y1:=cellV mb 1 _ (za HM1) n11
   clear hall hD
   rw [if_pos (by rfl)]
   unfold Oper.wp
   go_simp
   exact ⟨upd f 5 (vq),by simp [upd,g],zF (za HD) (by decide) (by decide) (fun _ _ h=>h) (za HBS) rfl⟩
  | 6,ho =>
   obtain rfl:=Option.some.inj ho
   clear hall hD
   rw [if_pos (by rfl)]
   unfold Oper.wp
   go_simp
   exact ⟨upd f 6 (.pointer (some ⟨mb,0,none⟩)),by simp [upd],zF (za HD) (by decide) (by decide) (fun _ _ h=>h) (za HBS) rfl⟩
  | 7,ho =>
   obtain rfl:=Option.some.inj ho
   have g:f 6 = .pointer (some ⟨mb,0,none⟩):=hD 6 (hall ⟨6,.data⟩ (by simp) rfl)
   clear hall hD
   rw [if_pos (by rfl)]
   unfold Oper.wp
   go_simp
   exact ⟨upd f 7 (.pointer (some ⟨mb,0,none⟩)),by simp [upd,g],zF (za HD) (by decide) (by decide) (fun _ _ h=>h) (za HBS) rfl⟩
  | 8,ho =>
   obtain rfl:=Option.some.inj ho
   have g:f 7 = .pointer (some ⟨mb,0,none⟩):=hD 7 (hall ⟨7,.data⟩ (by simp) rfl)
   clear hall hD
   rw [if_pos (by rfl)]
   unfold Oper.wp
   go_simp
   exact ⟨upd f 8 (.pointer (some ⟨mb,2,none⟩)),by simp [upd,g],zF (za HD) (by decide) (by decide) (fun _ _ h=>h) (za HBS) rfl⟩
  | 9,ho =>
   obtain rfl:=Option.some.inj ho
   have g:f 8 = .pointer (some ⟨mb,2,none⟩):=hD 8 (hall ⟨8,.data⟩ (by simp) rfl)
   have n11:=n11' (by omega) (by omega)
   have y2:=cellV mb 2 _ (za hM 2 _ rfl) n11
   have y3:=cellV mb 3 _ (za hM 3 _ rfl) n11
   have y4:=cellV mb 4 _ (za hM 4 _ rfl) n11
   have y5:=cellV mb 5 _ (za hM 5 _ rfl) n11
   have y6:=cellV mb 6 _ (za hM 6 _ rfl) n11
   have y7:=cellV mb 7 _ (za hM 7 _ rfl) n11
   clear hall hD
   rw [if_pos (by rfl)]
   unfold Oper.wp
   go_simp
   exact ⟨upd f 9 (.agg #[.int .i64 t.id,.int .i64 t.side,.int .i64 t.ticks,.int .i64 t.left,.int .i64 t.life,.string t.tag]),by simp [upd,g],zF (za HD) (by decide) (by decide) (fun _ _ h=>h) (za HBS) rfl⟩
  | 10,ho =>
   obtain rfl:=Option.some.inj ho
   have g:f 9 = .agg #[.int .i64 t.id,.int .i64 t.side,.int .i64 t.ticks,.int .i64 t.left,.int .i64 t.life,.string t.tag]:=hD 9 (hall ⟨9,.data⟩ (by simp) rfl)
   have n11:=n11' (by omega) (by omega)
   have hbV:=za HBS n11
   clear hall hD
   rw [if_pos (by rfl)]
   unfold Oper.wp
   go_simp
   refine ⟨upd f 10 (.slice (some ⟨V.heap.size,0,none⟩) 1 1),by simp [upd,g],zF (za HD) (by decide) (by decide) (dr_alloc n11) (fun _=>hbV.alloc hbV.size _) ⟨V.heap.size,rfl,fun _=>?_⟩⟩
   exact fun j u h=>cellsQ V t.vs 78 j u h
  | 11,ho =>
   obtain rfl:=Option.some.inj ho
   have g5:f 5 = vq:=hD 5 (hall ⟨5,.data⟩ (by simp) rfl)
   obtain ⟨s,g10,hcs⟩:=hD 10 (hall ⟨10,.data⟩ (by simp) rfl)
   have n11:¬ x[11]? = some true:=by rw [hxi]; simp
   have n15:=n15' (by omega)
   have hbV:=za HBS n11
   have hrow:ORow V B vq l:=zk (za HORO) hbV
   rw [if_pos (by rfl)]
   refine wp_append_own V (.tmp 7) (.tmp 12) 44 rfl B 78 i0 _ 6 56 Tryz.underlying44 hi0 hz0 hz1 hz2 rfl (by decide) vq l.length (l.flatMap Od.vs) g5 hrow ⟨s,0,none⟩ 1 1 t.vs g10 rfl (hcs n11) (one_od t) (by unfold maxLen; omega) (by omega) (by have:=hbV.size; omega) ?_
   intro v' w' hown hgr _
   obtain ⟨ga,gc,rfl⟩:=zce hown (by omega)
   refine ⟨upd f 11 (.slice (some ⟨ga,0,none⟩) (l.length + 1) gc),rfl,rt_one (by decide) (za HD) hxi n15 (fun j v hj h=>dr_one j v hj h) ⟨some ⟨ga,0,none⟩,gc,rfl,trivial,fun _=>⟨?_,?_⟩,fun h=>h.elim⟩⟩
   ·show World.ownsRow _ _ _ _ _ (l ++ [t]).length _
    rw [List.length_append,List.flatMap_append]; simpa using hown
   ·exact (zaa hbV (Nat.le_refl _)).trans hgr
  | 12,ho =>
   obtain rfl:=Option.some.inj ho
   have g:f 0 = .pointer (some ⟨mb,0,none⟩):=hD 0 (hall ⟨0,.data⟩ (by simp) rfl)
   clear hall hD
   rw [if_pos (by rfl)]
   unfold Oper.wp
   go_simp
   exact ⟨upd f 12 (.pointer (some ⟨mb,0,none⟩)),by simp [upd,g],zF (za HD) (by decide) (by decide) (fun _ _ h=>h) (za HBS) rfl⟩
  | 13,ho =>
   obtain rfl:=Option.some.inj ho
   have g:f 12 = .pointer (some ⟨mb,0,none⟩):=hD 12 (hall ⟨12,.data⟩ (by simp) rfl)
   clear hall hD
   rw [if_pos (by rfl)]
   unfold Oper.wp
   go_simp
   exact ⟨upd f 13 (.pointer (some ⟨mb,0,none⟩)),by simp [upd,g],zF (za HD) (by decide) (by decide) (fun _ _ h=>h) (za HBS) rfl⟩
  | 14,ho =>
   obtain rfl:=Option.some.inj ho
   have g:f 13 = .pointer (some ⟨mb,0,none⟩):=hD 13 (hall ⟨13,.data⟩ (by simp) rfl)
   clear hall hD
   rw [if_pos (by rfl)]
   unfold Oper.wp
   go_simp
   exact ⟨upd f 14 (.pointer (some ⟨mb,1,none⟩)),by simp [upd,g],zF (za HD) (by decide) (by decide) (fun _ _ h=>h) (za HBS) rfl⟩
  | 15,ho =>
   obtain rfl:=Option.some.inj ho
   have g14:f 14 = .pointer (some ⟨mb,1,none⟩):=hD 14 (hall ⟨14,.data⟩ (by simp) rfl)
   have k11:x[11]? = some true:=hall ⟨11,.data⟩ (by simp) rfl
   have n15:¬ x[15]? = some true:=by rw [hxi]; simp
   obtain ⟨ga,gc,g11,-,hfa,-⟩:=hD 11 k11
   obtain ⟨her,hgr⟩:=hfa n15
   have hmbV:some mb ≠ vq.ownBlock:=hnq
   have y1:=hgr.cell (za HM1) hmbV
   have f1:V.frozen? ⟨mb,1,none⟩ = false:=(World.frozen?_of_block (a:=⟨mb,1,none⟩) (hgr.block mb (by omega) hmbV)).trans (za HF1)
   have HER:=hide (g11 ▸ her)
   have HBXV:Hid (∃ cur,V.heap[mb]? = some (.cells cur 126 (0,0))):=by obtain ⟨cur,hc⟩:=za HBX; exact ⟨cur,(hgr.block mb (by omega) hmbV).trans hc⟩
   have HGR:=hide hgr
   clear hall hD her hgr hfa
   rw [if_pos (by rfl)]
   unfold Oper.wp
   go_simp
   refine ⟨upd f 15 undef,by simp [upd,g14,g11],rt_two (by decide) (za HD) k11 hxi (fun j hj hxj h=>dr_two j hj h (fun hj11=>?_)) trivial⟩
   subst hj11
   obtain ⟨-,-,-,-,-,-⟩:=h
   refine ⟨ga,gc,g11,trivial,fun h=>absurd trivial h,fun _=>?_⟩
   rw [g11]
   refine ⟨World.cell?_setCell_same _ _ _ y1,zt (za HER) (zj (za HER) (za HBXV) (by decide)) 1 _,?_⟩
   exact zas (zaj (za HGR) (by omega) hmbV) (zbK (o:=0) _ _)
  | i + 16,ho=>simp at ho
theorem gqY {x:List Bool} {i j:Nat} (h:i ≠ j):(x.set i true)[j]? = x[j]?:=List.getElem?_set_ne h
theorem gqsY {x:List Bool} {i:Nat} (h:x[i]? = some false):(x.set i true)[i]? = some true:=List.getElem?_set_self (List.getElem?_eq_some_iff.1 h).1
def ancS (l:List Oper) (s:List Nat):List Nat:=s ++ s.flatMap fun i=>match l[i]? with
 | some o=>(o.after.toList.filter fun e=>Region.binds .any e).map fun e=>e.on
 | none=>[]
def ancN (l:List Oper):Nat→List Nat→List Nat
 | 0,s=>s
 | n + 1,s=>ancN l n (ancS l s).eraseDups
theorem ancS_true {l:List Oper} {x:List Bool} (hc:Closed l x) {s:List Nat} (hs:∀ i ∈ s,x[i]? = some true):∀ i ∈ ancS l s,x[i]? = some true:=by
 intro i hi
 rcases List.mem_append.1 hi with h | h
 ·exact hs i h
 ·obtain ⟨k,hk,hm⟩:=List.mem_flatMap.1 h
  split at hm
  ·next o ho =>
   obtain ⟨e,he,rfl⟩:=List.mem_map.1 hm
   obtain ⟨he1,he2⟩:=List.mem_filter.1 he
   exact hc k o ho (hs k hk) e (by simpa using he1) he2
  ·simp at hm
theorem ancN_true {l:List Oper} {x:List Bool} (hc:Closed l x):∀ (n:Nat) (s:List Nat),(∀ i ∈ s,x[i]? = some true)→∀ i ∈ ancN l n s,x[i]? = some true
 | 0,s,hs=>hs
 | n + 1,s,hs=>ancN_true hc n _ (fun i hi=>ancS_true hc hs i (List.mem_eraseDups.1 hi))
theorem zx {l:List Oper} {x:List Bool} (hc:Closed l x) (d i n:Nat) (hB:(ancN l d [n]).contains i = true) (hx:x.length = l.length) (hn:n < l.length) (hi:x[i]? = some false):x[n]? = some false:=by
 rcases zbP hx hn with h | h
 ·exact h
 ·have:=ancN_true hc d [n] (by simpa using h) i (by simpa using hB)
  rw [hi] at this; cases this
structure RY (C:World→Nat→Value→Prop) (n:Nat) (Q:(Nat→Value)→World→Prop) (base:World) (x:List Bool) (f:Nat→Value) (W:World):Prop where
 b:x[n]? = some false→Below base.heap.size base W
 c:x[n]? = some false→∀ j,x[j]? = some true→C W j (f j)
 m:x[n]? = some true→Q f W
def RYA (F:(Nat→Value)→Act) (C:World→Nat→Value→Prop) (n:Nat) (Q:(Nat→Value)→World→Prop) (base:World) (x:List Bool) (A:Act) (W:World):Prop:=∃ f,A = F f∧RY C n Q base x f W
section
variable {C:World→Nat→Value→Prop} {n:Nat} {Q:(Nat→Value)→World→Prop} {base W W':World} {x:List Bool} {f:Nat→Value}
theorem ry_start {k:Nat} {f:Nat→Value} (hk:n < k):RY C n Q base (List.replicate k false) f { base with drawn:=base.drawn + 1 } :=
 ⟨fun _=>⟨rfl,rfl,rfl,Nat.le_refl _,fun _ _=>rfl⟩,fun _ j hj=>by rw [List.getElem?_replicate] at hj; split at hj <;> simp at hj,fun h=>by rw [List.getElem?_replicate] at h; split at h <;> simp at h⟩
theorem zU (h:RY C n Q base x f W) (i:Nat) (v:Value) (hn:x[n]? = some false) (hin:i ≠ n) (hv:C W i v):RY C n Q base (x.set i true) (upd f i v) W:=by
 refine ⟨fun _=>h.b hn,fun _ j hj=>?_,fun e=>by rw [gqY hin,hn] at e; cases e⟩
 by_cases hji:j = i
 ·subst hji; rw [zp]; exact hv
 ·rw [zq _ _ hji]; rw [gqY (fun e=>hji e.symm)] at hj; exact h.c hn j hj
theorem ry_grow (hm:∀ W W' j v,Below W.heap.size W W'→C W j v→C W' j v) (h:RY C n Q base x f W) (hn:x[n]? = some false) (hb:Below W.heap.size W W'):RY C n Q base x f W' :=
 ⟨fun _=>(h.b hn).trans (hb.mono (h.b hn).size),fun _ j hj=>hm _ _ _ _ hb (h.c hn j hj),fun e=>by rw [hn] at e; cases e⟩
theorem ry_write (h:RY C n Q base x f W) (hn:x[n]? = some false) (v:Value) (hq:Q (upd f n v) W'):RY C n Q base (x.set n true) (upd f n v) W' :=
 ⟨fun e=>(by rw [gqsY hn] at e; cases e),fun e=>(by rw [gqsY hn] at e; cases e),fun _=>hq⟩
theorem ry_writeN (h:RY C n Q base x f W) (hn:x[n]? = some false) (hq:Q f W'):RY C n Q base (x.set n true) f W' :=
 ⟨fun e=>(by rw [gqsY hn] at e; cases e),fun e=>(by rw [gqsY hn] at e; cases e),fun _=>hq⟩
theorem ry_after (h:RY C n Q base x f W) (i:Nat) (v:Value) (hn:x[n]? = some true) (hin:i ≠ n) (hq:Q f W→Q (upd f i v) W):RY C n Q base (x.set i true) (upd f i v) W :=
 ⟨fun e=>(by rw [gqY hin,hn] at e; cases e),fun e=>(by rw [gqY hin,hn] at e; cases e),fun _=>hq (h.m hn)⟩
end
end Go.Proofs.YtopjoogdpjaocaaGreat
