/-
  The end of a day, by the engine: proved by walking the method.
-/
import Derived.Test.YtaoaomipplmjcaaDj38
namespace Go.Proofs.Ytaoaomipplmjcaa
open Go.RowKit
set_option linter.unusedVariables false

def dyB (o:Od):Bool:=o.life == 1
def expE (o:Od):Ev:=⟨9,zCm,o.id,0,o.left,0,0⟩
theorem take_dy {l:List Od} {j:Nat} {o:Od} (h:l[j]? = some o) (hd:o.life = 1):(l.take (j + 1)).filter dyB = (l.take j).filter dyB ++ [o]:=by
 rw [List.take_add_one,h,List.filter_append]
 simp [dyB,hd]
theorem take_no {l:List Od} {j:Nat} {o:Od} (h:l[j]? = some o) (hd:o.life ≠ 1):(l.take (j + 1)).filter dyB = (l.take j).filter dyB:=by
 rw [List.take_add_one,h,List.filter_append]
 simp [dyB,hd]
theorem ev_more (going:List Od) (ts:List Ev) (n:Int) {k:Nat} {o:Od} (h:going[k]? = some o):ts ++ [⟨8,zCm,0,0,n,0,0⟩] ++ (going.take (k + 1)).map expE = (ts ++ [⟨8,zCm,0,0,n,0,0⟩] ++ (going.take k).map expE) ++ [expE o]:=by
 rw [List.take_add_one,h]; simp
set_option maxHeartbeats 800000 in
theorem deleteDay_nil (w:World) :
  Calls Try.prog 50 #[.slice none 0 0,.func (.func 49) #[] #[]] w fun e w'=>e = .returned (.slice none 0 0)∧Below w.heap.size w w':=by
 go_enter Try.func50,Try.ntmps50
 go_wp2_with fail
 refine (indexDay_any (.slice none 0 0) [] w ⟨none,0,rfl,by simp,fun h=>absurd rfl h⟩).mono ?_
 rintro e w2 ⟨rfl,hb2⟩
 have hf:fdy [] = -1:=rfl
 rw [hf]
 have HB:=hide hb2
 clear hb2
 go_wp2_with fail
 go_ret
 exact ⟨rfl,za HB⟩
theorem deleteDay_row (B:Nat) (v:Value) (l:List Od) (w:World) (hn:l.length ≤ 1000) (ho:ORow w B v l) :
  Calls Try.prog 50 #[v,.func (.func 49) #[] #[]] w fun e w'=>∃ v',e = .returned v'∧ORow w' B v' (l.filter ndy)∧w.grownBy w' v.ownBlock∧v'.oneCell' = true:=by
 rcases ho.2 with ⟨rfl,h0⟩ | ⟨g,cap,cur,rfl,_⟩
 ·obtain rfl:=List.length_eq_zero_iff.1 h0
  refine (deleteDay_nil w).mono ?_
  rintro e w2 ⟨rfl,hb2⟩
  exact ⟨_,rfl,World.ownsRow_nil _ _ _ _,zQ hb2 (Nat.le_refl _),rfl⟩
 ·refine (deleteDay_any g cap B l w hn ho).mono ?_
  rintro e w2 ⟨rfl,ho2,hg2⟩
  exact ⟨_,rfl,ho2,hg2,rfl⟩
set_option maxRecDepth 100000 in
set_option maxHeartbeats 6400000 in
theorem endDayE_any {mb B Bo:Nat} {gv:Value} {gs:List Value} {gl:List (List Ev)} {next:Int} {vq:Value} {l:List Od} {t:Tot} {vo:Value} {ts:List Ev} (w:World) (h:EnS mb B Bo w gv gs gl next vq l t vo ts) (hl:l.length ≤ 100) (hn:ts.length ≤ 100) :
  Calls Try.prog 28 #[.pointer (some ⟨mb,0,none⟩)] w fun r w'=>r = .returned (.tuple #[])∧(∃ vq' vo',EnS mb B Bo w' gv gs gl next vq' (l.filter ndy) t vo' (ts ++ [⟨8,zCm,0,0,((l.filter dyB).length:Nat),0,0⟩] ++ (l.filter dyB).map expE))∧KeptBut mb B w w':=by
 obtain ⟨i0,hi0,hz0,hz1,hz2⟩:=info_parts Try.infoOrder
 have HE:=hide h
 have hmw:=h.lt
 have hBw:B ≤ w.heap.size:=Nat.le_trans h.bo h.le
 obtain ⟨a,cap,hvq,hlen,hc⟩:=zW h.orow (by omega)
 have hcell:∀ (k:Nat) (c:Od),l[k]? = some c→∃ b off,a = some ⟨b,off,none⟩∧b < w.heap.size∧w.rangeAt b (off + k * 6) c.vs:=by
  intro k c hk
  obtain ⟨b,off,h1,h2,h3⟩:=hc (by intro h; rw [h] at hk; simp at hk)
  exact ⟨b,off,h1,h2,h3 k c hk⟩
 have HC:=hide hcell
 have z2:w.cell? ⟨mb,2,none⟩ = some (.slice a l.length cap):=by rw [← hvq]; exact h.cells 2 _ rfl
 have HVQ:=hide hvq
 clear hcell hc hlen h hvq
 go_enter Try.func28,Try.ntmps28
 refine wp_seq_k fun K hK=>?_
 have HK1:=hide hK
 clear hK
 go_wp2_with fail
 refine za HK1 _ _ ?_
 clear HK1
 refine wp_seq_k fun K hK=>?_
 have HK1:=hide hK
 clear hK
 go_wp2_with fail
 clear z2
 go_loopw [2,14] (fun gov iv wr=>∃ (k:Nat),k ≤ l.length∧iv = .int .i64 k∧Hid (ORow wr w.heap.size gov ((l.take k).filter dyB)∧Below w.heap.size w wr)) (fun _ iv _=>l.length - (intOf iv).toNat)
 case atStart=>exact ⟨0,Nat.zero_le _,rfl,⟨World.ownsRow_nil _ _ _ _,Below.refl _ _⟩⟩
 case round =>
  obtain ⟨k,hk,rfl,hin⟩:=hrel
  by_cases hlt:k < l.length
  ·obtain ⟨c,hkc⟩:∃ c,l[k]? = some c:=⟨_,List.getElem?_eq_getElem hlt⟩
   obtain ⟨b,off,rfl,hb,hcl⟩:=za HC k c hkc
   obtain ⟨g0,g1,g2,g3,g4,g5⟩:=zA (zb hcl (za hin).2 hb)
   have hlt':(k:Int) < l.length:=by omega
   have HKC:=hide hkc
   have hszr:=(za hin).2.size
   have HBX:Hid (Below wr.heap.size wr (wr.alloc (Obj.cells #[.int .i64 c.id,.int .i64 c.side,.int .i64 c.ticks,.int .i64 c.left,.int .i64 c.life,.string c.tag] 36))):=(Below.refl _ _).alloc (Nat.le_refl _) _
   have HBR:Hid (World.rangeAt (wr.alloc (Obj.cells #[.int .i64 c.id,.int .i64 c.side,.int .i64 c.ticks,.int .i64 c.left,.int .i64 c.life,.string c.tag] 36)) wr.heap.size 0 c.vs):=zd wr c.vs _
   have hsx:wr.heap.size < (wr.alloc (Obj.cells #[.int .i64 c.id,.int .i64 c.side,.int .i64 c.ticks,.int .i64 c.left,.int .i64 c.life,.string c.tag] 36)).heap.size:=by rw [zc]; omega
   have hc0:World.cell? (wr.alloc (Obj.cells #[.int .i64 c.id,.int .i64 c.side,.int .i64 c.ticks,.int .i64 c.left,.int .i64 c.life,.string c.tag] 36)) ⟨wr.heap.size,0,none⟩ = some (.int .i64 c.id):=za HBR 0 _ rfl
   clear hkc hcl hb hc0
   go_wp2_with fail
   generalize (wr.alloc (Obj.cells #[.int .i64 c.id,.int .i64 c.side,.int .i64 c.ticks,.int .i64 c.left,.int .i64 c.life,.string c.tag] 36)) = Y at HBX HBR hsx ⊢
   refine (zbE c Y).mono ?_
   rintro e w3 ⟨rfl,hb3⟩
   have HB3:=hide ((za HBX).trans (hb3.mono (za HBX).size))
   have hbr:=zb (za HBR) hb3 hsx
   have hs3:wr.heap.size < w3.heap.size:=Nat.lt_of_lt_of_le hsx hb3.size
   clear hb3 g0 g1 g2 g3 g4 g5
   have HO3:=hide (zJ (za hin).1 (za HB3))
   have HW3:=hide ((za hin).2.trans ((za HB3).mono hszr))
   by_cases hd:c.life = 1
   ·have hbd:(c.life == 1) = true:=by simpa using hd
    have HN:=hide (take_dy (za HKC) hd)
    have hlg:((l.take k).filter dyB).length ≤ 100:=Nat.le_trans (List.length_filter_le _ _) (Nat.le_trans (List.length_take_le _ _) (by omega))
    have x0:w3.cell? ⟨wr.heap.size,0,none⟩ = some (.int .i64 c.id):=hbr 0 _ rfl
    have x1:w3.cell? ⟨wr.heap.size,1,none⟩ = some (.int .i64 c.side):=hbr 1 _ rfl
    have x2:w3.cell? ⟨wr.heap.size,2,none⟩ = some (.int .i64 c.ticks):=hbr 2 _ rfl
    have x3:w3.cell? ⟨wr.heap.size,3,none⟩ = some (.int .i64 c.left):=hbr 3 _ rfl
    have x4:w3.cell? ⟨wr.heap.size,4,none⟩ = some (.int .i64 c.life):=hbr 4 _ rfl
    have x5:w3.cell? ⟨wr.heap.size,5,none⟩ = some (.string c.tag):=hbr 5 _ rfl
    have HO4:=hide ((za HO3).alloc (Obj.cells #[.int .i64 c.id,.int .i64 c.side,.int .i64 c.ticks,.int .i64 c.left,.int .i64 c.life,.string c.tag] 36))
    have HW4:=hide ((za HW3).alloc (za HW3).size (Obj.cells #[.int .i64 c.id,.int .i64 c.side,.int .i64 c.ticks,.int .i64 c.left,.int .i64 c.life,.string c.tag] 36))
    generalize hgl:(l.take k).filter dyB = going at HO3 HO4 HN hlg
    clear hd hbr hgl hin
    go_wp2_with (at_builtin; go_must (refine wpList_append_own _ rfl _ _ 23 rfl w.heap.size 36 i0 _ 6 56 Try.underlying23 hi0 hz0 hz1 hz2 rfl (by decide) u2 going.length (going.flatMap Od.vs) rfl (za HO4) ⟨w3.heap.size,0,none⟩ 1 1 c.vs rfl rfl (cellsQ w3 c.vs 36) (one_od c) (by unfold maxLen; omega) (by omega) (za HW4).size ?_); intro v5 w5 hown5 hg5 _; have HO5:=hide hown5; have HG5:=hide hg5; clear hown5 hg5)
    have HN5:Hid (ORow w5 w.heap.size v5 ((l.take (k + 1)).filter dyB)∧Below w.heap.size w w5):=by
     refine ⟨?_,(za HW4).grown (za HG5) (za HW4).size (fun q hq=>((za HO4).lt q hq).1)⟩
     rw [za HN]
     show w5.ownsRow _ _ _ _ (going ++ [c]).length _
     rw [List.length_append,List.flatMap_append]
     simpa using za HO5
    clear HO5 HG5
    go_wp2_with fail
    go_roundw
    case rel=>exact ⟨k + 1,by omega,by go_num,za HN5⟩
    case measure=>simp [intOf]; omega
   ·have hbd:(c.life == 1) = false:=by rw [beq_eq_false_iff_ne]; exact hd
    have HN5:Hid (ORow w3 w.heap.size u2 ((l.take (k + 1)).filter dyB)∧Below w.heap.size w w3):=by
     rw [take_no (za HKC) hd]
     exact ⟨za HO3,za HW3⟩
    clear hd hbr
    go_wp2_with fail
    go_roundw
    case rel=>exact ⟨k + 1,by omega,by go_num,za HN5⟩
    case measure=>simp [intOf]; omega
  ·obtain rfl:k = l.length:=by omega
   rw [List.take_of_length_le (Nat.le_refl _)] at hin
   have hlt':¬ (l.length:Int) < l.length:=by omega
   have hlg:(l.filter dyB).length ≤ 100:=Nat.le_trans (List.length_filter_le _ _) hl
   have HIN:=hide (za hin)
   generalize hgo:l.filter dyB = going at HIN hlg
   have HGO:=hide hgo
   obtain ⟨ag,cg,hu2,hu3,hu4⟩:=zW (za HIN).1 (by omega)
   have HE0:=hide (zB (za HE) (za HIN).2)
   subst hu2
   have HK0:Hid (KeptBut mb B w wr):=zo (za HIN).2 hBw
   clear hin hgo hu3 hu4
   go_wp2_with fail
   refine za HK1 _ _ ?_
   clear HK1
   refine wp_seq_k fun K hK=>?_
   have HK1:=hide hK
   clear hK
   go_wp2_with fail
   refine (zal ⟨8,zCm,0,0,(going.length:Nat),0,0⟩ wr (za HE0) (by omega)).mono ?_
   rintro e w5 ⟨rfl,⟨vo5,hE5⟩,hk5,ht5⟩
   have HST:Hid (ORow w5 w.heap.size (.slice ag going.length cg) going∧(∃ vo',EnS mb B Bo w5 gv gs gl next vq l t vo' (ts ++ [⟨8,zCm,0,0,(going.length:Nat),0,0⟩] ++ (going.take 0).map expE))∧KeptBut mb B w w5):=⟨zT (za HIN).1 ht5 (zh (za HIN).1 (za HE0).box (by decide)) (zC (za HIN).1 (za HE0).erow (by decide)),⟨vo5,by simpa using hE5⟩,ze (za HK0) hk5⟩
   clear hE5 hk5 ht5 HIN HE0 HK0
   go_wp2_with fail
   refine za HK1 _ _ ?_
   clear HK1
   refine wp_seq_k fun K hK=>?_
   have HK1:=hide hK
   clear hK
   go_wp2_with fail
   go_loopw [32] (fun iv wr2=>∃ (k:Nat),k ≤ going.length∧iv = .int .i64 k∧Hid (ORow wr2 w.heap.size (.slice ag going.length cg) going∧(∃ vo',EnS mb B Bo wr2 gv gs gl next vq l t vo' (ts ++ [⟨8,zCm,0,0,(going.length:Nat),0,0⟩] ++ (going.take k).map expE))∧KeptBut mb B w wr2)) (fun iv _=>going.length - (intOf iv).toNat)
   case atStart=>exact ⟨0,Nat.zero_le _,rfl,za HST⟩
   case round =>
    obtain ⟨k,hk2,rfl,hin2⟩:=hrel
    obtain ⟨hor,⟨vo6,hE6⟩,hk6⟩:=za hin2
    by_cases hlt2:k < going.length
    ·obtain ⟨o,hko⟩:∃ o,going[k]? = some o:=⟨_,List.getElem?_eq_getElem hlt2⟩
     obtain ⟨a',c',e1,_,hcl⟩:=zW hor (by omega)
     obtain ⟨b,off,e2,hb,hcl⟩:=hcl (by rintro rfl; simp at hko)
     simp only [Value.slice.injEq] at e1
     obtain ⟨e1,-,-⟩:=e1
     rw [e2] at e1
     subst e1
     obtain ⟨g0,g1,g2,g3,g4,g5⟩:=zA (hcl k o hko)
     have hlt2':(k:Int) < going.length:=by omega
     have hk0:(0:Int) ≤ k:=by omega
     have hbY:Below wr.heap.size wr (wr.alloc (Obj.cells #[.int .i64 o.id,.int .i64 o.side,.int .i64 o.ticks,.int .i64 o.left,.int .i64 o.life,.string o.tag] 36)):=(Below.refl _ _).alloc (Nat.le_refl _) _
     have HEY:=hide (zB hE6 hbY)
     have HOY:=hide (zJ hor hbY)
     have HKY:=hide (ze hk6 (zo hbY (by have:=hE6.bo; have:=hE6.le; omega)))
     have HNX:=hide (ev_more going ts (going.length:Nat) hko)
     have HLN:Hid ((ts ++ [(⟨8,zCm,0,0,(going.length:Nat),0,0⟩:Ev)] ++ (going.take k).map expE).length ≤ 1000):=by
      show _ ≤ _
      simp [List.length_take]; omega
     clear hor hE6 hk6 hcl hbY hko e2 hb
     go_wp2_with fail
     generalize (wr.alloc (Obj.cells #[.int .i64 o.id,.int .i64 o.side,.int .i64 o.ticks,.int .i64 o.left,.int .i64 o.life,.string o.tag] 36)) = Y at HEY HOY HKY ⊢
     refine (zal (expE o) Y (za HEY) (za HLN)).mono ?_
     rintro e w6 ⟨rfl,⟨vo7,hE7⟩,hk7,ht7⟩
     have HN:Hid (ORow w6 w.heap.size (.slice (some ⟨b,off,none⟩) going.length cg) going∧(∃ vo',EnS mb B Bo w6 gv gs gl next vq l t vo' (ts ++ [⟨8,zCm,0,0,(going.length:Nat),0,0⟩] ++ (going.take (k + 1)).map expE))∧KeptBut mb B w w6):=⟨zT (za HOY) ht7 (zh (za HOY) (za HEY).box (by decide)) (zC (za HOY) (za HEY).erow (by decide)),⟨vo7,by rw [za HNX]; exact hE7⟩,ze (za HKY) hk7⟩
     clear hE7 hk7 ht7
     go_wp2_with fail
     go_roundw
     case rel=>exact ⟨k + 1,by omega,by go_num,za HN⟩
     case measure=>simp [intOf]; omega
    ·obtain rfl:k = going.length:=by omega
     rw [List.take_of_length_le (Nat.le_refl _)] at hE6
     have hlt2':¬ (going.length:Int) < going.length:=by omega
     have HE6:=hide hE6
     have HK6:=hide hk6
     clear hor hE6 hk6
     go_wp2_with fail
     refine za HK1 _ _ ?_
     clear HK1
     have z2:wr.cell? ⟨mb,2,none⟩ = some vq:=(za HE6).cells 2 _ rfl
     go_wp2_with fail
     refine (deleteDay_row B vq l wr (by omega) (za HE6).orow).mono ?_
     rintro e w7 ⟨vq',rfl,ho7,hg7,-⟩
     have hnq:some mb ≠ vq.ownBlock:=zh (za HE6).orow (za HE6).box (by decide)
     have y2:w7.cell? ⟨mb,2,none⟩ = some vq:=hg7.cell z2 hnq
     have f2:w7.frozen? ⟨mb,2,none⟩ = false:=(World.frozen?_of_block (a:=⟨mb,2,none⟩) (hg7.block mb (za HE6).lt hnq)).trans (by have:=((za HE6).there 2 (by omega)).2; rwa [Nat.zero_add] at this)
     obtain ⟨aq,cq,hq1,-,-⟩:=zW ho7 (Nat.le_trans (List.length_filter_le _ _) (by omega))
     subst hq1
     have hbx7:∃ cur,w7.heap[mb]? = some (.cells cur 49 (0,0)):=by obtain ⟨cur,hc⟩:=(za HE6).box; exact ⟨cur,(hg7.block mb (za HE6).lt hnq).trans hc⟩
     have ht8:TookAt mb 1 vq.ownBlock wr (w7.setCell ⟨mb,2,none⟩ (.slice aq (l.filter ndy).length cq)):=zaa (zN hg7 (za HE6).lt hnq) (zbh (o:=1) _ _)
     have HE8:=hide (ens_took (za HE6) (World.cell?_setCell_same _ _ _ y2) (zl ho7 (zh ho7 hbx7 (by decide)) 2 _) ht8)
     have HK8:=hide (ze (za HK6) (zat ht8 (Nat.le_trans (za HE6).bo (za HE6).le) (fun g' hg'=>((za HE6).orow.lt g' hg').1)))
     clear ho7 hg7 ht8 hbx7 z2
     go_wp2_with fail
     go_end0
     rw [za HGO]
     exact ⟨rfl,⟨_,vo6,za HE8⟩,za HK8⟩
end Go.Proofs.Ytaoaomipplmjcaa
