/-
  The model's small functions over a book: who is better, the front, how many levels: proved by walking them. (what walks the functions of the model or of the laws)
-/
import Derived.Test.YtopjoogdpjaocaaGreatTj31
set_option linter.unusedVariables false
set_option maxHeartbeats 6400000
set_option maxRecDepth 100000
namespace Go.Proofs.YtopjoogdpjaocaaGreat
open Go.RowKit
theorem l03Better_any (o c:Od) (w:World) :
  Calls Tryz.prog 102 #[.agg #[.int .i64 o.id,.int .i64 o.side,.int .i64 o.ticks,.int .i64 o.left,.int .i64 o.life,.string o.tag],.agg #[.int .i64 c.id,.int .i64 c.side,.int .i64 c.ticks,.int .i64 c.left,.int .i64 c.life,.string c.tag]] w fun e w'=>e = .returned (.bool (ahdB o c))∧w.grownBy w' none:=by
 by_cases h:o.ticks = c.ticks
 ·have h':(o.ticks == c.ticks) = true:=by simpa using h
  have HA:Hid (ahdB o c = decide (o.id < c.id)):=if_pos h
  go_enter Tryz.func102,Tryz.ntmps102
  go_wp2_with fail
  go_ret
  exact ⟨zy (za HA).symm,(World.grownBy_alloc _ _ _).trans (World.grownBy_alloc _ _ _)⟩
 ·have HA:Hid (ahdB o c = (decide (c.ticks < o.ticks) == decide (o.side = 1))):=if_neg h
  go_enter Tryz.func102,Tryz.ntmps102
  go_wp2_with fail
  go_ret
  exact ⟨zy (by rw [za HA]; rfl),(World.grownBy_alloc _ _ _).trans (World.grownBy_alloc _ _ _)⟩
set_option maxRecDepth 100000 in
set_option maxHeartbeats 800000 in
theorem l03Front_any (v:Value) (l:List Od) (sd:Int) (w:World) (hr:RdR Od.vs 6 w v l) (hri:zbc l) (hn:l.length ≤ 1000) :
  Calls Tryz.prog 83 #[v,.int .i64 sd] w fun e w'=>∃ k:Int,e = .returned (.int .i64 k)∧FrPre l sd l.length k∧w.grownBy w' none:=by
 obtain ⟨a,cap,rfl,hlen,hc⟩:=hr
 have hcell:∀ (k:Nat) (c:Od),l[k]? = some c→∃ b off,a = some ⟨b,off,none⟩∧b < w.heap.size∧w.rangeAt b (off + k * 6) c.vs:=by
  intro k c hk
  obtain ⟨b,off,h1,h2,h3⟩:=hc (by intro h; rw [h] at hk; simp at hk)
  exact ⟨b,off,h1,h2,h3 k c hk⟩
 have HC:=hide hcell
 have HRI:=hide hri
 clear hcell hc hri
 go_enter Tryz.func83,Tryz.ntmps83
 go_wp2_with fail
 go_loopw [5,6] (fun bv iv wr=>∃ (k:Nat) (best:Int),bv = .int .i64 best∧k ≤ l.length∧iv = .int .i64 k∧Hid (FrPre l sd k best)∧w.grownBy wr none) (fun _ iv _=>l.length - (intOf iv).toNat)
 case atStart=>exact ⟨0,-1,rfl,Nat.zero_le _,rfl,.inl ⟨rfl,fun j o hj=>by omega⟩,World.grownBy.refl _ _⟩
 case round =>
  obtain ⟨k,best,rfl,hk,rfl,hfr,hg⟩:=hrel
  have HG:=hide hg
  clear hg
  by_cases hlt:k < l.length
  ·obtain ⟨c,hkc⟩:∃ c,l[k]? = some c:=⟨_,List.getElem?_eq_getElem hlt⟩
   obtain ⟨b,off,rfl,hb,hcl⟩:=za HC k c hkc
   have HKC:=hide hkc
   obtain ⟨g0,g1,g2,g3,g4,g5⟩:=zD (zu hcl (za HG) hb (by simp))
   have hlt':(k:Int) < l.length:=by omega
   have HCL:=hide hcl
   have HHB:=hide hb
   clear hkc hcl
   by_cases hs:c.side = sd
   ·subst hs
    rcases za hfr with ⟨rfl,hno⟩ | ⟨i,o,rfl,hi,hio,hso,hah⟩
    ·have HN:=hide (frPre_first (za hfr) (za HKC) rfl)
     clear hno
     go_wp2_with fail
     go_quiet (fail)
     go_wp2_with fail
     go_roundw
     case rel=>exact ⟨k + 1,k,rfl,by omega,by go_num,za HN,zaW (za HG) rfl rfl rfl rfl⟩
     case measure=>simp [intOf]; omega
    ·obtain ⟨b',off',hbe,hb',hcl'⟩:=za HC i o hio
     simp only [Option.some.injEq,Addr.mk.injEq,and_true] at hbe
     obtain ⟨rfl,rfl⟩:=hbe
     obtain ⟨e0,e1,e2,e3,e4,e5⟩:=zD (zu hcl' (za HG) hb (by simp))
     have hlti:(i:Int) < l.length:=by have:=(List.getElem?_eq_some_iff.1 hio).1; omega
     have hi0:¬ ((i:Int) < 0):=by omega
     have hi0':decide ((i:Int) < 0) = false:=by simp
     have HCEL:Hid (∀ w',wr.grownBy w' none→w'.rangeAt b (off + k * 6) c.vs∧w'.rangeAt b (off + i * 6) o.vs):=fun w' h'=>⟨zu (zu (za HCL) (za HG) hb (by simp)) h' (Nat.lt_of_lt_of_le hb (za HG).size) (by simp),zu (zu hcl' (za HG) hb (by simp)) h' (Nat.lt_of_lt_of_le hb (za HG).size) (by simp)⟩
     have HHI:Hid (l[i]? = some o):=hio
     clear hah hio hcl' hso
     go_wp2_with fail
     refine zat (W:=wr) (by kernel_rfl) (by kernel_rfl) (World.grownBy.refl _ _) ?_
     iterate 19 (
      refine zah (v:=?_) ?_ ?_ ?_
      rotate_left
      ·rfl
      ·intro w' hw'
       obtain ⟨c0,c1,c2,c3,c4,c5⟩:=zD (za HCEL w' hw').1
       obtain ⟨d0,d1,d2,d3,d4,d5⟩:=zD (za HCEL w' hw').2
       go_simp
       try rfl
      intro K hK
      go_simp
      refine hK _ ?_
      clear hK K)
     refine zah (v:=.bool (ahdB c o)) ?_ ?_ ?_
     ·rfl
     ·intro w' hw'
      go_simp
      refine (l03Better_any c o _).mono ?_
      rintro e w3 ⟨rfl,hg3⟩
      exact ⟨rfl,hw'.trans hg3⟩
     intro K hK
     go_simp
     refine hK _ ?_
     clear hK K
     iterate 2 (
      refine zah (v:=?_) ?_ ?_ ?_
      rotate_left
      ·rfl
      ·intro w' hw'
       go_simp
       try rfl
      intro K hK
      go_simp
      refine hK _ ?_
      clear hK K)
     refine wpQuiet_nil ?_
     intro w2 hg2
     have HG2:=hide ((za HG).trans hg2)
     clear hg2 g0 g1 g2 g3 g4 g5 e0 e1 e2 e3 e4 e5
     cases hah:ahdB c o
     ·have HN:=hide (frPre_worse (za HRI) (za hfr) (za HHI) (za HKC) rfl hah)
      go_wp2_with fail
      go_roundw
      case rel=>exact ⟨k + 1,i,rfl,by omega,by go_num,za HN,za HG2⟩
      case measure=>simp [intOf]; omega
     ·have HN:=hide (frPre_better (za HRI) (za hfr) (za HHI) (za HKC) rfl hah)
      go_wp2_with fail
      go_roundw
      case rel=>exact ⟨k + 1,k,rfl,by omega,by go_num,za HN,za HG2⟩
      case measure=>simp [intOf]; omega
   ·have HN:=hide (frPre_skip (za hfr) (za HKC) hs)
    have hs':(c.side == sd) = false:=by simpa using hs
    go_wp2_with fail
    go_quiet (fail)
    go_wp2_with fail
    go_roundw
    case rel=>exact ⟨k + 1,best,rfl,by omega,by go_num,za HN,zaW (za HG) rfl rfl rfl rfl⟩
    case measure=>simp [intOf]; omega
  ·go_wp2_with fail
   go_ret
   have h:=za hfr
   rw [show k = l.length by omega] at h
   exact ⟨_,rfl,h,za HG⟩
set_option maxRecDepth 100000 in
set_option maxHeartbeats 1600000 in
theorem l03Levels_any (v:Value) (l:List Od) (w:World) (hr:RdR Od.vs 6 w v l) (hn:l.length ≤ 1000) :
  Calls Tryz.prog 82 #[v] w fun e w'=>e = .returned (.int .i64 (nlev l:Nat))∧w.grownBy w' none:=by
 obtain ⟨a,cap,rfl,hlen,hc⟩:=hr
 have hcell:∀ (k:Nat) (c:Od),l[k]? = some c→∃ b off,a = some ⟨b,off,none⟩∧b < w.heap.size∧w.rangeAt b (off + k * 6) c.vs:=by
  intro k c hk
  obtain ⟨b,off,h1,h2,h3⟩:=hc (by intro h; rw [h] at hk; simp at hk)
  exact ⟨b,off,h1,h2,h3 k c hk⟩
 have HC:=hide hcell
 clear hcell hc
 go_enter Tryz.func82,Tryz.ntmps82
 go_wp2_with fail
 go_loopw [3,4] (fun nv iv wr=>∃ (i n:Nat),nv = .int .i64 n∧i ≤ l.length∧iv = .int .i64 i∧Hid (n = nlev (l.take i))∧n ≤ i∧w.grownBy wr none) (fun _ iv _=>l.length - (intOf iv).toNat)
 case atStart=>exact ⟨0,0,rfl,Nat.zero_le _,rfl,by simp [Hid,nlev,nlevR],Nat.le_refl _,World.grownBy.refl _ _⟩
 case round =>
  obtain ⟨i,n,rfl,hi,rfl,hnl,hni,hg⟩:=hrel
  have HG:=hide hg
  clear hg
  by_cases hlt:i < l.length
  ·obtain ⟨c,hkc⟩:∃ c,l[i]? = some c:=⟨_,List.getElem?_eq_getElem hlt⟩
   obtain ⟨b,off,rfl,hb,hcl⟩:=za HC i c hkc
   have HKC:=hide hkc
   have HCL:=hide hcl
   have hlt':(i:Int) < l.length:=by omega
   have HNN:Hid (nlev (l.take (i + 1)) = n + (zbT c (l.take i)).toNat):=by
    show _ = _
    rw [takeR l i c hkc,nlev_fresh,← za hnl]
   clear hkc hcl hnl
   go_wp2_with fail
   go_loopw [5,6] (fun fv kv wq=>∃ (k:Nat) (fb:Bool),fv = .bool fb∧k ≤ i∧kv = .int .i64 k∧Hid (fb = zbT c (l.take k))∧w.grownBy wq none) (fun _ kv _=>i - (intOf kv).toNat)
   case atStart=>exact ⟨0,true,rfl,Nat.zero_le _,rfl,rfl,za HG⟩
   case round =>
    obtain ⟨k,fb,rfl,hk,rfl,hfb,hg⟩:=hrel
    have HGQ:=hide hg
    clear hg
    by_cases hki:k < i
    ·obtain ⟨y,hky⟩:∃ y,l[k]? = some y:=⟨_,List.getElem?_eq_getElem (by omega)⟩
     obtain ⟨b',off',hbe,hb',hcl'⟩:=za HC k y hky
     simp only [Option.some.injEq,Addr.mk.injEq,and_true] at hbe
     obtain ⟨rfl,rfl⟩:=hbe
     have HFN:Hid (zbT c (l.take (k + 1)) = (fb && difB c y)):=by
      show _ = _
      rw [takeR l k y hky,za hfb,zbT,List.all_append]; simp [zbT]
     obtain ⟨-,e1,e2,-⟩:=zD (zu (za HCL) (za HGQ) hb (by simp))
     obtain ⟨-,d1,d2,-⟩:=zD (zu hcl' (za HGQ) hb (by simp))
     have hki':(k:Int) < i:=by omega
     have hkl':(k:Int) < l.length:=by omega
     have hfin:∀ (fb':Bool),fb' = (fb && difB c y)→Hid (fb' = zbT c (l.take (k + 1))):=fun fb' h=>by show _ = _; rw [h,za HFN]
     have HFIN:=hide hfin
     clear hky hcl' hfin
     cases fb
     ·go_wp2_with fail
      go_quiet (fail)
      go_wp2_with fail
      go_roundw
      case rel=>exact ⟨k + 1,false,rfl,by omega,by go_num,za HFIN _ rfl,zaW (za HGQ) rfl rfl rfl rfl⟩
      case measure=>simp [intOf]; omega
     ·by_cases h1:y.side = c.side
      ·have h1':(y.side != c.side) = false:=by simpa using h1
       by_cases h2:y.ticks = c.ticks
       ·have hd:(true && difB c y) = false:=by simp [difB,h1,h2]
        go_wp2_with fail
        go_quiet (fail)
        go_wp2_with fail
        go_roundw
        case rel=>exact ⟨k + 1,false,by first | rfl | simp [h2],by omega,by go_num,za HFIN _ hd.symm,zaW (za HGQ) rfl rfl rfl rfl⟩
        case measure=>simp [intOf]; omega
       ·have hd:(true && difB c y) = true:=by simp [difB,h2]
        go_wp2_with fail
        go_quiet (fail)
        go_wp2_with fail
        go_roundw
        case rel=>exact ⟨k + 1,true,by first | rfl | simp [h2],by omega,by go_num,za HFIN _ hd.symm,zaW (za HGQ) rfl rfl rfl rfl⟩
        case measure=>simp [intOf]; omega
      ·have h1':(y.side != c.side) = true:=by simpa using h1
       have hd:(true && difB c y) = true:=by simp [difB,h1]
       go_wp2_with fail
       go_quiet (fail)
       go_wp2_with fail
       go_roundw
       case rel=>exact ⟨k + 1,true,by first | rfl | simp,by omega,by go_num,za HFIN _ hd.symm,zaW (za HGQ) rfl rfl rfl rfl⟩
       case measure=>simp [intOf]; omega
    ·obtain rfl:k = i:=by omega
     have HF:=hfb
     cases fb
     ·have HE:Hid (nlev (l.take (k + 1)) = n):=by show _ = _; rw [za HNN,← za HF]; rfl
      clear hfb
      go_wp2_with fail
      exact ⟨⟨k + 1,n,rfl,by omega,by go_num,(za HE).symm,by omega,za HGQ⟩,by simp [intOf]; omega⟩
     ·have HE:Hid (nlev (l.take (k + 1)) = n + 1):=by show _ = _; rw [za HNN,← za HF]; rfl
      clear hfb
      go_wp2_with fail
      exact ⟨⟨k + 1,n + 1,by go_num,by omega,by go_num,(za HE).symm,by omega,za HGQ⟩,by simp [intOf]; omega⟩
  ·go_wp2_with fail
   go_ret
   have h:=za hnl
   rw [List.take_of_length_le (by omega)] at h
   subst h
   exact ⟨rfl,za HG⟩

theorem nex_stop {l:List Od} {t:Od} (h:t.left = 0):NexS l t (-1):=.inl ⟨rfl,.inl h⟩
theorem nex_none {l:List Od} {t:Od} (h:zaA l (othS t.side) = none):NexS l t (-1):=.inl ⟨rfl,.inr (.inl h)⟩
theorem nex_no {l:List Od} {t o:Od} (h:zaA l (othS t.side) = some o) (hc:zbt t.side t.ticks o = false):NexS l t (-1):=.inl ⟨rfl,.inr (.inr ⟨o,h,hc⟩)⟩
set_option maxRecDepth 100000 in
set_option maxHeartbeats 1600000 in
theorem l04Next_any (v:Value) (l:List Od) (t:Od) (w:World) (hr:RdR Od.vs 6 w v l) (hri:zbc l) (hn:l.length ≤ 1000) (hsd:t.side = 1 ∨ t.side = 2) :
  Calls Tryz.prog 60 #[v,.agg #[.int .i64 t.id,.int .i64 t.side,.int .i64 t.ticks,.int .i64 t.left,.int .i64 t.life,.string t.tag]] w fun e w'=>∃ k:Int,e = .returned (.int .i64 k)∧NexS l t k∧Below w.heap.size w w':=by
 have HR:=hide hr
 obtain ⟨a,cap,rfl,hlen,hc⟩:=hr
 have hcell:∀ (k:Nat) (c:Od),l[k]? = some c→∃ b off,a = some ⟨b,off,none⟩∧b < w.heap.size∧w.rangeAt b (off + k * 6) c.vs:=by
  intro k c hk
  obtain ⟨b,off,h1,h2,h3⟩:=hc (by intro h; rw [h] at hk; simp at hk)
  exact ⟨b,off,h1,h2,h3 k c hk⟩
 have HC:=hide hcell
 have HRI:=hide hri
 have HOT:=hide (oth_of hsd)
 have hs1:1 ≤ t.side:=by omega
 have hs2:t.side ≤ 2:=by omega
 have HB1:Hid (Below w.heap.size w (w.alloc (Obj.cells #[.int .i64 t.id,.int .i64 t.side,.int .i64 t.ticks,.int .i64 t.left,.int .i64 t.life,.string t.tag] 78))):=(Below.refl _ _).alloc (Nat.le_refl _) _
 have HX:Hid (World.rangeAt (w.alloc (Obj.cells #[.int .i64 t.id,.int .i64 t.side,.int .i64 t.ticks,.int .i64 t.left,.int .i64 t.life,.string t.tag] 78)) w.heap.size 0 t.vs∧w.heap.size < (w.alloc (Obj.cells #[.int .i64 t.id,.int .i64 t.side,.int .i64 t.ticks,.int .i64 t.left,.int .i64 t.life,.string t.tag] 78)).heap.size):=⟨zh w t.vs _,by rw [ze]; omega⟩
 clear hcell hc hri hsd
 go_enter Tryz.func60,Tryz.ntmps60
 go_wp2_with fail
 generalize (w.alloc (Obj.cells #[.int .i64 t.id,.int .i64 t.side,.int .i64 t.ticks,.int .i64 t.left,.int .i64 t.life,.string t.tag] 78)) = W1 at HB1 HX ⊢
 refine (l03Front_any _ l _ W1 (zl (za HR) (za HB1) (Nat.le_refl _)) (za HRI) hn).mono ?_
 rintro e w2 ⟨k,rfl,hf,hg2⟩
 have HF:=hide (front_pre (za HRI) hf)
 have HB2:=hide ((za HB1).trans ((gr_below' hg2 (fun g hg=>by cases hg) (Nat.le_refl _)).mono (za HB1).size))
 have HX2:=hide (zu (za HX).1 hg2 (za HX).2 (by simp))
 have hlt2:w.heap.size < w2.heap.size:=Nat.lt_of_lt_of_le (za HX).2 hg2.size
 have HC2:Hid (∀ (k:Nat) (c:Od),l[k]? = some c→∃ b off,a = some ⟨b,off,none⟩∧b < w2.heap.size∧w2.rangeAt b (off + k * 6) c.vs):=fun k c hk=>by
  obtain ⟨b,off,h1,h2,h3⟩:=za HC k c hk
  exact ⟨b,off,h1,by omega,zb h3 (za HB2) h2⟩
 obtain ⟨t0,t1,t2,t3,t4,t5⟩:=zD (za HX2)
 clear hf hg2 hs1 hs2
 by_cases h0:t.left = 0
 ·have HN:=hide (nex_stop (l:=l) h0)
  have b0:(t.left == 0) = true:=by simpa using h0
  clear h0
  go_wp2_with fail
  go_quiet (fail)
  go_wp2_with fail
  go_ret
  exact ⟨_,rfl,za HN,zai (za HB2) _⟩
 have b0:(t.left == 0) = false:=by simpa using h0
 rcases za HF with ⟨rfl,hno⟩ | ⟨i,o,rfl,hi,hio,hfo⟩
 ·have HN:=hide (nex_none (l:=l) (t:=t) (by rw [← za HOT]; exact hno))
  clear hno h0
  go_wp2_with fail
  go_quiet (fail)
  go_wp2_with fail
  go_ret
  exact ⟨_,rfl,za HN,zai (za HB2) _⟩
 have HFO:Hid (zaA l (othS t.side) = some o):=by rw [← za HOT]; exact hfo
 have HIO:=hide hio
 obtain ⟨b,off,rfl,hb,hcl⟩:=za HC2 i o hio
 have HL0:=hide h0
 have HCEL:Hid (∀ w',w2.grownBy w' none→w'.rangeAt w.heap.size 0 t.vs∧w'.rangeAt b (off + i * 6) o.vs):=fun w' h'=>⟨zu (za HX2) h' hlt2 (by simp),zu hcl h' hb (by simp)⟩
 have hlti:(i:Int) < l.length:=by omega
 have hi0:¬ ((i:Int) < 0):=by omega
 have hi0':decide ((i:Int) < 0) = false:=by simp
 clear hfo hio hcl h0 HF HOT
 go_wp2_with fail
 refine zat (W:=w2) (by kernel_rfl) (by kernel_rfl) (World.grownBy.refl _ _) ?_
 iterate 16 (
  refine zah (v:=?_) ?_ ?_ ?_
  rotate_left
  ·rfl
  ·intro w' hw'
   obtain ⟨c0,c1,c2,c3,c4,c5⟩:=zD (za HCEL w' hw').1
   obtain ⟨d0,d1,d2,d3,d4,d5⟩:=zD (za HCEL w' hw').2
   go_simp
   try rfl
  intro K hK
  go_simp
  refine hK _ ?_
  clear hK K)
 refine zah (v:=.bool (zbt t.side t.ticks o)) ?_ ?_ ?_
 ·rfl
 ·intro w' hw'
  go_simp
  refine (l04Crosses_any t.side t.ticks o _).mono ?_
  rintro e w3 ⟨rfl,hg3⟩
  exact ⟨rfl,hw'.trans (zaa hg3 (Nat.le_refl _))⟩
 intro K hK
 go_simp
 refine hK _ ?_
 clear hK K
 cases hcr:zbt t.side t.ticks o
 ·have HN:=hide (nex_no (za HFO) hcr)
  iterate 2 (
   refine zah (v:=?_) ?_ ?_ ?_
   rotate_left
   ·rfl
   ·intro w' hw'
    go_simp
    try rfl
   intro K hK
   go_simp
   refine hK _ ?_
   clear hK K)
  refine wpQuiet_nil ?_
  intro w3 hg3
  have HB3:=hide ((za HB2).grown hg3 (za HB2).size (fun g hg=>by cases hg))
  clear hg3
  go_wp2_with fail
  go_ret
  exact ⟨_,rfl,za HN,za HB3⟩
 ·have HN:Hid (NexS l t i):=.inr ⟨i,o,rfl,hi,za HIO,za HFO,hcr,za HL0⟩
  iterate 2 (
   refine zah (v:=?_) ?_ ?_ ?_
   rotate_left
   ·rfl
   ·intro w' hw'
    go_simp
    try rfl
   intro K hK
   go_simp
   refine hK _ ?_
   clear hK K)
  refine wpQuiet_nil ?_
  intro w3 hg3
  have HB3:=hide ((za HB2).grown hg3 (za HB2).size (fun g hg=>by cases hg))
  clear hg3
  go_wp2_with fail
  go_ret
  exact ⟨_,rfl,za HN,za HB3⟩
end Go.Proofs.YtopjoogdpjaocaaGreat
