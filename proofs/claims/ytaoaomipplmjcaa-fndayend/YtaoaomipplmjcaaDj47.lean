/-
  The source of drawn things, proved by walking its methods: each returns some number in its range, and writes its own block alone.
-/
import Derived.Test.YtaoaomipplmjcaaDj01
import Derived.Test.YtaoaomipplmjcaaDj20
import Derived.WalkLawsBesides
import Derived.Deep.RegionWith
namespace Go.Proofs.Ytaoaomipplmjcaa
open Go.RowKit
set_option linter.unusedVariables false

theorem rd_grown {w w':World} {v:Value} {l:List Int} {B:Nat} (h:Rd w v l) (hg:w.grownBy w' (some B)) (hB:l ≠ []→v.ownBlock ≠ some B):Rd w' v l:=by
  obtain ⟨a,cap,rfl,hl,hc⟩:=h
  refine ⟨a,cap,rfl,hl,fun hne=>?_⟩
  obtain ⟨b,off,rfl,hcell⟩:=hc hne
  have hb:some b ≠ some B:=fun e=>hB hne (by simpa [Value.ownBlock] using e)
  exact ⟨b,off,rfl,fun i hi=>(World.cell?_of_block (a:=⟨b,off + i,none⟩) (hg.block b (World.block_lt_of_cell? w _ (hcell i hi)) hb)).trans (hcell i hi)⟩
structure Src (B:Nat) (w:World) (v:Value) (l:List Int) (m:Int):Prop where
  rd:Rd w v l
  ne:l ≠ []→v.ownBlock ≠ some B
  bts:Bts l
  code:w.cell? ⟨B,0,none⟩ = some v
  cells:∃ at_ seed:Int,0 ≤ at_∧at_ ≤ m∧0 ≤ seed∧seed < 2147483648∧w.cell? ⟨B,1,none⟩ = some (.int .i64 at_)∧w.cell? ⟨B,2,none⟩ = some (.int .i64 seed)
  free1:w.frozen? ⟨B,1,none⟩ = false
  free2:w.frozen? ⟨B,2,none⟩ = false
def zam (B:Nat) (w:World) (v:Value) (l:List Int) (m:Int) (w':World):Prop:=Src B w' v l m∧w.grownBy w' (some B)
theorem src_refl {B:Nat} {w:World} {v:Value} {l:List Int} {m:Int} (h:Src B w v l m):zam B w v l m w:=⟨h,World.grownBy.refl _ _⟩
theorem src_more {B:Nat} {w:World} {v:Value} {l:List Int} {m n:Int} (h:Src B w v l m) (hn:m ≤ n):Src B w v l n:=by
  obtain ⟨h1,h2,h3,h4,⟨a,s,k0,k1,k2⟩,h6,h7⟩:=h
  exact ⟨h1,h2,h3,h4,⟨a,s,k0,by omega,k2⟩,h6,h7⟩
theorem zby {B:Nat} {w0 w:World} {v:Value} {l:List Int} {m:Int} (h:zam B w0 v l m w) (q:Nat):zam B w0 v l m (w.drewN q) :=
  ⟨⟨h.1.rd,h.1.ne,h.1.bts,h.1.code,h.1.cells,h.1.free1,h.1.free2⟩,zaM h.2 (gr_drewN _ q _)⟩
theorem src_at {B:Nat} {w0 w:World} {v:Value} {l:List Int} {m:Int} (h:zam B w0 v l m w) (a:Int) (h0:0 ≤ a) (ha:a ≤ m + 1):zam B w0 v l (m + 1) (w.setCell ⟨B,1,none⟩ (.int .i64 a)):=by
  obtain ⟨h,hg⟩:=h
  obtain ⟨at0,s0,_,_,k2,k3,h1,h2⟩:=h.cells
  have g:=zad w ⟨B,1,none⟩ (.int .i64 a)
  exact ⟨⟨rd_grown h.rd g h.ne,h.ne,h.bts,(World.cell?_setCell_other _ _ _ _ (zH (by omega))).trans h.code,
    ⟨a,s0,h0,ha,k2,k3,World.cell?_setCell_same _ _ _ h1,(World.cell?_setCell_other _ _ _ _ (zH (by omega))).trans h2⟩,
    (World.frozen?_setCell _ _ _ _).trans h.free1,(World.frozen?_setCell _ _ _ _).trans h.free2⟩,zaM hg g⟩
theorem src_seed {B:Nat} {w0 w:World} {v:Value} {l:List Int} {m:Int} (h:zam B w0 v l m w) (s:Int) (h0:0 ≤ s) (hs:s < 2147483648):zam B w0 v l m (w.setCell ⟨B,2,none⟩ (.int .i64 s)):=by
  obtain ⟨h,hg⟩:=h
  obtain ⟨at0,s0,k0,k1,_,_,h1,h2⟩:=h.cells
  have g:=zad w ⟨B,2,none⟩ (.int .i64 s)
  exact ⟨⟨rd_grown h.rd g h.ne,h.ne,h.bts,(World.cell?_setCell_other _ _ _ _ (zH (by omega))).trans h.code,
    ⟨at0,s,k0,k1,h0,hs,(World.cell?_setCell_other _ _ _ _ (zH (by omega))).trans h1,World.cell?_setCell_same _ _ _ h2⟩,
    (World.frozen?_setCell _ _ _ _).trans h.free1,(World.frozen?_setCell _ _ _ _).trans h.free2⟩,zaM hg g⟩
theorem src_step {B:Nat} {w w1:World} {v:Value} {l:List Int} {m at_ seed:Int} (h:Src B w v l m) (h0:0 ≤ at_) (ha:at_ ≤ m) (c1:w.cell? ⟨B,1,none⟩ = some (.int .i64 at_)) (c2:w.cell? ⟨B,2,none⟩ = some (.int .i64 seed))
    (hw:w.setCell ⟨B,1,none⟩ (.int .i64 (at_ + 1)) = w1) :
    zam B w v l (m + 1) w1∧w1.cell? ⟨B,0,none⟩ = some v∧w1.cell? ⟨B,1,none⟩ = some (.int .i64 (at_ + 1))∧w1.cell? ⟨B,2,none⟩ = some (.int .i64 seed)∧w1.frozen? ⟨B,2,none⟩ = false∧Rd w1 v l:=by
  subst hw
  have k:=src_at (src_refl h) (at_ + 1) (by omega) (by omega)
  exact ⟨k,k.1.code,World.cell?_setCell_same _ _ _ c1,(World.cell?_setCell_other _ _ _ _ (zH (by omega))).trans c2,k.1.free2,k.1.rd⟩
theorem seed_step {B:Nat} {w0 w1 w2:World} {v:Value} {l:List Int} {m at_ s:Int} (h:zam B w0 v l m w1) (d1:w1.cell? ⟨B,1,none⟩ = some (.int .i64 at_)) (h0:0 ≤ s) (hs:s < 2147483648)
    (hw:w1.setCell ⟨B,2,none⟩ (.int .i64 s) = w2) :
    zam B w0 v l m w2∧w2.cell? ⟨B,0,none⟩ = some v∧w2.cell? ⟨B,1,none⟩ = some (.int .i64 at_)∧w2.cell? ⟨B,2,none⟩ = some (.int .i64 s)∧Rd w2 v l:=by
  subst hw
  obtain ⟨_,_,_,_,_,_,_,k⟩:=h.1.cells
  have g:=src_seed h s h0 hs
  exact ⟨g,g.1.code,(World.cell?_setCell_other _ _ _ _ (zH (by omega))).trans d1,World.cell?_setCell_same _ _ _ k,g.1.rd⟩
set_option maxRecDepth 100000 in
set_option maxHeartbeats 800000 in
theorem byte_any (B:Nat) (v:Value) (l:List Int) (m:Int) (w:World) (h:Src B w v l m) (hm:m ≤ 1073741824) :
    Calls Try.prog 29 #[.pointer (some ⟨B,0,none⟩)] w fun e w'=>∃ y:Int,e = .returned (.int .i64 y)∧0 ≤ y∧y ≤ 255∧zam B w v l (m + 1) w':=by
  have HS:=hide h
  obtain ⟨hrd,hne,hbts,hcode,⟨at_,seed,ha0,ha,hs0,hs,c1,c2⟩,f1,f2⟩:=h
  have HST:=hide (fun w1 h=>src_step (w1:=w1) (za HS) ha0 ha c1 c2 h)
  obtain ⟨a,cap,rfl,hl,hc⟩:=hrd
  have HB:=hide hbts
  clear hbts hc c2 HS f2 hne
  go_enter Try.func29,Try.ntmps29
  go_wp2_with fail
  generalize hw1:w.setCell ⟨B,1,none⟩ (.int .i64 (at_ + 1)) = w1
  obtain ⟨hE,d0,d1,d2,g2,hrd1⟩:=za HST w1 hw1
  have HE:=hide hE
  obtain ⟨a',cap',e',_,hc⟩:=hrd1
  simp only [Value.slice.injEq,true_and] at e'
  obtain ⟨rfl,rfl⟩:=e'
  clear hE HST hw1 c1 f1 hcode
  by_cases h1:at_ + 1 ≤ l.length
  · have hc':=hc (by intro e; subst e; simp at h1; omega)
    obtain ⟨b,off,rfl,hcell⟩:=hc'
    obtain ⟨k,rfl⟩:=Int.eq_ofNat_of_zero_le ha0
    have hck:=hcell k (by omega)
    have hbk:=bts_get (za HB) k
    generalize hx:l.getD k 0 = x at *
    have HX:=hide hx
    clear hx
    obtain ⟨hx0,hx1⟩:=hbk
    have h1'':(k:Int) < l.length:=by omega
    clear hc hcell
    go_quiet (fail)
    go_wp2_with fail
    have hd:Rd w1 (.slice (some ⟨b,off,none⟩) l.length cap) l:=(za HE).1.rd
    go_region
    all_goals
      generalize hw2:(w1.drewN _).setCell ⟨B,2,none⟩ (.int .i64 ((seed * 31 + x + 7) % 2147483648)) = w2
      obtain ⟨hE2,t0,t1,t2,hrd2⟩:=seed_step (zby (za HE) _) d1 (by omega) (by omega) hw2
      have HE2:=hide hE2
      obtain ⟨a2,cap2,e2,_,hc2⟩:=hrd2
      obtain ⟨b2,off2,e3,hc3⟩:=hc2 (by intro e; subst e; simp at h1''; omega)
      simp only [Value.slice.injEq,true_and] at e2
      obtain ⟨rfl,rfl⟩:=e2
      simp only [Option.some.injEq,Addr.mk.injEq,and_true] at e3
      obtain ⟨rfl,rfl⟩:=e3
      have tck:=hc3 k (by omega)
      have hx:l.getD k 0 = x:=za HX
      rw [hx] at tck
      clear hE2 hc2 hc3 hw2 d0 d1 d2 hck hx hd
      go_wp2_with fail
      go_quiet (fail)
      go_wp2_with fail
      go_ret
      exact ⟨_,rfl,by omega,by omega,zby (za HE2) _⟩
  · have h1':(l.length:Int) < at_ + 1:=by omega
    clear hc
    by_cases h2:3000 < at_ + 1
    · go_quiet (fail)
      go_wp2_with fail
      go_ret
      exact ⟨_,rfl,by omega,by omega,zby (za HE) _⟩
    · go_quiet (fail)
      go_wp2_with fail
      go_ret
      exact ⟨_,rfl,by omega,by omega,src_seed (zby (za HE) _) _ (by omega) (by omega)⟩
set_option maxRecDepth 100000 in
set_option maxHeartbeats 800000 in
theorem zaO (B:Nat) (v:Value) (l:List Int) (m n:Int) (w:World) (h:Src B w v l m) (hm:m ≤ 1000000000) (h1:1 ≤ n) (h2:n ≤ 1073741824) :
    Calls Try.prog 11 #[.pointer (some ⟨B,0,none⟩),.int .i64 n] w fun e w'=>∃ y:Int,e = .returned (.int .i64 y)∧0 ≤ y∧y < n∧zam B w v l (m + 3) w':=by
  have HS:=hide h
  clear h
  by_cases k1:n ≤ 1
  · go_enter Try.func11,Try.ntmps11
    go_wp2_with fail
    go_ret
    exact ⟨_,rfl,by omega,by omega,src_refl (src_more (za HS) (by omega))⟩
  by_cases k2:n ≤ 256
  · go_enter Try.func11,Try.ntmps11
    go_wp2_with fail
    refine (byte_any B v l m _ (za HS) (by omega)).mono ?_
    rintro e w1 ⟨y,rfl,hy0,hy1,hE⟩
    have HE:=hide hE
    clear hE
    have hne:(n == 0) = false:=by simp; omega
    go_wp2_with fail
    go_ret
    exact ⟨_,rfl,by first | omega | exact Int.emod_nonneg _ (by omega),by first | omega | exact Int.emod_lt_of_pos _ (by omega),src_more (za HE).1 (by omega),(za HE).2⟩
  go_enter Try.func11,Try.ntmps11
  go_wp2_with fail
  refine (byte_any B v l m _ (za HS) (by omega)).mono ?_
  rintro e w1 ⟨y1,rfl,hy0,hy1,hE⟩
  have HE1:=hide hE
  clear hE
  go_wp2_with fail
  refine (byte_any B v l _ _ (za HE1).1 (by omega)).mono ?_
  rintro e w2 ⟨y2,rfl,hz0,hz1,hE⟩
  have HE2:=hide hE
  clear hE
  go_wp2_with fail
  refine (byte_any B v l _ _ (za HE2).1 (by omega)).mono ?_
  rintro e w3 ⟨y3,rfl,hu0,hu1,hE⟩
  have HE3:=hide hE
  clear hE
  have hne:(n == 0) = false:=by simp; omega
  go_wp2_with fail
  go_ret
  exact ⟨_,rfl,by first | omega | exact Int.emod_nonneg _ (by omega),by first | omega | exact Int.emod_lt_of_pos _ (by omega),src_more (za HE3).1 (by omega),zaM (zaM (za HE1).2 (za HE2).2) (za HE3).2⟩
end Go.Proofs.Ytaoaomipplmjcaa
namespace Go.Proofs.Ytaoaomipplmjcaa
open Go.RowKit
set_option linter.unusedVariables false

def DrO (o:Od):Prop:=(o.side = 1∧396 ≤ o.ticks∧o.ticks ≤ 399 ∨ o.side = 2∧400 ≤ o.ticks∧o.ticks ≤ 403)∧1 ≤ o.left∧o.left ≤ 9∧0 ≤ o.life∧o.life ≤ 1∧tagB o.tag = true
def DrB (n:Int) (q:List Od):Prop:=(∀ o ∈ q,DrO o∧1 ≤ o.id∧o.id < n)∧zaE q
theorem drB_nil:DrB 1 []:=⟨by simp,by simp [zaE]⟩
theorem drB_push {n k:Int} {q:List Od} {o:Od} (h:DrB n q) (ho:DrO o) (hid:o.id = n + k) (hk:0 ≤ k) (hn:1 ≤ n):DrB (n + k + 1) (q ++ [o]):=by
  refine ⟨fun x hx=>?_,?_⟩
  · rcases List.mem_append.1 hx with hx | hx
    · have:=h.1 x hx
      exact ⟨this.1,this.2.1,by omega⟩
    · simp at hx; subst hx
      exact ⟨ho,by omega,by omega⟩
  · unfold zaE
    rw [List.pairwise_append]
    refine ⟨h.2,by simp,fun a ha b hb=>?_⟩
    simp at hb; subst hb
    have:=(h.1 a ha).2.2
    omega
theorem allR_of {next:Int}:∀ (l:List Od) (last:Int),(∀ o ∈ l,ordB o = true∧last < o.id∧o.id < next)→zaE l→allR next last l = true
  | [],_,_,_=>rfl
  | a :: r,last,h,hr=>by
    obtain ⟨h1,h2,h3⟩:=h a (by simp)
    obtain ⟨p1,p2⟩:=List.pairwise_cons.1 hr
    rw [allR,h1,decide_eq_true h2,decide_eq_true h3,allR_of r a.id (fun o ho=>⟨(h o (by simp [ho])).1,p1 o ho,(h o (by simp [ho])).2.2⟩) p2]
    rfl
theorem up_len:∀ (T:List Int) (a b:Int),T.Pairwise (bt false)→(∀ x ∈ T,a ≤ x∧x ≤ b)→a ≤ b + 1→(T.length:Int) ≤ b + 1 - a
  | [],a,b,_,_,h=>by simp; omega
  | x :: r,a,b,hp,hx,h=>by
    obtain ⟨p1,p2⟩:=List.pairwise_cons.1 hp
    have hxa:=hx x (by simp)
    have:=up_len r (x + 1) b p2 (fun y hy=>⟨by have:=p1 y hy; simp [bt] at this; omega,(hx y (by simp [hy])).2⟩) (by omega)
    simp only [List.length_cons]; omega
theorem down_len:∀ (T:List Int) (a b:Int),T.Pairwise (bt true)→(∀ x ∈ T,a ≤ x∧x ≤ b)→a ≤ b + 1→(T.length:Int) ≤ b + 1 - a
  | [],a,b,_,_,h=>by simp; omega
  | x :: r,a,b,hp,hx,h=>by
    obtain ⟨p1,p2⟩:=List.pairwise_cons.1 hp
    have hxa:=hx x (by simp)
    have:=down_len r a (x - 1) p2 (fun y hy=>⟨(hx y (by simp [hy])).1,by have:=p1 y hy; simp [bt] at this; omega⟩) (by omega)
    simp only [List.length_cons]; omega
theorem drO_ord {o:Od} (h:DrO o):ordB o = true:=by
  obtain ⟨h1,h2,h3,h4,h5,h6⟩:=h
  simp only [ordB,betB,h6,Bool.and_true,Bool.and_eq_true,decide_eq_true_eq]
  omega
theorem drB_ok {n:Int} {q:List Od} (h:DrB n q) (h1:1 ≤ n) (h2:n ≤ 1000000) (hl:q.length ≤ 20):okS n q = true:=by
  have hal:=allR_of q 0 (fun o ho=>⟨drO_ord (h.1 o ho).1,by have:=(h.1 o ho).2; omega,(h.1 o ho).2.2⟩) h.2 (next:=n)
  have hT1:=zbc true (zg q 1)
  have hT2:=zbc false (zg q 2)
  have hm:∀ sd o,o ∈ zg q sd→o ∈ q∧o.side = sd:=fun sd o ho=>by
    have:=List.mem_filter.1 ho
    exact ⟨this.1,by simpa using this.2⟩
  have n1:=down_len _ 396 399 hT1.sorted (fun x hx=>by
    obtain ⟨o,ho,rfl⟩:=(hT1.mem x).1 hx
    obtain ⟨h3,h4⟩:=hm 1 o ho
    have:=(h.1 o h3).1.1
    omega) (by omega)
  have n2:=up_len _ 400 403 hT2.sorted (fun x hx=>by
    obtain ⟨o,ho,rfl⟩:=(hT2.mem x).1 hx
    obtain ⟨h3,h4⟩:=hm 2 o ho
    have:=(h.1 o h3).1.1
    omega) (by omega)
  have hnl:nlev q ≤ 8:=by
    rw [nlev_eq (fun o ho=>by have:=(h.1 o ho).1.1; omega) hT1 hT2]; omega
  have hx:noX q = true:=(noX_iff q).2 fun a ha h3 b hb h4=>by
    have e1:=(h.1 a ha).1.1
    have e2:=(h.1 b hb).1.1
    omega
  simp only [okS,hal,hx,Bool.and_true,Bool.and_eq_true,decide_eq_true_eq,betB]
  exact ⟨⟨⟨h1,h2⟩,hl⟩,hnl⟩
end Go.Proofs.Ytaoaomipplmjcaa
