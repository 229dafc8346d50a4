/-
  The reason why a command is refused, by the program: proved by walking the functions.
-/
import Derived.Test.YtdfihaabhichdaaGreatRj03
import Derived.Test.YtdfihaabhichdaaGreatRj19
namespace Go.Proofs.YtdfihaabhichdaaGreat
open Go.RowKit
set_option linter.unusedVariables false

def refR (next:Int) (l:List Od) (c:Cm):Int :=
 if c.k = 1 then (if zaB ⟨1,c.s,c.t,c.l,c.q,0,c.p,c.g⟩ c = true then newR next l c else 2)
 else if c.k = 2 then (if zaB ⟨2,0,0,0,0,c.i,0,⟨#[]⟩⟩ c = true then idR l c.i else 2)
 else if c.k = 3 then (if zaB ⟨3,0,0,0,c.q,c.i,0,⟨#[]⟩⟩ c = true then redR l c.i c.q else 2)
 else if c.k = 4 then (if zaB ⟨4,0,0,0,0,0,0,⟨#[]⟩⟩ c = true then 0 else 2)
 else 1
set_option maxRecDepth 100000 in
set_option maxHeartbeats 800000 in
theorem refusal_any (next:Int) (vb:Value) (l:List Od) (c:Cm) (w:World) (hr:RdR Od.vs 6 w vb l) (hs:SlOk vb) (hg:GoodL l) (h0:0 ≤ next) (h1:next ≤ 1000000) (ht:c.g.size ≤ maxLen) :
  Calls Tryz.prog 79 #[.agg #[.int .i64 next,vb],cmV c] w fun e w'=>e = .returned (.int .i64 (refR next l c))∧Below w.heap.size w w':=by
 obtain ⟨kk,s,ty,li,qt,ii,pr,tg⟩:=c
 unfold cmV
 simp only at ht ⊢
 by_cases e1:kk = 1
 ·subst e1; exact refusal_1 next vb l s ty li qt ii pr tg w hr hs hg h0 h1 ht
 by_cases e2:kk = 2
 ·subst e2; exact refusal_2 next vb l s ty li qt ii pr tg w hr hs hg h0 h1 ht
 by_cases e3:kk = 3
 ·subst e3; exact refusal_3 next vb l s ty li qt ii pr tg w hr hs hg h0 h1 ht
 by_cases e4:kk = 4
 ·subst e4; exact refusal_4 next vb l s ty li qt ii pr tg w hr hs hg h0 h1 ht
 have HRE:Hid (refR next l ⟨kk,s,ty,li,qt,ii,pr,tg⟩ = 1):=by show _ = _; simp [refR,e1,e2,e3,e4]
 have hci:cmdI ⟨kk,s,ty,li,qt,ii,pr,tg⟩ = .nilIface:=by simp [cmdI,e1,e2,e3,e4]
 obtain ⟨a,cap,rfl,hlen,hc⟩:=hr
 clear hc hg hs h0 h1 ht hlen e1 e2 e3 e4
 have hs1:(w.alloc (Obj.cells #[.int .i64 next,.slice a l.length cap] 32)).heap.size = w.heap.size + 1:=zf _ _
 have hs2:((w.alloc (Obj.cells #[.int .i64 next,.slice a l.length cap] 32)).alloc (Obj.cells #[.int .i64 kk,.int .i64 s,.int .i64 ty,.int .i64 li,.int .i64 qt,.int .i64 ii,.float .f64 pr,.string tg] 37)).heap.size = w.heap.size + 1 + 1:=by rw [zf,hs1]
 have r1:=zg w [.int .i64 next,.slice a l.length cap] 32
 have r2:=zg (w.alloc (Obj.cells #[.int .i64 next,.slice a l.length cap] 32)) [.int .i64 kk,.int .i64 s,.int .i64 ty,.int .i64 li,.int .i64 qt,.int .i64 ii,.float .f64 pr,.string tg] 37
 rw [hs1] at r2
 have b12:Below (w.heap.size + 1) (w.alloc (Obj.cells #[.int .i64 next,.slice a l.length cap] 32)) ((w.alloc (Obj.cells #[.int .i64 next,.slice a l.length cap] 32)).alloc (Obj.cells #[.int .i64 kk,.int .i64 s,.int .i64 ty,.int .i64 li,.int .i64 qt,.int .i64 ii,.float .f64 pr,.string tg] 37)):=(Below.refl _ _).alloc (by rw [hs1]; omega) _
 have HB2:Hid (Below w.heap.size w ((w.alloc (Obj.cells #[.int .i64 next,.slice a l.length cap] 32)).alloc (Obj.cells #[.int .i64 kk,.int .i64 s,.int .i64 ty,.int .i64 li,.int .i64 qt,.int .i64 ii,.float .f64 pr,.string tg] 37))):=((Below.refl _ _).alloc (Nat.le_refl _) _).alloc (by rw [hs1]; omega) _
 have HX:Hid (_∧_):=⟨zb r1 b12 (by omega),r2⟩
 have HLT:Hid (w.heap.size < ((w.alloc (Obj.cells #[.int .i64 next,.slice a l.length cap] 32)).alloc (Obj.cells #[.int .i64 kk,.int .i64 s,.int .i64 ty,.int .i64 li,.int .i64 qt,.int .i64 ii,.float .f64 pr,.string tg] 37)).heap.size∧w.heap.size + 1 < ((w.alloc (Obj.cells #[.int .i64 next,.slice a l.length cap] 32)).alloc (Obj.cells #[.int .i64 kk,.int .i64 s,.int .i64 ty,.int .i64 li,.int .i64 qt,.int .i64 ii,.float .f64 pr,.string tg] 37)).heap.size):=⟨by omega,by omega⟩
 clear hs1 hs2 r1 r2 b12
 go_enter Tryz.func79,Tryz.ntmps79
 refine wp_seq_k fun K hK=>?_
 have HK1:=hide hK
 clear hK
 go_wp2_with fail
 refine za HK1 _ _ ?_
 clear HK1
 generalize ((w.alloc (Obj.cells #[.int .i64 next,.slice a l.length cap] 32)).alloc (Obj.cells #[.int .i64 kk,.int .i64 s,.int .i64 ty,.int .i64 li,.int .i64 qt,.int .i64 ii,.float .f64 pr,.string tg] 37)) = X2 at HB2 HX HLT ⊢
 have HX:Hid (X2.rangeAt w.heap.size 0 [.int .i64 next,.slice a l.length cap]∧X2.rangeAt (w.heap.size + 1) 0 [.int .i64 kk,.int .i64 s,.int .i64 ty,.int .i64 li,.int .i64 qt,.int .i64 ii,.float .f64 pr,.string tg]) :=za HX
 have k0:X2.cell? ⟨w.heap.size,0,none⟩ = some (.int .i64 next):=(za HX).1 0 _ rfl
 have k1:X2.cell? ⟨w.heap.size,1,none⟩ = some (.slice a l.length cap):=(za HX).1 1 _ rfl
 have o0:X2.cell? ⟨w.heap.size + 1,0,none⟩ = some (.int .i64 kk):=(za HX).2 0 _ rfl
 have o1:X2.cell? ⟨w.heap.size + 1,1,none⟩ = some (.int .i64 s):=(za HX).2 1 _ rfl
 have o2:X2.cell? ⟨w.heap.size + 1,2,none⟩ = some (.int .i64 ty):=(za HX).2 2 _ rfl
 have o3:X2.cell? ⟨w.heap.size + 1,3,none⟩ = some (.int .i64 li):=(za HX).2 3 _ rfl
 have o4:X2.cell? ⟨w.heap.size + 1,4,none⟩ = some (.int .i64 qt):=(za HX).2 4 _ rfl
 have o5:X2.cell? ⟨w.heap.size + 1,5,none⟩ = some (.int .i64 ii):=(za HX).2 5 _ rfl
 have o6:X2.cell? ⟨w.heap.size + 1,6,none⟩ = some (.float .f64 pr):=(za HX).2 6 _ rfl
 have o7:X2.cell? ⟨w.heap.size + 1,7,none⟩ = some (.string tg):=(za HX).2 7 _ rfl
 go_wp2_with fail
 refine (zaf ⟨kk,s,ty,li,qt,ii,pr,tg⟩ X2).mono ?_
 rw [hci]
 clear hci
 rintro e w4 ⟨rfl,hb4⟩
 have HB4:=hide ((za HB2).trans (hb4.mono (za HB2).size))
 clear hb4
 go_wp2_with fail
 go_ret
 exact ⟨zo (za HRE).symm,za HB4⟩
end Go.Proofs.YtdfihaabhichdaaGreat
namespace Go.Proofs.YtdfihaabhichdaaGreat
open Go.RowKit
set_option linter.unusedVariables false

theorem zc {W:World} {b n j:Nat} (h:W.there b 0 n) (hj:j < n):∃ u,W.cell? ⟨b,j,none⟩ = some u∧W.frozen? ⟨b,j,none⟩ = false:=by
  obtain ⟨h1,h2⟩:=h j hj
  rw [Nat.zero_add] at h1 h2
  obtain ⟨u,hu⟩:=Option.isSome_iff_exists.1 h1
  exact ⟨u,hu,h2⟩
theorem zbQ {x:List Bool} {n j:Nat} (hx:x.length = n) (hj:j < n):x[j]? = some false ∨ x[j]? = some true:=by
  rw [List.getElem?_eq_getElem (by omega)]
  cases x[j] <;> simp
end Go.Proofs.YtdfihaabhichdaaGreat
namespace Go.Proofs.YtdfihaabhichdaaGreat
open Go.RowKit
set_option linter.unusedVariables false

def DE (mb B:Nat) (W0:World) (vo:Value) (ts:List Ev) (e:Ev) (p q:Prop) (V:World):Nat→Value→Prop
 | 0,v=>v = .pointer (some ⟨mb,0,none⟩)
 | 1,v=>v = .pointer (some ⟨mb,0,none⟩)
 | 2,v=>v = .pointer (some ⟨mb,0,none⟩)
 | 3,v=>v = .pointer (some ⟨mb,11,none⟩)
 | 4,v=>v = vo
 | 5,v=>v = .agg #[.int .i64 e.kind,.int .i64 e.cmd.k,.int .i64 e.cmd.s,.int .i64 e.cmd.t,.int .i64 e.cmd.l,.int .i64 e.cmd.q,.int .i64 e.cmd.i,.float .f64 e.cmd.p,.string e.cmd.g,.int .i64 e.id,.int .i64 e.other,.int .i64 e.qty,.int .i64 e.price,.int .i64 e.reason]
 | 6,v=>∃ s,v = .slice (some ⟨s,0,none⟩) 1 1∧(¬ p→∀ j u,e.vs[j]? = some u→V.cell? ((⟨s,0,none⟩:Addr).add j) = some u)
 | 7,v=>∃ a c,v = .slice a (ts.length + 1) c∧p∧(¬ q→ERow V B v (ts ++ [e])∧W0.grownBy V vo.ownBlock)∧(q→V.cell? ⟨mb,11,none⟩ = some v∧ERow V B v (ts ++ [e])∧TookAt mb 10 vo.ownBlock W0 V)
 | 8,v=>v = .pointer (some ⟨mb,0,none⟩)
 | 9,v=>v = .pointer (some ⟨mb,11,none⟩)
 | _,_=>True
section
variable {mb B:Nat} {W0 V V':World} {vo:Value} {ts:List Ev} {e:Ev} {p q:Prop}
theorem de_alloc {o:Obj} (hp:¬ p):∀ j v,DE mb B W0 vo ts e p q V j v→DE mb B W0 vo ts e p q (V.alloc o) j v:=by
 intro j v h
 match j with
 | 0 | 1 | 2 | 3 | 4 | 5 | 8 | 9=>exact h
 | 6 =>
  obtain ⟨s,h1,h2⟩:=h
  exact ⟨s,h1,fun hp j u hu=>(World.cell?_alloc_lt _ _ _ (World.block_lt_of_cell? V _ (h2 hp j u hu))).trans (h2 hp j u hu)⟩
 | 7=>obtain ⟨_,_,_,h2,_⟩:=h; exact absurd h2 hp
 | j + 10=>trivial
theorem de_one:∀ j v,j ≠ 7→DE mb B W0 vo ts e False False V j v→DE mb B W0 vo ts e True False V' j v:=by
 intro j v hj h
 match j with
 | 0 | 1 | 2 | 3 | 4 | 5 | 8 | 9=>exact h
 | 6 =>
  obtain ⟨s,h1,h2⟩:=h
  exact ⟨s,h1,fun hp=>absurd trivial hp⟩
 | 7=>exact absurd rfl hj
 | j + 10=>trivial
theorem de_two {v:Value}:∀ j,j ≠ 10→DE mb B W0 vo ts e True False V j v→(j = 7→DE mb B W0 vo ts e True True V' 7 v)→DE mb B W0 vo ts e True True V' j v:=by
 intro j hj h h7
 match j with
 | 0 | 1 | 2 | 3 | 4 | 5 | 8 | 9=>exact h
 | 6 =>
  obtain ⟨s,h1,h2⟩:=h
  exact ⟨s,h1,fun hp=>absurd trivial hp⟩
 | 7=>exact h7 rfl
 | j + 10=>trivial
end
set_option maxRecDepth 100000 in
set_option maxHeartbeats 3200000 in
theorem tell_any (mb B:Nat) (vo:Value) (ts:List Ev) (e:Ev) (w:World) (c11:w.cell? ⟨mb,11,none⟩ = some vo) (f11:w.frozen? ⟨mb,11,none⟩ = false) (hbx:∃ cur,w.heap[mb]? = some (.cells cur 75 (0,0)))
  (her:ERow w B vo ts) (hB:B ≤ w.heap.size) (hn:ts.length ≤ 1000) :
  Calls Tryz.prog 81 #[.pointer (some ⟨mb,0,none⟩),.agg #[.int .i64 e.kind,.int .i64 e.cmd.k,.int .i64 e.cmd.s,.int .i64 e.cmd.t,.int .i64 e.cmd.l,.int .i64 e.cmd.q,.int .i64 e.cmd.i,.float .f64 e.cmd.p,.string e.cmd.g,.int .i64 e.id,.int .i64 e.other,.int .i64 e.qty,.int .i64 e.price,.int .i64 e.reason]] w fun r w'=>∃ vo',r = .returned (.tuple #[])∧w'.cell? ⟨mb,11,none⟩ = some vo'∧ERow w' B vo' (ts ++ [e])∧TookAt mb 10 vo.ownBlock w w':=by
 obtain ⟨i0,hi0,hz0,hz1,hz2⟩:=info_parts infoEv
 have hnq:some mb ≠ vo.ownBlock:=zl her hbx (by decide)
 have hmw:mb < w.heap.size:=World.block_lt_of_cell? w _ c11
 have hb1:Below w.heap.size w (w.alloc (Obj.cells #[.int .i64 e.kind,.int .i64 e.cmd.k,.int .i64 e.cmd.s,.int .i64 e.cmd.t,.int .i64 e.cmd.l,.int .i64 e.cmd.q,.int .i64 e.cmd.i,.float .f64 e.cmd.p,.string e.cmd.g,.int .i64 e.id,.int .i64 e.other,.int .i64 e.qty,.int .i64 e.price,.int .i64 e.reason] 80)):=(Below.refl _ _).alloc (Nat.le_refl _) _
 have HB1:=hide hb1
 have hs1:w.heap.size < (w.alloc (Obj.cells #[.int .i64 e.kind,.int .i64 e.cmd.k,.int .i64 e.cmd.s,.int .i64 e.cmd.t,.int .i64 e.cmd.l,.int .i64 e.cmd.q,.int .i64 e.cmd.i,.float .f64 e.cmd.p,.string e.cmd.g,.int .i64 e.id,.int .i64 e.other,.int .i64 e.qty,.int .i64 e.price,.int .i64 e.reason] 80)).heap.size:=by rw [zf]; omega
 have HEB:Hid (World.rangeAt (w.alloc (Obj.cells #[.int .i64 e.kind,.int .i64 e.cmd.k,.int .i64 e.cmd.s,.int .i64 e.cmd.t,.int .i64 e.cmd.l,.int .i64 e.cmd.q,.int .i64 e.cmd.i,.float .f64 e.cmd.p,.string e.cmd.g,.int .i64 e.id,.int .i64 e.other,.int .i64 e.qty,.int .i64 e.price,.int .i64 e.reason] 80)) w.heap.size 0 e.vs):=zg w e.vs _
 have HM1:Hid (World.cell? (w.alloc (Obj.cells #[.int .i64 e.kind,.int .i64 e.cmd.k,.int .i64 e.cmd.s,.int .i64 e.cmd.t,.int .i64 e.cmd.l,.int .i64 e.cmd.q,.int .i64 e.cmd.i,.float .f64 e.cmd.p,.string e.cmd.g,.int .i64 e.id,.int .i64 e.other,.int .i64 e.qty,.int .i64 e.price,.int .i64 e.reason] 80)) ⟨mb,11,none⟩ = some vo):=(hb1.cell (p:=⟨mb,11,none⟩) hmw).trans c11
 have HF1:Hid (World.frozen? (w.alloc (Obj.cells #[.int .i64 e.kind,.int .i64 e.cmd.k,.int .i64 e.cmd.s,.int .i64 e.cmd.t,.int .i64 e.cmd.l,.int .i64 e.cmd.q,.int .i64 e.cmd.i,.float .f64 e.cmd.p,.string e.cmd.g,.int .i64 e.id,.int .i64 e.other,.int .i64 e.qty,.int .i64 e.price,.int .i64 e.reason] 80)) ⟨mb,11,none⟩ = false):=(World.frozen?_of_block (a:=⟨mb,11,none⟩) (hb1.block mb hmw)).trans f11
 have HBX:Hid (∃ cur,(w.alloc (Obj.cells #[.int .i64 e.kind,.int .i64 e.cmd.k,.int .i64 e.cmd.s,.int .i64 e.cmd.t,.int .i64 e.cmd.l,.int .i64 e.cmd.q,.int .i64 e.cmd.i,.float .f64 e.cmd.p,.string e.cmd.g,.int .i64 e.id,.int .i64 e.other,.int .i64 e.qty,.int .i64 e.price,.int .i64 e.reason] 80)).heap[mb]? = some (.cells cur 75 (0,0))):=by obtain ⟨cur,hc⟩:=hbx; exact ⟨cur,(hb1.block mb hmw).trans hc⟩
 have HORO:=hide (zL her hb1)
 clear c11 f11 hbx her hb1
 go_enter Tryz.func81,Tryz.ntmps81
 refine wp_seq_k fun K hK=>?_
 have HK1:=hide hK
 clear hK
 go_wp2_with fail
 refine za HK1 _ _ ?_
 clear HK1
 generalize (w.alloc (Obj.cells #[.int .i64 e.kind,.int .i64 e.cmd.k,.int .i64 e.cmd.s,.int .i64 e.cmd.t,.int .i64 e.cmd.l,.int .i64 e.cmd.q,.int .i64 e.cmd.i,.float .f64 e.cmd.p,.string e.cmd.g,.int .i64 e.id,.int .i64 e.other,.int .i64 e.qty,.int .i64 e.price,.int .i64 e.reason] 80)) = X at HB1 hs1 HEB HM1 HF1 HBX HORO ⊢
 have hBX:B ≤ X.heap.size:=by omega
 have hmX:mb < X.heap.size:=by omega
 refine zj (RT (fun V=>Below X.heap.size X V) (fun f=>{ tmps:=#[.pointer (some ⟨mb,0,none⟩),.agg #[.int .i64 e.kind,.int .i64 e.cmd.k,.int .i64 e.cmd.s,.int .i64 e.cmd.t,.int .i64 e.cmd.l,.int .i64 e.cmd.q,.int .i64 e.cmd.i,.float .f64 e.cmd.p,.string e.cmd.g,.int .i64 e.id,.int .i64 e.other,.int .i64 e.qty,.int .i64 e.price,.int .i64 e.reason],undef,.pointer (some ⟨w.heap.size,0,none⟩),f 0,f 1,f 2,f 3,f 4,f 5,f 6,f 7,f 8,f 9],defers:=[] }) 7 10 (DE mb B X vo ts e)) (by kernel_rfl) ?_ ?_ ?_
 ·exact ⟨fun _=>undef,rfl,fun _=>⟨rfl,rfl,rfl,Nat.le_refl _,fun _ _=>rfl⟩,fun j hj=>by rw [List.getElem?_replicate] at hj; split at hj <;> simp at hj⟩
 ·rintro x A V ⟨f,rfl,-,hD⟩ hx hrd
  have hallx:=zY hrd hx (acyc _ (by kernel_rfl))
  have k7:x[7]? = some true:=hallx 7 (by simp)
  have k10:x[10]? = some true:=hallx 10 (by simp)
  obtain ⟨va,vc,-,-,-,hfin⟩:=hD 7 k7
  obtain ⟨q1,q2,q3⟩:=hfin k10
  have HFIN:Hid (_∧_∧_):=⟨q1,q2,q3⟩
  clear hD hallx hrd hx k7 k10 hfin q1 q2 q3
  dsimp only
  go_wp2_with fail
  go_end0
  exact ⟨_,rfl,(za HFIN).1,(za HFIN).2.1,zaq (zah (zaa (za HB1) (Nat.le_refl _)) hmw hnq) (za HFIN).2.2⟩
 ·rintro x A V i op ⟨f,rfl,hbs,hD⟩ hcl hx ho hxi hall
  have HBS:=hide hbs
  have HD:=hide hD
  have cellV:∀ b o u,X.cell? ⟨b,o,none⟩ = some u→¬ x[7]? = some true→V.cell? ⟨b,o,none⟩ = some u:=fun b o u hu hn7=>((za HBS hn7).cell (p:=⟨b,o,none⟩) (World.block_lt_of_cell? X _ hu)).trans hu
  have n7':i < 7→0 < i→¬ x[7]? = some true:=fun hlt hpos h7=>by
   have h4:=hcl 7 _ rfl h7 ⟨4,.data⟩ (by simp) rfl
   have h6:=hcl 7 _ rfl h7 ⟨6,.data⟩ (by simp) rfl
   have h3:=hcl 4 _ rfl h4 ⟨3,.data⟩ (by simp) rfl
   have h5:=hcl 6 _ rfl h6 ⟨5,.data⟩ (by simp) rfl
   have h2:=hcl 3 _ rfl h3 ⟨2,.data⟩ (by simp) rfl
   have h1:=hcl 2 _ rfl h2 ⟨1,.data⟩ (by simp) rfl
   have hallk:∀ j,0 < j→j < 7→x[j]? = some true:=fun j hj0 hj=>by
    rcases (by omega:j = 1 ∨ j = 2 ∨ j = 3 ∨ j = 4 ∨ j = 5 ∨ j = 6) with rfl | rfl | rfl | rfl | rfl | rfl <;> assumption
   rw [hallk i hpos hlt] at hxi; cases hxi
  have n10':i < 10→¬ x[10]? = some true:=fun hlt h10=>by
   have h9:=hcl 10 _ rfl h10 ⟨9,.data⟩ (by simp) rfl
   have h7:=hcl 10 _ rfl h10 ⟨7,.data⟩ (by simp) rfl
   have h8:=hcl 9 _ rfl h9 ⟨8,.data⟩ (by simp) rfl
   have h4:=hcl 7 _ rfl h7 ⟨4,.data⟩ (by simp) rfl
   have h6:=hcl 7 _ rfl h7 ⟨6,.data⟩ (by simp) rfl
   have h0:=hcl 8 _ rfl h8 ⟨0,.data⟩ (by simp) rfl
   have h3:=hcl 4 _ rfl h4 ⟨3,.data⟩ (by simp) rfl
   have h5:=hcl 6 _ rfl h6 ⟨5,.data⟩ (by simp) rfl
   have h2:=hcl 3 _ rfl h3 ⟨2,.data⟩ (by simp) rfl
   have h1:=hcl 2 _ rfl h2 ⟨1,.data⟩ (by simp) rfl
   have hallk:∀ j,j < 10→x[j]? = some true:=fun j hj=>by
    rcases (by omega:j = 0 ∨ j = 1 ∨ j = 2 ∨ j = 3 ∨ j = 4 ∨ j = 5 ∨ j = 6 ∨ j = 7 ∨ j = 8 ∨ j = 9) with rfl | rfl | rfl | rfl | rfl | rfl | rfl | rfl | rfl | rfl <;> assumption
   rw [hallk i hlt] at hxi; cases hxi
  clear hcl hbs
  match i,ho with
  | 0,ho =>
   obtain rfl:=Option.some.inj ho
   clear hall hD
   rw [if_pos (by rfl)]
   unfold Oper.wp
   go_simp
   exact ⟨upd f 0 (.pointer (some ⟨mb,0,none⟩)),by simp [upd],zx (za HD) (by decide) (by decide) (fun _ _ h=>h) (za HBS) rfl⟩
  | 1,ho =>
   obtain rfl:=Option.some.inj ho
   clear hall hD
   rw [if_pos (by rfl)]
   unfold Oper.wp
   go_simp
   exact ⟨upd f 1 (.pointer (some ⟨mb,0,none⟩)),by simp [upd],zx (za HD) (by decide) (by decide) (fun _ _ h=>h) (za HBS) rfl⟩
  | 2,ho =>
   obtain rfl:=Option.some.inj ho
   have g:f 1 = .pointer (some ⟨mb,0,none⟩):=hD 1 (hall ⟨1,.data⟩ (by simp) rfl)
   clear hall hD
   rw [if_pos (by rfl)]
   unfold Oper.wp
   go_simp
   exact ⟨upd f 2 (.pointer (some ⟨mb,0,none⟩)),by simp [upd,g],zx (za HD) (by decide) (by decide) (fun _ _ h=>h) (za HBS) rfl⟩
  | 3,ho =>
   obtain rfl:=Option.some.inj ho
   have g:f 2 = .pointer (some ⟨mb,0,none⟩):=hD 2 (hall ⟨2,.data⟩ (by simp) rfl)
   clear hall hD
   rw [if_pos (by rfl)]
   unfold Oper.wp
   go_simp
   exact ⟨upd f 3 (.pointer (some ⟨mb,11,none⟩)),by simp [upd,g],zx (za HD) (by decide) (by decide) (fun _ _ h=>h) (za HBS) rfl⟩
  | 4,ho =>
   obtain rfl:=Option.some.inj ho
   have g:f 3 = .pointer (some ⟨mb,11,none⟩):=hD 3 (hall ⟨3,.data⟩ (by simp) rfl)
   have n7:=n7' (by omega) (by omega)
   have y1:=cellV mb 11 _ (za HM1) n7
   clear hall hD
   rw [if_pos (by rfl)]
   unfold Oper.wp
   go_simp
   exact ⟨upd f 4 (vo),by simp [upd,g],zx (za HD) (by decide) (by decide) (fun _ _ h=>h) (za HBS) rfl⟩
  | 5,ho =>
   obtain rfl:=Option.some.inj ho
   have n7:=n7' (by omega) (by omega)
   have y0:=cellV w.heap.size 0 _ (za HEB 0 _ rfl) n7
   have y1:=cellV w.heap.size 1 _ (za HEB 1 _ rfl) n7
   have y2:=cellV w.heap.size 2 _ (za HEB 2 _ rfl) n7
   have y3:=cellV w.heap.size 3 _ (za HEB 3 _ rfl) n7
   have y4:=cellV w.heap.size 4 _ (za HEB 4 _ rfl) n7
   have y5:=cellV w.heap.size 5 _ (za HEB 5 _ rfl) n7
   have y6:=cellV w.heap.size 6 _ (za HEB 6 _ rfl) n7
   have y7:=cellV w.heap.size 7 _ (za HEB 7 _ rfl) n7
   have y8:=cellV w.heap.size 8 _ (za HEB 8 _ rfl) n7
   have y9:=cellV w.heap.size 9 _ (za HEB 9 _ rfl) n7
   have y10:=cellV w.heap.size 10 _ (za HEB 10 _ rfl) n7
   have y11:=cellV w.heap.size 11 _ (za HEB 11 _ rfl) n7
   have y12:=cellV w.heap.size 12 _ (za HEB 12 _ rfl) n7
   have y13:=cellV w.heap.size 13 _ (za HEB 13 _ rfl) n7
   clear hall hD
   rw [if_pos (by rfl)]
   unfold Oper.wp
   go_simp
   exact ⟨upd f 5 (.agg #[.int .i64 e.kind,.int .i64 e.cmd.k,.int .i64 e.cmd.s,.int .i64 e.cmd.t,.int .i64 e.cmd.l,.int .i64 e.cmd.q,.int .i64 e.cmd.i,.float .f64 e.cmd.p,.string e.cmd.g,.int .i64 e.id,.int .i64 e.other,.int .i64 e.qty,.int .i64 e.price,.int .i64 e.reason]),by simp [upd],zx (za HD) (by decide) (by decide) (fun _ _ h=>h) (za HBS) rfl⟩
  | 6,ho =>
   obtain rfl:=Option.some.inj ho
   have g:f 5 = .agg #[.int .i64 e.kind,.int .i64 e.cmd.k,.int .i64 e.cmd.s,.int .i64 e.cmd.t,.int .i64 e.cmd.l,.int .i64 e.cmd.q,.int .i64 e.cmd.i,.float .f64 e.cmd.p,.string e.cmd.g,.int .i64 e.id,.int .i64 e.other,.int .i64 e.qty,.int .i64 e.price,.int .i64 e.reason]:=hD 5 (hall ⟨5,.data⟩ (by simp) rfl)
   have n7:=n7' (by omega) (by omega)
   have hbV:=za HBS n7
   have hsf:=sfl
   clear hall hD
   rw [if_pos (by rfl)]
   unfold Oper.wp
   go_simp
   refine ⟨upd f 6 (.slice (some ⟨V.heap.size,0,none⟩) 1 1),by simp [upd,g],zx (za HD) (by decide) (by decide) (de_alloc n7) (fun _=>hbV.alloc hbV.size _) ⟨V.heap.size,rfl,fun _=>?_⟩⟩
   exact fun j u h=>zci V e.vs 80 j u h
  | 7,ho =>
   obtain rfl:=Option.some.inj ho
   have g4:f 4 = vo:=hD 4 (hall ⟨4,.data⟩ (by simp) rfl)
   obtain ⟨s,g6,hcs⟩:=hD 6 (hall ⟨6,.data⟩ (by simp) rfl)
   have n7:¬ x[7]? = some true:=by rw [hxi]; simp
   have n10:=n10' (by omega)
   have hbV:=za HBS n7
   have hrow:ERow V B vo ts:=zL (za HORO) hbV
   rw [if_pos (by rfl)]
   refine wp_append_own V (.tmp 8) (.tmp 10) 33 rfl B 80 i0 _ 14 120 Tryz.underlying33 hi0 hz0 hz1 hz2 rfl (by decide) vo ts.length (ts.flatMap Ev.vs) g4 hrow ⟨s,0,none⟩ 1 1 e.vs g6 rfl (hcs n7) (one_ev e) (by unfold maxLen; omega) (by omega) (by have:=hbV.size; omega) ?_
   intro v' w' hown hgr _
   obtain ⟨ga,gc,rfl⟩:=zbI hown (by omega)
   refine ⟨upd f 7 (.slice (some ⟨ga,0,none⟩) (ts.length + 1) gc),rfl,rt_one (by decide) (za HD) hxi n10 (fun j v hj h=>de_one j v hj h) ⟨some ⟨ga,0,none⟩,gc,rfl,trivial,fun _=>⟨?_,?_⟩,fun h=>h.elim⟩⟩
   ·show World.ownsRow _ _ _ _ _ (ts ++ [e]).length _
    rw [List.length_append,List.flatMap_append]; simpa using hown
   ·exact (zaa hbV (Nat.le_refl _)).trans hgr
  | 8,ho =>
   obtain rfl:=Option.some.inj ho
   have g:f 0 = .pointer (some ⟨mb,0,none⟩):=hD 0 (hall ⟨0,.data⟩ (by simp) rfl)
   clear hall hD
   rw [if_pos (by rfl)]
   unfold Oper.wp
   go_simp
   exact ⟨upd f 8 (.pointer (some ⟨mb,0,none⟩)),by simp [upd,g],zx (za HD) (by decide) (by decide) (fun _ _ h=>h) (za HBS) rfl⟩
  | 9,ho =>
   obtain rfl:=Option.some.inj ho
   have g:f 8 = .pointer (some ⟨mb,0,none⟩):=hD 8 (hall ⟨8,.data⟩ (by simp) rfl)
   clear hall hD
   rw [if_pos (by rfl)]
   unfold Oper.wp
   go_simp
   exact ⟨upd f 9 (.pointer (some ⟨mb,11,none⟩)),by simp [upd,g],zx (za HD) (by decide) (by decide) (fun _ _ h=>h) (za HBS) rfl⟩
  | 10,ho =>
   obtain rfl:=Option.some.inj ho
   have g9:f 9 = .pointer (some ⟨mb,11,none⟩):=hD 9 (hall ⟨9,.data⟩ (by simp) rfl)
   have k7:x[7]? = some true:=hall ⟨7,.data⟩ (by simp) rfl
   have n10:¬ x[10]? = some true:=by rw [hxi]; simp
   obtain ⟨ga,gc,g7,-,hfa,-⟩:=hD 7 k7
   obtain ⟨her,hgr⟩:=hfa n10
   have y1:=hgr.cell (za HM1) hnq
   have f1:V.frozen? ⟨mb,11,none⟩ = false:=(World.frozen?_of_block (a:=⟨mb,11,none⟩) (hgr.block mb hmX hnq)).trans (za HF1)
   have HER:=hide (g7 ▸ her)
   have HBXV:Hid (∃ cur,V.heap[mb]? = some (.cells cur 75 (0,0))):=by obtain ⟨cur,hc⟩:=za HBX; exact ⟨cur,(hgr.block mb hmX hnq).trans hc⟩
   have HGR:=hide hgr
   clear hall hD her hgr hfa
   rw [if_pos (by rfl)]
   unfold Oper.wp
   go_simp
   refine ⟨upd f 10 undef,by simp [upd,g9,g7],rt_two (by decide) (za HD) k7 hxi (fun j hj hxj h=>de_two j hj h (fun hj7=>?_)) trivial⟩
   subst hj7
   obtain ⟨-,-,-,-,-,-⟩:=h
   refine ⟨ga,gc,g7,trivial,fun h=>absurd trivial h,fun _=>?_⟩
   rw [g7]
   refine ⟨World.cell?_setCell_same _ _ _ y1,zt (za HER) (zl (za HER) (za HBXV) (by decide)) 11 _,?_⟩
   exact zaq (zah (za HGR) hmX hnq) (zbN (o:=10) _ _)
  | i + 11,ho=>simp at ho
end Go.Proofs.YtdfihaabhichdaaGreat
