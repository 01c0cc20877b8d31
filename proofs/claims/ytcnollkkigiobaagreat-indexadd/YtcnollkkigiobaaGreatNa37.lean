import Derived.Test.YtcnollkkigiobaaGreatNa36
import Derived.Test.YtcnollkkigiobaaGreatNa32
import Derived.Test.YtcnollkkigiobaaGreatNa33
import Derived.Test.YtcnollkkigiobaaGreatNa51
import Derived.Test.YtcnollkkigiobaaGreatNa2
import Derived.Test.YtcnollkkigiobaaGreatNa11
import Derived.Test.YtcnollkkigiobaaGreatNa13
set_option linter.unusedVariables false
set_option maxRecDepth 100000
namespace Go.Proofs.YtcnollkkigiobaaGreat
open Go.RowKit Go.Deep

def RetRg (w:World) (n:Nat) (N:Nat -> Tn) (lo hi:ByteArray) (e:Ending) (w' : World):Prop :=
  ∃ (L:List ByteArray) (a:Option Addr) (c:Nat),e = .returned (.slice a L.length c) /\ OwnS w' w.heap.size a L.length (gt L) /\ Below w.heap.size w w' /\ L.length <= 1048576 /\ ((∃ t,VTt n N t /\ L = fil lo hi (keysR 21 t)) \/ (¬ VT n N /\ L = []))


theorem fil_all (K:List ByteArray):fil { data := #[] } { data := #[] } K = K := by
  unfold fil
  rw [List.filter_eq_self]
  intro k _
  have e:(({ data := #[] }:ByteArray)).toList = [] := by unfold ByteArray.toList; unfold ByteArray.toList.loop; rfl
  unfold inR
  rw [e]
  cases k.toList <;> rfl
def GoodK (perm:Nat) (K:List ByteArray):Prop := ∀ k,k ∈ K -> k.size = 16 /\ quadB (quadOf perm k) = true
def RetQs (w:World) (perm:Nat) (K:List ByteArray) (e:Ending) (w' : World):Prop :=
  ∃ (ok:Bool) (a:Option Addr) (c:Nat) (L:List Qd),e = .returned (.tuple #[.slice a L.length c,.bool ok]) /\ Below w.heap.size w w' /\ RdQ w' a L /\ ((ok = true /\ L = K.map (quadOf perm) /\ GoodK perm K) \/ (ok = false /\ L = [] /\ ¬ GoodK perm K))

set_option maxHeartbeats 8000000 in
theorem quads_any (perm:Nat) (hp:perm < 6) (b o:Nat) (w:World) (n:Nat) (t:Ro n) (v:Value) (hh:Nat) (hc0:w.cell? ⟨b,o,none⟩ = some (.func (.func (layF perm)) #[] #[])) (hc1:w.cell? ⟨b,o + 1,none⟩ = some v)
    (ht:TAt (fun bb => bb < w.heap.size) w n t v) (hb:BalR n true t hh) (hasc:Asc (keysR n t)) (hlen:(keysR n t).length <= 300) :
    Calls Tryz.prog 69 #[.pointer (some ⟨b,o,none⟩)] w (RetQs w perm (keysR n t)) := by
  have hga := gather_any { data := #[] } { data := #[] } w.heap.size w n t v true hh ht hb hasc (by omega)
  obtain ⟨K,hK⟩:∃ K,K = keysR n t := ⟨_,rfl⟩
  rw [<- hK] at hga hlen ⊢
  have HP:Hid (perm < 6 /\ w.cell? ⟨b,o,none⟩ = some (.func (.func (layF perm)) #[] #[]) /\ b < w.heap.size) := ⟨hp,hc0,World.block_lt_of_cell? _ _ hc0⟩
  clear ht hb hasc hK hp hc0 hh t n
  obtain ⟨i0,hi0,hz0,hz1,hz2⟩ := info_parts Tryz.info34
  have HI:Hid (Tryz.prog.info? 34 = some i0 /\ i0.zero = some (.agg #[.int .i64 0,.int .i64 0,.int .i64 0,.int .i64 0]) /\ i0.size = 4 /\ i0.bytes = 32) := ⟨hi0,hz0,hz1,hz2⟩
  clear hi0 hz0 hz1 hz2
  rcases hga with ⟨p,rfl,hcall⟩ | ⟨p,rfl,hcall⟩
  · have HC:Hid (Calls Tryz.prog 203 #[.pointer (some p),.slice none 0 0,.string { data := #[] },.string { data := #[] }] w (RetGa w.heap.size w ([] ++ fil { data := #[] } { data := #[] } K))) := hcall w none 0 0 [] (Below.refl _ _) (Nat.le_refl _) (World.ownsRow_nil _ _ _ _) rfl (by omega)
    clear hcall
    rw [List.nil_append,fil_all] at HC
    go_enter Tryz.func69,Tryz.ntmps69
    go_wp2_with fail
    (with_reducible refine HC.out.mono ?_)
    rintro e w3 ⟨a3,c3,rfl,ho3,hb3⟩
    obtain ⟨kl,hkl⟩:∃ kl,kl = K.length := ⟨_,rfl⟩
    have HKL:Hid (kl = K.length) := hkl
    have S3:Hid (RdS w3 a3 kl (gt K) /\ Below w.heap.size w w3) := by
      obtain ⟨a6,c6,e6,q,_⟩ := ownS_strL ho3 rfl
      injection e6 with e6 _ _
      subst e6
      exact ⟨by rw [hkl]; exact q.rd,hb3⟩
    rw [<- hkl] at hlen ⊢
    clear hkl ho3 hb3 HC
    go_wp2
    go_loopw [4,6,7,14] (fun out _ _ i wr => ∃ (k:Nat) (R:List Qd),k <= kl /\ i = .int .i64 k /\ R = (K.take k).map (quadOf perm) /\ GoodK perm (K.take k) /\ wr.ownsRow w3.heap.size 34 4 out R.length (quadL R) /\ Below w3.heap.size w3 wr) (fun _ _ _ i _ => kl - (intOf i).toNat)
    case atStart => exact ⟨0,[],Nat.zero_le _,rfl,rfl,(fun k hk => by simp at hk),World.ownsRow_nil _ _ _ _,Below.refl _ _⟩
    case round =>
      obtain ⟨k,R,hk,rfl,hR,hgd,hown,hbel⟩ := hrel
      obtain ⟨ar,cr,er,_⟩ := own_form hown
      subst er
      have hRl:R.length = k := by rw [hR,List.length_map,List.length_take,<- HKL.out]; omega
      have HQ:Hid (wr.ownsRow w3.heap.size 34 4 (.slice ar R.length cr) R.length (quadL R) /\ Below w3.heap.size w3 wr /\ R = (K.take k).map (quadOf perm) /\ GoodK perm (K.take k) /\ R.length = k) := ⟨hown,hbel,hR,hgd,hRl⟩
      clear hown hbel hR hgd hRl
      obtain ⟨rl,hrl⟩:∃ rl,rl = R.length := ⟨_,rfl⟩
      have HRl:Hid (rl = R.length) := hrl
      have hrlk:rl = k := hrl.trans HQ.out.2.2.2.2
      have hrlk1:rl <= k := by omega
      rw [<- hrl] at HQ ⊢
      clear hrl hrlk
      have k0:(0:Int) <= (k:Int) := by omega
      have HBw:Hid (Below w.heap.size w wr) := S3.out.2.trans (HQ.out.2.1.mono S3.out.2.size)
      by_cases hlt:k < kl
      · have k1:(k:Int) < (kl:Int) := by omega
        have hkK:k < K.length := by rw [<- HKL.out]; exact hlt
        obtain ⟨bb,oo,ea2,s1⟩ := (S3.out.1.below HQ.out.2.1).cellOf k hlt
        obtain ⟨key,hkey⟩:∃ key,key = gt K k := ⟨_,rfl⟩
        rw [<- hkey] at s1
        have HKy:Hid (key = K[k] /\ key ∈ K) := by
          have e:key = K[k] := by rw [hkey,gt_in hkK]
          exact ⟨e,by rw [e]; exact List.getElem_mem hkK⟩
        have l0:wr.cell? ⟨b,o,none⟩ = some (.func (.func (layF perm)) #[] #[]) := by
          rw [HBw.out.cell (show b < w.heap.size from HP.out.2.2)]
          exact HP.out.2.1
        clear hkey hc1
        subst ea2
        by_cases hsz:key.size = 16
        · have hszi:(key.size:Int) = 16 := by omega
          have HQd:Hid (Calls Tryz.prog 73 #[.func (.func (layF perm)) #[] #[],.string key] wr fun e w' => e = .returned (qv (quadOf perm key)) /\ Below wr.heap.size wr w') := quad_any perm HP.out.1 key hsz wr
          go_wp2_with fail
          (with_reducible refine HQd.out.mono ?_)
          rintro e w5 ⟨rfl,hb5⟩
          obtain ⟨qd,hqd⟩:∃ qd,qd = quadOf perm key := ⟨_,rfl⟩
          have HQq:Hid (qd = quadOf perm key) := hqd
          have HIs:Hid (∀ W:World,Calls Tryz.prog 81 #[.agg #[.int .i64 qd.s,.int .i64 qd.p,.int .i64 qd.o,.int .i64 qd.g]] W fun e w' => e = .returned (.bool (quadB qd)) /\ Below W.heap.size W w') := fun W => isQuad_any qd W
          rw [<- hqd]
          clear hqd
          unfold qv
          go_wp2_with fail
          (with_reducible refine (HIs.out _).mono ?_)
          rintro e w6 ⟨rfl,hb6⟩
          have z := (Bx.new w5 #[.int .i64 qd.s,.int .i64 qd.p,.int .i64 qd.o,.int .i64 qd.g] 34)
          have hz5 := hb5.size
          have hz6 := hb6.size
          have hz3 := HQ.out.2.1.size
          simp only [World.size_alloc] at hz6
          have hb56:Below w5.heap.size w5 w6 := (below_alloc w5 (.cells #[.int .i64 qd.s,.int .i64 qd.p,.int .i64 qd.o,.int .i64 qd.g] 34)).trans (hb6.mono (by simp))
          have z6:Bx w6 w5.heap.size 34 #[.int .i64 qd.s,.int .i64 qd.p,.int .i64 qd.o,.int .i64 qd.g] := (hb6.block _ (by simp)).trans z
          have y0 := z6.cell 0
          have y1 := z6.cell 1
          have y2 := z6.cell 2
          have y3 := z6.cell 3
          simp at y0 y1 y2 y3
          have HO6:Hid (w6.ownsRow w3.heap.size 34 4 (.slice ar rl cr) rl (quadL R) /\ Below w3.heap.size w3 w6 /\ Below w.heap.size w w6) := by
            have q1:Below wr.heap.size wr w6 := hb5.trans (hb56.mono hz5)
            have q2:Below w3.heap.size w3 w6 := HQ.out.2.1.trans (q1.mono hz3)
            exact ⟨own_below HQ.out.1 q1,q2,S3.out.2.trans (q2.mono S3.out.2.size)⟩
          cases hq:quadB qd with
          | false =>
            have HNo:Hid (¬ GoodK perm K) := fun h => by
              have := (h key HKy.out.2).2
              rw [<- HQq.out,hq] at this
              cases this
            clear hb5 hb6 hb56 z z6 HQd HIs
            go_wp2
            refine bodyPost_ret (v := .tuple #[.slice none 0 0,.bool false]) (by simp [results,Tryz.results69,go_sem]) rfl ?_
            exact ⟨false,none,0,[],rfl,HO6.out.2.2,.inl rfl,.inr ⟨rfl,rfl,HNo.out⟩⟩
          | true =>
            have HG1:Hid (GoodK perm (K.take (k + 1))) := by
              intro x hx
              rw [List.take_add_one,List.getElem?_eq_getElem hkK] at hx
              rcases List.mem_append.1 hx with hx | hx
              · exact HQ.out.2.2.2.1 x hx
              · have e:x = K[k] := by simpa using hx
                rw [e,<- HKy.out.1]
                exact ⟨hsz,by rw [<- HQq.out]; exact hq⟩
            have hz3r:w3.heap.size <= w6.heap.size := by omega
            have HO7:Hid ((w6.alloc (.cells #[.int .i64 qd.s,.int .i64 qd.p,.int .i64 qd.o,.int .i64 qd.g] 34)).ownsRow w3.heap.size 34 4 (.slice ar rl cr) rl (quadL R) /\ (∀ j u,(quadL [qd])[j]? = some u -> (w6.alloc (.cells #[.int .i64 qd.s,.int .i64 qd.p,.int .i64 qd.o,.int .i64 qd.g] 34)).cell? ⟨w6.heap.size,j,none⟩ = some u)) := by
              refine ⟨own_below HO6.out.1 (below_alloc _ _),fun j u hj => ?_⟩
              rw [(Bx.new w6 #[.int .i64 qd.s,.int .i64 qd.p,.int .i64 qd.o,.int .i64 qd.g] 34).cell j]
              simpa [quadL] using hj
            clear hb5 hb6 hb56 z z6 HQd HIs
            go_wp2_with (at_builtin; refine wpList_append_own_at _ rfl _ _ 28 rfl w3.heap.size 34 i0 _ 4 32 Tryz.underlying28 HI.out.1 HI.out.2.1 HI.out.2.2.1 HI.out.2.2.2 rfl (by decide) (.slice ar rl cr) rl (quadL R) rfl HO7.out.1 ⟨w6.heap.size,0,none⟩ 1 1 (quadL [qd]) rfl rfl (fun j u hj => by rw [Addr.add_lit,Nat.zero_add]; exact HO7.out.2 j u hj) (by intro u hu; simp [quadL] at hu; rcases hu with rfl | rfl | rfl | rfl <;> rfl) (by unfold maxLen; omega) (by omega) (by simp; omega) ?_)
            intro v7 w7 ho7 hg7 _ hat7
            have H7:Hid (GoodK perm (K.take (k + 1)) /\ w7.ownsRow w3.heap.size 34 4 v7 (R ++ [qd]).length (quadL (R ++ [qd])) /\ Below w3.heap.size w3 w7) := by
              refine ⟨HG1.out,by rw [quadL_app,List.length_append,<- HRl.out]; exact ho7,?_⟩
              exact (HO6.out.2.1.trans ((below_alloc _ _).mono hz3r)).grown hg7 (by simp; omega) (fun g e => (own_lt HQ.out.1 g e).1)
            have HN:Hid (R ++ [qd] = (K.take (k + 1)).map (quadOf perm)) := by
              show R ++ [qd] = _
              rw [List.take_add_one,List.getElem?_eq_getElem hkK,List.map_append,<- HQ.out.2.2.1,HQq.out,HKy.out.1]
              rfl
            obtain ⟨a7,c7,e7,_⟩ := own_form ho7
            subst e7
            clear ho7 hg7 hat7 HO7
            go_wp2
            go_roundw
            case rel => exact ⟨k + 1,R ++ [qd],by omega,by go_num,HN.out,H7.out⟩
            case measure => simp [intOf]; omega
        · have hszi:¬ (key.size:Int) = 16 := by omega
          have HNo:Hid (¬ GoodK perm K) := fun h => hsz (h key HKy.out.2).1
          go_wp2
          refine bodyPost_ret (v := .tuple #[.slice none 0 0,.bool false]) (by simp [results,Tryz.results69,go_sem]) rfl ?_
          exact ⟨false,none,0,[],rfl,HBw.out,.inl rfl,.inr ⟨rfl,rfl,HNo.out⟩⟩
      · obtain rfl:k = kl := by omega
        have k1:¬ (k:Int) < (k:Int) := by omega
        have HF:Hid (RdQ wr ar R /\ rl = R.length /\ R = K.map (quadOf perm) /\ GoodK perm K) := by
          have ho := HQ.out.1
          rw [HRl.out] at ho
          have e:K.take k = K := by rw [HKL.out,List.take_length]
          refine ⟨own_rdq ho,HRl.out,?_,?_⟩
          · rw [HQ.out.2.2.1,e]
          · have := HQ.out.2.2.2.1
            rw [e] at this
            exact this
        go_wp2
        refine bodyPost_ret (v := .tuple #[.slice ar rl cr,.bool true]) (by simp [results,Tryz.results69,go_sem]) rfl ?_
        exact ⟨true,ar,cr,R,by rw [<- HF.out.2.1],HBw.out,HF.out.1,.inl ⟨rfl,HF.out.2.2.1,HF.out.2.2.2⟩⟩
  · have HC:Hid (Calls Tryz.prog 186 #[.pointer (some p),.slice none 0 0,.string { data := #[] },.string { data := #[] }] w (RetGa w.heap.size w ([] ++ fil { data := #[] } { data := #[] } K))) := hcall w none 0 0 [] (Below.refl _ _) (Nat.le_refl _) (World.ownsRow_nil _ _ _ _) rfl (by omega)
    clear hcall
    rw [List.nil_append,fil_all] at HC
    go_enter Tryz.func69,Tryz.ntmps69
    go_wp2_with fail
    (with_reducible refine HC.out.mono ?_)
    rintro e w3 ⟨a3,c3,rfl,ho3,hb3⟩
    obtain ⟨kl,hkl⟩:∃ kl,kl = K.length := ⟨_,rfl⟩
    have HKL:Hid (kl = K.length) := hkl
    have S3:Hid (RdS w3 a3 kl (gt K) /\ Below w.heap.size w w3) := by
      obtain ⟨a6,c6,e6,q,_⟩ := ownS_strL ho3 rfl
      injection e6 with e6 _ _
      subst e6
      exact ⟨by rw [hkl]; exact q.rd,hb3⟩
    rw [<- hkl] at hlen ⊢
    clear hkl ho3 hb3 HC
    go_wp2
    go_loopw [4,6,7,14] (fun out _ _ i wr => ∃ (k:Nat) (R:List Qd),k <= kl /\ i = .int .i64 k /\ R = (K.take k).map (quadOf perm) /\ GoodK perm (K.take k) /\ wr.ownsRow w3.heap.size 34 4 out R.length (quadL R) /\ Below w3.heap.size w3 wr) (fun _ _ _ i _ => kl - (intOf i).toNat)
    case atStart => exact ⟨0,[],Nat.zero_le _,rfl,rfl,(fun k hk => by simp at hk),World.ownsRow_nil _ _ _ _,Below.refl _ _⟩
    case round =>
      obtain ⟨k,R,hk,rfl,hR,hgd,hown,hbel⟩ := hrel
      obtain ⟨ar,cr,er,_⟩ := own_form hown
      subst er
      have hRl:R.length = k := by rw [hR,List.length_map,List.length_take,<- HKL.out]; omega
      have HQ:Hid (wr.ownsRow w3.heap.size 34 4 (.slice ar R.length cr) R.length (quadL R) /\ Below w3.heap.size w3 wr /\ R = (K.take k).map (quadOf perm) /\ GoodK perm (K.take k) /\ R.length = k) := ⟨hown,hbel,hR,hgd,hRl⟩
      clear hown hbel hR hgd hRl
      obtain ⟨rl,hrl⟩:∃ rl,rl = R.length := ⟨_,rfl⟩
      have HRl:Hid (rl = R.length) := hrl
      have hrlk:rl = k := hrl.trans HQ.out.2.2.2.2
      have hrlk1:rl <= k := by omega
      rw [<- hrl] at HQ ⊢
      clear hrl hrlk
      have k0:(0:Int) <= (k:Int) := by omega
      have HBw:Hid (Below w.heap.size w wr) := S3.out.2.trans (HQ.out.2.1.mono S3.out.2.size)
      by_cases hlt:k < kl
      · have k1:(k:Int) < (kl:Int) := by omega
        have hkK:k < K.length := by rw [<- HKL.out]; exact hlt
        obtain ⟨bb,oo,ea2,s1⟩ := (S3.out.1.below HQ.out.2.1).cellOf k hlt
        obtain ⟨key,hkey⟩:∃ key,key = gt K k := ⟨_,rfl⟩
        rw [<- hkey] at s1
        have HKy:Hid (key = K[k] /\ key ∈ K) := by
          have e:key = K[k] := by rw [hkey,gt_in hkK]
          exact ⟨e,by rw [e]; exact List.getElem_mem hkK⟩
        have l0:wr.cell? ⟨b,o,none⟩ = some (.func (.func (layF perm)) #[] #[]) := by
          rw [HBw.out.cell (show b < w.heap.size from HP.out.2.2)]
          exact HP.out.2.1
        clear hkey hc1
        subst ea2
        by_cases hsz:key.size = 16
        · have hszi:(key.size:Int) = 16 := by omega
          have HQd:Hid (Calls Tryz.prog 73 #[.func (.func (layF perm)) #[] #[],.string key] wr fun e w' => e = .returned (qv (quadOf perm key)) /\ Below wr.heap.size wr w') := quad_any perm HP.out.1 key hsz wr
          go_wp2_with fail
          (with_reducible refine HQd.out.mono ?_)
          rintro e w5 ⟨rfl,hb5⟩
          obtain ⟨qd,hqd⟩:∃ qd,qd = quadOf perm key := ⟨_,rfl⟩
          have HQq:Hid (qd = quadOf perm key) := hqd
          have HIs:Hid (∀ W:World,Calls Tryz.prog 81 #[.agg #[.int .i64 qd.s,.int .i64 qd.p,.int .i64 qd.o,.int .i64 qd.g]] W fun e w' => e = .returned (.bool (quadB qd)) /\ Below W.heap.size W w') := fun W => isQuad_any qd W
          rw [<- hqd]
          clear hqd
          unfold qv
          go_wp2_with fail
          (with_reducible refine (HIs.out _).mono ?_)
          rintro e w6 ⟨rfl,hb6⟩
          have z := (Bx.new w5 #[.int .i64 qd.s,.int .i64 qd.p,.int .i64 qd.o,.int .i64 qd.g] 34)
          have hz5 := hb5.size
          have hz6 := hb6.size
          have hz3 := HQ.out.2.1.size
          simp only [World.size_alloc] at hz6
          have hb56:Below w5.heap.size w5 w6 := (below_alloc w5 (.cells #[.int .i64 qd.s,.int .i64 qd.p,.int .i64 qd.o,.int .i64 qd.g] 34)).trans (hb6.mono (by simp))
          have z6:Bx w6 w5.heap.size 34 #[.int .i64 qd.s,.int .i64 qd.p,.int .i64 qd.o,.int .i64 qd.g] := (hb6.block _ (by simp)).trans z
          have y0 := z6.cell 0
          have y1 := z6.cell 1
          have y2 := z6.cell 2
          have y3 := z6.cell 3
          simp at y0 y1 y2 y3
          have HO6:Hid (w6.ownsRow w3.heap.size 34 4 (.slice ar rl cr) rl (quadL R) /\ Below w3.heap.size w3 w6 /\ Below w.heap.size w w6) := by
            have q1:Below wr.heap.size wr w6 := hb5.trans (hb56.mono hz5)
            have q2:Below w3.heap.size w3 w6 := HQ.out.2.1.trans (q1.mono hz3)
            exact ⟨own_below HQ.out.1 q1,q2,S3.out.2.trans (q2.mono S3.out.2.size)⟩
          cases hq:quadB qd with
          | false =>
            have HNo:Hid (¬ GoodK perm K) := fun h => by
              have := (h key HKy.out.2).2
              rw [<- HQq.out,hq] at this
              cases this
            clear hb5 hb6 hb56 z z6 HQd HIs
            go_wp2
            refine bodyPost_ret (v := .tuple #[.slice none 0 0,.bool false]) (by simp [results,Tryz.results69,go_sem]) rfl ?_
            exact ⟨false,none,0,[],rfl,HO6.out.2.2,.inl rfl,.inr ⟨rfl,rfl,HNo.out⟩⟩
          | true =>
            have HG1:Hid (GoodK perm (K.take (k + 1))) := by
              intro x hx
              rw [List.take_add_one,List.getElem?_eq_getElem hkK] at hx
              rcases List.mem_append.1 hx with hx | hx
              · exact HQ.out.2.2.2.1 x hx
              · have e:x = K[k] := by simpa using hx
                rw [e,<- HKy.out.1]
                exact ⟨hsz,by rw [<- HQq.out]; exact hq⟩
            have hz3r:w3.heap.size <= w6.heap.size := by omega
            have HO7:Hid ((w6.alloc (.cells #[.int .i64 qd.s,.int .i64 qd.p,.int .i64 qd.o,.int .i64 qd.g] 34)).ownsRow w3.heap.size 34 4 (.slice ar rl cr) rl (quadL R) /\ (∀ j u,(quadL [qd])[j]? = some u -> (w6.alloc (.cells #[.int .i64 qd.s,.int .i64 qd.p,.int .i64 qd.o,.int .i64 qd.g] 34)).cell? ⟨w6.heap.size,j,none⟩ = some u)) := by
              refine ⟨own_below HO6.out.1 (below_alloc _ _),fun j u hj => ?_⟩
              rw [(Bx.new w6 #[.int .i64 qd.s,.int .i64 qd.p,.int .i64 qd.o,.int .i64 qd.g] 34).cell j]
              simpa [quadL] using hj
            clear hb5 hb6 hb56 z z6 HQd HIs
            go_wp2_with (at_builtin; refine wpList_append_own_at _ rfl _ _ 28 rfl w3.heap.size 34 i0 _ 4 32 Tryz.underlying28 HI.out.1 HI.out.2.1 HI.out.2.2.1 HI.out.2.2.2 rfl (by decide) (.slice ar rl cr) rl (quadL R) rfl HO7.out.1 ⟨w6.heap.size,0,none⟩ 1 1 (quadL [qd]) rfl rfl (fun j u hj => by rw [Addr.add_lit,Nat.zero_add]; exact HO7.out.2 j u hj) (by intro u hu; simp [quadL] at hu; rcases hu with rfl | rfl | rfl | rfl <;> rfl) (by unfold maxLen; omega) (by omega) (by simp; omega) ?_)
            intro v7 w7 ho7 hg7 _ hat7
            have H7:Hid (GoodK perm (K.take (k + 1)) /\ w7.ownsRow w3.heap.size 34 4 v7 (R ++ [qd]).length (quadL (R ++ [qd])) /\ Below w3.heap.size w3 w7) := by
              refine ⟨HG1.out,by rw [quadL_app,List.length_append,<- HRl.out]; exact ho7,?_⟩
              exact (HO6.out.2.1.trans ((below_alloc _ _).mono hz3r)).grown hg7 (by simp; omega) (fun g e => (own_lt HQ.out.1 g e).1)
            have HN:Hid (R ++ [qd] = (K.take (k + 1)).map (quadOf perm)) := by
              show R ++ [qd] = _
              rw [List.take_add_one,List.getElem?_eq_getElem hkK,List.map_append,<- HQ.out.2.2.1,HQq.out,HKy.out.1]
              rfl
            obtain ⟨a7,c7,e7,_⟩ := own_form ho7
            subst e7
            clear ho7 hg7 hat7 HO7
            go_wp2
            go_roundw
            case rel => exact ⟨k + 1,R ++ [qd],by omega,by go_num,HN.out,H7.out⟩
            case measure => simp [intOf]; omega
        · have hszi:¬ (key.size:Int) = 16 := by omega
          have HNo:Hid (¬ GoodK perm K) := fun h => hsz (h key HKy.out.2).1
          go_wp2
          refine bodyPost_ret (v := .tuple #[.slice none 0 0,.bool false]) (by simp [results,Tryz.results69,go_sem]) rfl ?_
          exact ⟨false,none,0,[],rfl,HBw.out,.inl rfl,.inr ⟨rfl,rfl,HNo.out⟩⟩
      · obtain rfl:k = kl := by omega
        have k1:¬ (k:Int) < (k:Int) := by omega
        have HF:Hid (RdQ wr ar R /\ rl = R.length /\ R = K.map (quadOf perm) /\ GoodK perm K) := by
          have ho := HQ.out.1
          rw [HRl.out] at ho
          have e:K.take k = K := by rw [HKL.out,List.take_length]
          refine ⟨own_rdq ho,HRl.out,?_,?_⟩
          · rw [HQ.out.2.2.1,e]
          · have := HQ.out.2.2.2.1
            rw [e] at this
            exact this
        go_wp2
        refine bodyPost_ret (v := .tuple #[.slice ar rl cr,.bool true]) (by simp [results,Tryz.results69,go_sem]) rfl ?_
        exact ⟨true,ar,cr,R,by rw [<- HF.out.2.1],HBw.out,HF.out.1,.inl ⟨rfl,HF.out.2.2.1,HF.out.2.2.2⟩⟩

theorem pk_inj {k k' : ByteArray} {i:Nat} (h:pk k i = pk k' i):∀ n,n < 4 -> kb k (4 * i + n) = kb k' (4 * i + n) := by
  have e1:∀ q:ByteArray,pkn q i 1 = kb q (4 * i + 0) := fun q => by show 256 * 0 + kb q (4 * i + 0) = _; omega
  have e2:∀ q:ByteArray,pkn q i 2 = 256 * pkn q i 1 + kb q (4 * i + 1) := fun _ => rfl
  have e3:∀ q:ByteArray,pkn q i 3 = 256 * pkn q i 2 + kb q (4 * i + 2) := fun _ => rfl
  have e4:∀ q:ByteArray,pk q i = 256 * pkn q i 3 + kb q (4 * i + 3) := fun _ => rfl
  have r:∀ (q:ByteArray) (n:Nat),0 <= kb q (4 * i + n) /\ kb q (4 * i + n) < 256 := fun q n => kb_range q _
  intro n hn
  have a1 := e1 k; have a2 := e2 k; have a3 := e3 k; have a4 := e4 k
  have b1 := e1 k'; have b2 := e2 k'; have b3 := e3 k'; have b4 := e4 k'
  have r0 := r k 0; have r1 := r k 1; have r2 := r k 2; have r3 := r k 3
  have s0 := r k' 0; have s1 := r k' 1; have s2 := r k' 2; have s3 := r k' 3
  rcases (show n = 0 \/ n = 1 \/ n = 2 \/ n = 3 by omega) with rfl | rfl | rfl | rfl <;> omega
theorem posF_onto (perm:Nat) (hp:perm < 6) (i:Nat) (hi:i < 4):∃ s,s < 4 /\ posF perm s = i := by
  rcases (show perm = 0 \/ perm = 1 \/ perm = 2 \/ perm = 3 \/ perm = 4 \/ perm = 5 by omega) with rfl | rfl | rfl | rfl | rfl | rfl <;> rcases (show i = 0 \/ i = 1 \/ i = 2 \/ i = 3 by omega) with rfl | rfl | rfl | rfl <;>
    first | exact ⟨0,by omega,rfl⟩ | exact ⟨1,by omega,rfl⟩ | exact ⟨2,by omega,rfl⟩ | exact ⟨3,by omega,rfl⟩
theorem quadOf_inj {perm:Nat} (hp:perm < 6) {k k' : ByteArray} (hk:k.size = 16) (hk' : k'.size = 16) (h:quadOf perm k = quadOf perm k'):k = k' := by
  injection h with h0 h1 h2 h3
  have hall:∀ i,i < 4 -> pk k i = pk k' i := fun i hi => by
    obtain ⟨s,hs,e⟩ := posF_onto perm hp i hi
    rw [<- e]
    rcases (show s = 0 \/ s = 1 \/ s = 2 \/ s = 3 by omega) with rfl | rfl | rfl | rfl
    · exact h0
    · exact h1
    · exact h2
    · exact h3
  have hb:∀ m,m < 16 -> kb k m = kb k' m := fun m hm => by
    have := pk_inj (hall (m / 4) (by omega)) (m % 4) (by omega)
    rw [show 4 * (m / 4) + m % 4 = m by omega] at this
    exact this
  apply ByteArray.ext
  apply Array.ext
  · show k.size = k'.size
    rw [hk,hk']
  · intro m h1 h2
    obtain ⟨x,ex,ebx⟩ := kb_get (k := k) (i := m) h1
    obtain ⟨y,ey,eby⟩ := kb_get (k := k') (i := m) h2
    have hxy := hb m (by rw [<- hk]; exact h1)
    rw [ebx,eby] at hxy
    have hxy2:x = y := by
      apply UInt8.toNat_inj.1
      omega
    have gx:k.data[m]? = some x := by
      rw [<- ex]
      first | rfl | simp
    have gy:k'.data[m]? = some y := by
      rw [<- ey]
      first | rfl | simp
    rw [Array.getElem?_eq_getElem h1] at gx
    rw [Array.getElem?_eq_getElem h2] at gy
    injection gx with gx
    injection gy with gy
    rw [gx,gy,hxy2]
theorem quads_nodup {perm:Nat} (hp:perm < 6) {K:List ByteArray} (hasc:Asc K) (hk:∀ k,k ∈ K -> k.size = 16):(K.map (quadOf perm)).Nodup := by
  rw [List.Nodup,List.pairwise_map]
  refine List.Pairwise.imp_of_mem (fun {a b} ha hb hlt e => ?_) hasc
  have := quadOf_inj hp (hk a ha) (hk b hb) e
  subst this
  rw [less_irrefl] at hlt
  cases hlt

def OkT (perm m:Nat) (N:Nat -> Tn):Prop := ∃ t,VTt m N t /\ (keysR 21 t).length <= 300 /\ ∀ k,k ∈ keysR 21 t -> k.size = 16 /\ quadB (quadOf perm k) = true
def SameQ (i m:Nat) (N:Nat -> Tn) (m0:Nat) (N0:Nat -> Tn):Prop := ∀ t t0,VTt m N t -> VTt m0 N0 t0 -> (keysR 21 t).length = (keysR 21 t0).length /\ ∀ k,k ∈ keysR 21 t -> quadOf i k ∈ (keysR 21 t0).map (quadOf 0)
def VI (n:Nat) (M:Nat -> Nat) (T:Nat -> Nat -> Tn):Prop := n = 6 /\ (∀ j,j < 6 -> OkT j (M j) (T j)) /\ ∀ i,1 <= i -> i < 6 -> SameQ i (M i) (T i) (M 0) (T 0)
theorem vtt1 {n:Nat} {N:Nat -> Tn} {t t' : Ro 21} (h:VTt n N t) (h' : VTt n N t'):t = t' := by
  have q := h.2.2.1
  rw [h'.2.2.1] at q
  injection q with q
  injection q with q _
  exact q.symm

set_option maxHeartbeats 8000000 in
theorem specVI (a:Option Addr) (n c:Nat) (M:Nat -> Nat) (T:Nat -> Nat -> Tn) (w:World) (h:RdIx w a n M T) (hn:n <= 1048576) (hN:IxFit n M T) :
    Calls Tryz.prog 25 #[.agg #[.slice a n c]] w (AnsN w (VI n M T)) := by
  by_cases h6:n = 6
  case neg =>
    have h6i:¬ (n:Int) = 6 := by omega
    have h6d:((n:Int) != 6) = true := by simp; omega
    have HF:Hid (¬ VI n M T) := fun q => h6 q.1
    clear h hN
    go_enter Tryz.func25,Tryz.ntmps25
    go_wp2
    go_ret
    exact ⟨false,rfl,by simp [HF.out],below_alloc _ _⟩
  case pos =>
  subst h6
  have HR:Hid (RdIx w a 6 M T /\ IxFit 6 M T) := ⟨h,hN⟩
  clear h hN hn
  go_enter Tryz.func25,Tryz.ntmps25
  go_wp2
  go_loopw [3,4,5,6,7] (fun i _ _ _ _ wr => ∃ j:Nat,j <= 6 /\ i = .int .i64 j /\ (∀ q,q < j -> OkT q (M q) (T q)) /\ Below w.heap.size w wr /\ Bx wr w.heap.size 32 #[.slice a 6 c]) (fun i _ _ _ _ _ => 6 - (intOf i).toNat)
  case atStart => exact ⟨0,by omega,rfl,fun q hq => absurd hq (Nat.not_lt_zero _),below_alloc _ _,Bx.new _ _ _⟩
  case round =>
    obtain ⟨j,hj,rfl,hok,hbel,hbx⟩ := hrel
    have HS:Hid ((∀ q,q < j -> OkT q (M q) (T q)) /\ Below w.heap.size w wr /\ Bx wr w.heap.size 32 #[.slice a 6 c]) := ⟨hok,hbel,hbx⟩
    have b0 := hbx.cell 0
    simp at b0
    have bl := hbx.lt
    have j0:(0:Int) <= (j:Int) := by omega
    by_cases hlt:j < 6
    · have j1:(j:Int) < 6 := by omega
      rcases HR.out.1.below hbel with q | ⟨bb,oo,ea,hc⟩
      · omega
      obtain ⟨aj,cj,s0,hrd⟩ := hc j hlt
      have hfit := HR.out.2 j hlt
      obtain ⟨m,hm⟩:∃ m,m = M j := ⟨_,rfl⟩
      have HM:Hid (m = M j) := hm
      have HOf:Hid (Calls Tryz.prog 57 #[.agg #[.slice aj m cj]] wr (RetOf wr (M j) (T j))) := by
        rw [hm]
        exact of_any aj (M j) cj (T j) wr hrd hfit.1 hfit.2
      rw [<- hm] at s0
      subst ea
      clear hok hbel hbx hc hrd hfit hm
      go_wp2_with fail
      (with_reducible refine HOf.out.mono ?_)
      rintro e w1 ⟨hb1,lf,ka,kn,kc,ca,cn,cc,ok,rfl,hr⟩
      have H1:Hid (Below w.heap.size w w1 /\ Bx w1 w.heap.size 32 #[.slice (some ⟨bb,oo,none⟩) 6 c]) := ⟨HS.out.2.1.trans (hb1.mono HS.out.2.1.size),HS.out.2.2.below hb1⟩
      clear hb1 HOf b0 bl s0
      cases ok with
      | false =>
        have HF:Hid (¬ VI 6 M T) := fun q => by
          obtain ⟨t,ht,_⟩ := q.2.1 j hlt
          rcases hr with ⟨_,hno,_⟩ | ⟨q,_⟩
          · exact hno ⟨t,ht⟩
          · cases q
        clear hr
        go_wp2
        go_ret
        exact ⟨false,rfl,by simp [HF.out],H1.out.1.alloc H1.out.1.size _⟩
      | true =>
        obtain ⟨t,hvt,hna⟩:∃ t,VTt (M j) (T j) t /\ NA w1 21 t (.agg #[.bool lf,.slice ka kn kc,.slice ca cn cc]) := by
          rcases hr with ⟨q,_⟩ | ⟨_,q⟩
          · cases q
          · exact q
        have hend := nestR_end hvt.2.2.1
        have hm5 := hvt.2.1
        obtain ⟨hh,hbal⟩ := hvt.2.2.2.1
        have hfl := fit_len (bal_fit hbal)
        have HV:Hid (VTt (M j) (T j) t) := hvt
        have HKeys:Hid (∀ W,Below w1.heap.size w1 W -> Calls Tryz.prog 58 #[.agg #[.bool lf,.slice ka kn kc,.slice ca cn cc]] W (RetStrs W (keysR 21 t))) := fun W hW => keys_any 21 t _ W (hna.below hW) (by omega) (by omega)
        have hk20:(keysR 21 t).length <= 20000 := by omega
        clear hr hna hvt hend hm5 hbal hfl
        go_wp2_with fail
        (with_reducible refine (HKeys.out _ (below_alloc _ _)).mono ?_)
        rintro e w3 ⟨a3,c3,rfl,ho3,hb3,_,_⟩
        obtain ⟨kl,hkl⟩:∃ kl,kl = (keysR 21 t).length := ⟨_,rfl⟩
        have HKL:Hid (kl = (keysR 21 t).length) := hkl
        have H3:Hid (Below w.heap.size w w3 /\ Bx w3 w.heap.size 32 #[.slice (some ⟨bb,oo,none⟩) 6 c] /\ RdS w3 a3 kl (gt (keysR 21 t))) := by
          have q := H1.out.1.alloc H1.out.1.size (.cells #[.bool lf,.slice ka kn kc,.slice ca cn cc] 91)
          exact ⟨q.trans (hb3.mono q.size),(H1.out.2.alloc _).below hb3,by rw [hkl]; exact ho3.rd⟩
        rw [<- hkl] at hk20 ⊢
        clear hkl ho3 hb3 HKeys H1
        by_cases h300:300 < kl
        · have h3i:(300:Int) < (kl:Int) := by omega
          have h3d:decide ((300:Int) < (kl:Int)) = true := decide_eq_true h3i
          have HF:Hid (¬ VI 6 M T) := fun q => by
            obtain ⟨t',ht',hl',_⟩ := q.2.1 j hlt
            rw [vtt1 ht' HV.out,<- HKL.out] at hl'
            omega
          go_wp2
          go_ret
          exact ⟨false,rfl,by simp [HF.out],H3.out.1⟩
        · have h3i:¬ (300:Int) < (kl:Int) := by omega
          have h3d:decide ((300:Int) < (kl:Int)) = false := decide_eq_false h3i
          go_wp2
          go_loopw [7] (fun i wr => ∃ k:Nat,k <= kl /\ i = .int .i64 k /\ (∀ x,x < k -> (gt (keysR 21 t) x).size = 16 /\ quadB (quadOf j (gt (keysR 21 t) x)) = true) /\ Below w3.heap.size w3 wr) (fun i _ => kl - (intOf i).toNat)
          case atStart => exact ⟨0,Nat.zero_le _,rfl,fun x hx => absurd hx (Nat.not_lt_zero _),Below.refl _ _⟩
          case round =>
            obtain ⟨k,hk,rfl,hall,hbq⟩ := hrel
            have HQ:Hid ((∀ x,x < k -> (gt (keysR 21 t) x).size = 16 /\ quadB (quadOf j (gt (keysR 21 t) x)) = true) /\ Below w3.heap.size w3 wr /\ Below w.heap.size w wr /\ Bx wr w.heap.size 32 #[.slice (some ⟨bb,oo,none⟩) 6 c]) := ⟨hall,hbq,H3.out.1.trans (hbq.mono H3.out.1.size),H3.out.2.1.below hbq⟩
            have k0:(0:Int) <= (k:Int) := by omega
            by_cases hkl:k < kl
            · have k1:(k:Int) < (kl:Int) := by omega
              obtain ⟨b5,o5,ea,s1⟩ := (H3.out.2.2.below hbq).cellOf k hkl
              obtain ⟨key,hkey⟩:∃ key,key = gt (keysR 21 t) k := ⟨_,rfl⟩
              have HKy:Hid (key = gt (keysR 21 t) k /\ key ∈ keysR 21 t) := ⟨hkey,by rw [hkey]; exact gt_mem (by rw [<- HKL.out]; exact hkl)⟩
              rw [<- hkey] at s1
              clear hkey hall hbq
              subst ea
              by_cases hs:key.size = 16
              · have hsi:(key.size:Int) = 16 := by omega
                have hsd:((key.size:Int) != 16) = false := by simp [hsi]
                have HQd:Hid (Calls Tryz.prog 59 #[.string key,.int .i64 (j:Int)] wr fun e w' => e = .returned (qv (quadOf j key)) /\ Below wr.heap.size wr w') := l5Quad_any j hlt key hs wr
                have HSz:Hid (key.size = 16) := hs
                clear hs hsi
                go_wp2_with fail
                (with_reducible refine HQd.out.mono ?_)
                rintro e w5 ⟨rfl,hb5⟩
                have HG:Hid (∀ W,Calls Tryz.prog 41 #[qv (quadOf j key)] W fun e w' => e = .returned (.bool (quadB (quadOf j key))) /\ Below W.heap.size W w') := fun W => l5Good_any _ W
                have H5:Hid (Below w3.heap.size w3 w5 /\ Below w.heap.size w w5) := ⟨HQ.out.2.1.trans (hb5.mono HQ.out.2.1.size),HQ.out.2.2.1.trans (hb5.mono HQ.out.2.2.1.size)⟩
                have HQB:Hid (∀ b,b = quadB (quadOf j key) -> b = quadB (quadOf j (gt (keysR 21 t) k))) := fun b hb => by rw [hb,HKy.out.1]
                generalize hqv:qv (quadOf j key) = qq at HG ⊢
                unfold qv at hqv
                subst hqv
                clear hb5 HQd
                go_wp2_with fail
                (with_reducible refine (HG.out _).mono ?_)
                rintro e w6 ⟨rfl,hb6⟩
                have H6:Hid (Below w3.heap.size w3 w6 /\ Below w.heap.size w w6) := ⟨H5.out.1.trans (hb6.mono H5.out.1.size),H5.out.2.trans (hb6.mono H5.out.2.size)⟩
                clear hb6 HG
                cases hqb:quadB (quadOf j key) with
                | false =>
                  have HF:Hid (¬ VI 6 M T) := fun q => by
                    obtain ⟨t',ht',_,hg'⟩ := q.2.1 j hlt
                    rw [vtt1 ht' HV.out] at hg'
                    have q2 := (hg' key HKy.out.2).2
                    rw [hqb] at q2
                    cases q2
                  go_wp2
                  go_ret
                  exact ⟨false,rfl,by simp [HF.out],H6.out.2⟩
                | true =>
                  have HN:Hid (∀ x,x < k + 1 -> (gt (keysR 21 t) x).size = 16 /\ quadB (quadOf j (gt (keysR 21 t) x)) = true) := fun x hx => by
                    by_cases e:x = k
                    · subst e
                      rw [<- HKy.out.1]
                      exact ⟨HSz.out,hqb⟩
                    · exact HQ.out.1 x (by omega)
                  go_wp2
                  go_roundw
                  case rel => exact ⟨k + 1,by omega,by go_num,HN.out,H6.out.1⟩
                  case measure => simp [intOf]; omega
              · have hsi:¬ (key.size:Int) = 16 := by omega
                have hsd:((key.size:Int) != 16) = true := by simp; omega
                have HF:Hid (¬ VI 6 M T) := fun q => by
                  obtain ⟨t',ht',_,hg'⟩ := q.2.1 j hlt
                  rw [vtt1 ht' HV.out] at hg'
                  exact hs (hg' key HKy.out.2).1
                go_wp2
                go_ret
                exact ⟨false,rfl,by simp [HF.out],HQ.out.2.2.1⟩
            · obtain rfl:k = kl := by omega
              have HN:Hid (∀ q,q < j + 1 -> OkT q (M q) (T q)) := fun q hq => by
                by_cases e:q = j
                · subst e
                  refine ⟨t,HV.out,by rw [<- HKL.out]; omega,fun x hx => ?_⟩
                  obtain ⟨y,hy,e⟩ := List.getElem_of_mem hx
                  have q2 := HQ.out.1 y (by rw [HKL.out]; exact hy)
                  rw [gt_in hy,e] at q2
                  exact q2
                · exact HS.out.1 q (by omega)
              clear hall hbq
              go_wp2
              go_roundw
              case rel => exact ⟨j + 1,by omega,by go_num,HN.out,HQ.out.2.2⟩
              case measure => simp [intOf]; omega
    · obtain rfl:j = 6 := by omega
      have HOk:Hid (∀ q,q < 6 -> OkT q (M q) (T q)) := hok
      have HRd:Hid (∀ (W:World) (i:Nat),Below w.heap.size w W -> i < 6 -> ∃ bb oo ai ci,a = some ⟨bb,oo,none⟩ /\ W.cell? ⟨bb,oo + i,none⟩ = some (.slice ai (M i) ci) /\ RdTn W ai (M i) (T i)) := fun W i hW hi => by
        rcases HR.out.1.below hW with q | ⟨bb,oo,ea,hc⟩
        · omega
        · obtain ⟨ai,ci,q1,q2⟩ := hc i hi
          exact ⟨bb,oo,ai,ci,ea,q1,q2⟩
      have HQs:Hid (∀ (W:World) (i:Nat) (ai:Option Addr) (ci:Nat) (t:Ro 21) (L:List Qd),i < 6 -> RdTn W ai (M i) (T i) -> VTt (M i) (T i) t -> L = (keysR 21 t).map (quadOf i) -> Calls Tryz.prog 33 #[.agg #[.slice ai (M i) ci],.int .i64 (i:Int)] W fun e w' => ∃ a' c',e = .returned (.slice a' L.length c') /\ RdQ w' a' L /\ Below W.heap.size W w') := fun W i ai ci t L hi hr hv hL => by
        obtain ⟨t',ht',hl',hg'⟩ := HOk.out i hi
        rw [vtt1 ht' hv] at hl' hg'
        exact l5Quads_any i hi ai (M i) ci (T i) t W hr hv (HR.out.2 i hi).2 (fun k hk => (hg' k hk).1) hl' L hL
      obtain ⟨t0,hv0,hl0,hg0⟩ := hok 0 (by omega)
      obtain ⟨L0,hL0⟩:∃ L0,L0 = (keysR 21 t0).map (quadOf 0) := ⟨_,rfl⟩
      obtain ⟨bb,oo,a0,c0,ea,s0,hrd0⟩ := HRd.out wr 0 hbel (by omega)
      have HQ0:Hid (Calls Tryz.prog 33 #[.agg #[.slice a0 (M 0) c0],.int .i64 0] wr fun e w' => ∃ a' c',e = .returned (.slice a' L0.length c') /\ RdQ w' a' L0 /\ Below wr.heap.size wr w') := HQs.out wr 0 a0 c0 t0 L0 (by omega) hrd0 hv0 hL0
      have H0:Hid (VTt (M 0) (T 0) t0 /\ L0 = (keysR 21 t0).map (quadOf 0) /\ L0.length <= 300) := ⟨hv0,hL0,by rw [hL0,List.length_map]; exact hl0⟩
      clear hv0 hl0 hg0 hL0 hrd0 hok hbel hbx
      rw [Nat.add_zero] at s0
      subst ea
      go_wp2_with fail
      (with_reducible refine HQ0.out.mono ?_)
      rintro e w1 ⟨a1,c1,rfl,hq1,hb1⟩
      obtain ⟨l0,hl0⟩:∃ l0,l0 = L0.length := ⟨_,rfl⟩
      have HL0:Hid (l0 = L0.length) := hl0
      have hl300:l0 <= 300 := by rw [hl0]; exact H0.out.2.2
      have H1:Hid (Below w.heap.size w w1 /\ Bx w1 w.heap.size 32 #[.slice (some ⟨bb,oo,none⟩) 6 c] /\ RdQ w1 a1 L0) := ⟨HS.out.2.1.trans (hb1.mono HS.out.2.1.size),HS.out.2.2.below hb1,hq1⟩
      rw [<- hl0]
      clear hq1 hb1 HQ0 hl0 s0 b0 bl
      go_wp2
      go_loopw [9,10,11] (fun i _ _ wr => ∃ x:Nat,1 <= x /\ x <= 6 /\ i = .int .i64 x /\ (∀ q,1 <= q -> q < x -> SameQ q (M q) (T q) (M 0) (T 0)) /\ Below w1.heap.size w1 wr) (fun i _ _ _ => 6 - (intOf i).toNat)
      case atStart => exact ⟨1,by omega,by omega,rfl,fun q h1 h2 => by omega,Below.refl _ _⟩
      case round =>
        obtain ⟨x,hx1,hx6,rfl,hsm,hbq⟩ := hrel
        have hbw:Below w.heap.size w wr := H1.out.1.trans (hbq.mono H1.out.1.size)
        have HQ:Hid ((∀ q,1 <= q -> q < x -> SameQ q (M q) (T q) (M 0) (T 0)) /\ Below w1.heap.size w1 wr /\ Below w.heap.size w wr) := ⟨hsm,hbq,hbw⟩
        have x0:(0:Int) <= (x:Int) := by omega
        by_cases hxl:x < 6
        · have x1:(x:Int) < 6 := by omega
          obtain ⟨t,hvt,hlt,hgt⟩ := HOk.out x hxl
          obtain ⟨L,hL⟩:∃ L,L = (keysR 21 t).map (quadOf x) := ⟨_,rfl⟩
          obtain ⟨bb',oo',ax,cx,ea,s0,hrdx⟩ := HRd.out wr x hbw hxl
          injection ea with ea
          injection ea with ea1 ea2
          subst ea1 ea2
          obtain ⟨m,hm⟩:∃ m,m = M x := ⟨_,rfl⟩
          have HQx:Hid (Calls Tryz.prog 33 #[.agg #[.slice ax m cx],.int .i64 (x:Int)] wr fun e w' => ∃ a' c',e = .returned (.slice a' L.length c') /\ RdQ w' a' L /\ Below wr.heap.size wr w') := by
            rw [hm]
            exact HQs.out wr x ax cx t L hxl hrdx hvt hL
          rw [<- hm] at s0
          have HT:Hid (VTt (M x) (T x) t /\ L = (keysR 21 t).map (quadOf x) /\ L.length <= 300) := ⟨hvt,hL,by rw [hL,List.length_map]; exact hlt⟩
          have hbxr := H1.out.2.1.below hbq
          have b0 := hbxr.cell 0
          simp at b0
          have bl := hbxr.lt
          clear hvt hlt hgt hL hrdx hm hsm hbq hbw hbxr
          go_wp2_with fail
          (with_reducible refine HQx.out.mono ?_)
          rintro e w3 ⟨a3,c3,rfl,hq3,hb3⟩
          obtain ⟨l3,hl3⟩:∃ l3,l3 = L.length := ⟨_,rfl⟩
          have HL3:Hid (l3 = L.length) := hl3
          have hl33:l3 <= 300 := by rw [hl3]; exact HT.out.2.2
          have H3:Hid (Below w1.heap.size w1 w3 /\ Below w.heap.size w w3 /\ RdQ w3 a3 L) := ⟨HQ.out.2.1.trans (hb3.mono HQ.out.2.1.size),HQ.out.2.2.trans (hb3.mono HQ.out.2.2.size),hq3⟩
          rw [<- hl3]
          clear hq3 hb3 HQx hl3 s0 b0 bl
          by_cases hne:l3 = l0
          · have hned:((l3:Int) != (l0:Int)) = false := by simp [hne]
            have HNe:Hid (l3 = l0) := hne
            clear hne
            go_wp2
            go_loopw [11] (fun i wr => ∃ k:Nat,k <= l3 /\ i = .int .i64 k /\ (∀ y (h:y < L.length),y < k -> L[y] ∈ L0) /\ Below w3.heap.size w3 wr) (fun i _ => l3 - (intOf i).toNat)
            case atStart => exact ⟨0,Nat.zero_le _,rfl,fun y _ hy => absurd hy (Nat.not_lt_zero _),Below.refl _ _⟩
            case round =>
              obtain ⟨k,hk,rfl,hall,hbr⟩ := hrel
              have HK:Hid ((∀ y (h:y < L.length),y < k -> L[y] ∈ L0) /\ Below w1.heap.size w1 wr /\ Below w.heap.size w wr /\ Below w3.heap.size w3 wr) := ⟨hall,H3.out.1.trans (hbr.mono H3.out.1.size),H3.out.2.1.trans (hbr.mono H3.out.2.1.size),hbr⟩
              have k0:(0:Int) <= (k:Int) := by omega
              by_cases hkl:k < l3
              · have k1:(k:Int) < (l3:Int) := by omega
                have hkL:k < L.length := by rw [<- HL3.out]; exact hkl
                rcases H3.out.2.2.below hbr with q | ⟨gb,ea,hc⟩
                · omega
                obtain ⟨s0,s1,s2,s3⟩ := hc k hkL
                obtain ⟨qd,hqd⟩:∃ qd,qd = L[k] := ⟨_,rfl⟩
                have HQd:Hid (L[k] = qd) := hqd.symm
                rw [<- hqd] at s0 s1 s2 s3
                have HHs:Hid (Calls Tryz.prog 43 #[.slice a1 l0 c1,.agg #[.int .i64 qd.s,.int .i64 qd.p,.int .i64 qd.o,.int .i64 qd.g]] wr fun e w' => ∃ b:Bool,e = .returned (.bool b) /\ (b = true ↔ qd ∈ L0) /\ Below wr.heap.size wr w') := l5Has_any a1 l0 c1 L0 qd wr (H1.out.2.2.below HK.out.2.1) HL0.out (by omega)
                subst ea
                clear hc hqd hall hbr
                go_wp2_with fail
                (with_reducible refine HHs.out.mono ?_)
                rintro e w5 ⟨b5,rfl,hb5,hbe5⟩
                have H5:Hid (Below w3.heap.size w3 w5 /\ Below w.heap.size w w5 /\ (b5 = true ↔ qd ∈ L0)) := ⟨HK.out.2.2.2.trans (hbe5.mono HK.out.2.2.2.size),HK.out.2.2.1.trans (hbe5.mono HK.out.2.2.1.size),hb5⟩
                clear hb5 hbe5 HHs
                cases b5 with
                | false =>
                  have HF:Hid (¬ VI 6 M T) := fun q => by
                    have q2 := (q.2.2 x hx1 hxl t t0 HT.out.1 H0.out.1).2
                    have hkt:k < (keysR 21 t).length := by
                      have := HT.out.2.1
                      rw [this,List.length_map] at hkL
                      exact hkL
                    have q3 := q2 _ (List.getElem_mem hkt)
                    have e:L[k] = quadOf x (keysR 21 t)[k] := by
                      have e0 := HT.out.2.1
                      subst e0
                      rw [List.getElem_map]
                    rw [<- e,HQd.out,<- H0.out.2.1] at q3
                    have q4:false = true := H5.out.2.2.2 q3
                    cases q4
                  go_wp2
                  go_ret
                  exact ⟨false,rfl,by simp [HF.out],H5.out.2.1⟩
                | true =>
                  have HN:Hid (∀ y (h:y < L.length),y < k + 1 -> L[y] ∈ L0) := fun y hy hy2 => by
                    by_cases e:y = k
                    · subst e
                      rw [HQd.out]
                      exact H5.out.2.2.1 rfl
                    · exact HK.out.1 y hy (by omega)
                  go_wp2
                  go_roundw
                  case rel => exact ⟨k + 1,by omega,by go_num,HN.out,H5.out.1⟩
                  case measure => simp [intOf]; omega
              · obtain rfl:k = l3 := by omega
                have HN:Hid (∀ q,1 <= q -> q < x + 1 -> SameQ q (M q) (T q) (M 0) (T 0)) := fun q h1 h2 => by
                  by_cases e:q = x
                  · subst e
                    intro t' t0' ht' ht0'
                    rw [vtt1 ht' HT.out.1,vtt1 ht0' H0.out.1]
                    have eL := HT.out.2.1
                    have eL0 := H0.out.2.1
                    have e3 := HL3.out
                    have e0 := HL0.out
                    have ee := HNe.out
                    refine ⟨by rw [eL,List.length_map] at e3; rw [eL0,List.length_map] at e0; omega,fun ky hky => ?_⟩
                    obtain ⟨y,hy,e⟩ := List.getElem_of_mem hky
                    have hyL:y < L.length := by rw [eL,List.length_map]; exact hy
                    have q2 := HK.out.1 y hyL (by omega)
                    rw [<- eL0]
                    have e4:L[y] = quadOf q ky := by
                      subst eL
                      rw [List.getElem_map,e]
                    rw [<- e4]
                    exact q2
                  · exact HQ.out.1 q h1 (by omega)
                clear hall hbr
                go_wp2
                go_roundw
                case rel => exact ⟨x + 1,by omega,by omega,by go_num,HN.out,HK.out.2.1⟩
                case measure => simp [intOf]; omega
          · have hnei:¬ (l3:Int) = (l0:Int) := by omega
            have hned:((l3:Int) != (l0:Int)) = true := by simp; omega
            have HF:Hid (¬ VI 6 M T) := fun q => by
              have q2 := (q.2.2 x hx1 hxl t t0 HT.out.1 H0.out.1).1
              have e3 := HL3.out
              have e0 := HL0.out
              rw [HT.out.2.1,List.length_map] at e3
              rw [H0.out.2.1,List.length_map] at e0
              omega
            go_wp2
            go_ret
            exact ⟨false,rfl,by simp [HF.out],H3.out.2.1⟩
        · obtain rfl:x = 6 := by omega
          have HF:Hid (VI 6 M T) := ⟨rfl,HOk.out,fun i h1 h2 => HQ.out.1 i h1 h2⟩
          clear hsm hbq hbw
          go_wp2
          go_ret
          exact ⟨true,rfl,by simp [HF.out],HQ.out.2.2⟩
end Go.Proofs.YtcnollkkigiobaaGreat
