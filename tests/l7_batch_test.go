package tests

import (
	"fmt"
	"math/rand"
	"slices"
	"strings"
	"testing"

	"loop.example/s01136/impl"
)

// Promise 10: for a store reached as in 11, ApplyBatch answers the first violation in the order of chapter 7, with
// nothing changed; otherwise, unless it is StFull or StLost, the facts are those before with the changes made, in
// order.
// Promise 12: StFull changes nothing; Query and Facts never change anything.

func TestP10Format(t *testing.T) {
	for _, n := range wildNumbers {
		got := impl.Format(n)
		if n < 16 || n > 1024 {
			if !sameStoreRes(got, impl.StoreRes{Code: impl.StBad}) {
				t.Errorf("format %d: code %d", n, got.Code)
			}
			continue
		}
		d := layLog(int(n), impl.Super{First: 1}, []byte("S\x01\x00\x00\x00\x00\x00\x00\x00"))
		want := impl.Store{Disk: d, Super: impl.Super{First: 1}, Next: 2, Used: 1, Dict: impl.DictNew(), Index: impl.IndexNew()}
		if !sameStoreRes(got, impl.StoreRes{Code: impl.StOk, Store: want}) {
			t.Errorf("format %d: code %d, %+v", n, got.Code, got.Store)
		}
		checkSound(t, "format", got.Store)
		checkOpen(t, "formatted", got.Store.Disk)
	}
}

func TestP10DrawnBatches(t *testing.T) {
	for seed := range int64(40) {
		r := rand.New(rand.NewSource(100 + seed))
		c := changer{r: r, texts: []string{"a", "b", "c", "d", strings.Repeat("e", 30), "\x00", "\xff\n "}}
		s := formatted(t, 16+int64(r.Intn(200)))
		var facts []impl.Fact
		for i := range 25 {
			name := fmt.Sprintf("seed %d, step %d", seed, i)
			if r.Intn(9) == 0 {
				s = checkCheckpoint(t, name, s).Store
				continue
			}
			batch := c.batch(facts, 1+r.Intn(20))
			res := checkApply(t, name, s, batch)
			switch res.Code {
			case impl.StOk:
				facts = plainly(facts, batch)
			case impl.StFull, impl.StExists, impl.StMissing:
			default:
				t.Fatalf("%s: code %d", name, res.Code)
			}
			s = res.Store
			if got := impl.Facts(s); !slices.Equal(got, facts) {
				t.Fatalf("%s: facts %q, not %q", name, got, facts)
			}
		}
	}
}

// wrongChanges are changes that a store of these many facts, which are manyFacts(n), refuses.
func wrongChanges(n int) map[string]impl.Change {
	there := manyFacts(n)[n/2]
	wrong := map[string]impl.Change{
		"exists":  {Add: true, Fact: there},
		"missing": {Fact: fact("s0 p0 s0 nowhere")},
	}
	if n == impl.QuadMax {
		wrong["many"] = impl.Change{Add: true, Fact: fact("s0 p0 s0 g9")}
	}
	for place := range 4 {
		for _, size := range []int{0, 31, 255, 256, 300} {
			for _, isAdd := range []bool{false, true} {
				f := there
				if place%2 == 0 {
					f.G = "nowhere"
				}
				*[]*string{&f.S, &f.P, &f.O, &f.G}[place] = strings.Repeat("t", size)
				wrong[fmt.Sprintf("term %d %d %v", place, size, isAdd)] = impl.Change{Add: isAdd, Fact: f}
			}
		}
	}
	return wrong
}

func codeOf(name string) int64 {
	word, _, _ := strings.Cut(name, " ")
	return map[string]int64{"term": impl.StTerm, "exists": impl.StExists, "missing": impl.StMissing, "many": impl.StMany}[word]
}

// Two violations of all kinds in one batch: the first one decides, wherever it stands.
func TestP10FirstViolation(t *testing.T) {
	for _, n := range []int{7, impl.QuadMax} {
		facts := manyFacts(n)
		s := mustAddAll(t, formatted(t, 1024), facts)
		// Every pair of these leaves the facts as they were.
		var idle []impl.Change
		for _, f := range facts[:3] {
			idle = append(idle, dels(f)[0], adds(f)[0])
		}
		for first, one := range wrongChanges(n) {
			for second, other := range wrongChanges(n) {
				if strings.HasPrefix(first, "term") && strings.HasPrefix(second, "term") && first != second {
					continue
				}
				for at := 0; at <= len(idle); at += 2 {
					batch := append(slices.Insert(slices.Clone(idle), at, one), other)
					name := fmt.Sprintf("%d facts, %s at %d, %s behind it", n, first, at, second)
					got := impl.ApplyBatch(s, batch)
					if got.Code != codeOf(first) || got.At != int64(at) || !sameStore(got.Store, s) {
						t.Fatalf("%s: code %d at %d", name, got.Code, got.At)
					}
				}
			}
			checkApply(t, first, s, []impl.Change{one})
			checkApply(t, first, s, append(slices.Clone(idle), one))
			tooMany := append(make([]impl.Change, 20), one)
			if got := checkApply(t, first, s, tooMany); got.Code != impl.StBatch || got.At != 0 {
				t.Fatalf("%s in a batch of 21: code %d at %d", first, got.Code, got.At)
			}
		}
	}
}

// More than one violation in one change: the order in which they are named decides.
func TestP10OrderInOneChange(t *testing.T) {
	facts := manyFacts(impl.QuadMax)
	s := mustAddAll(t, formatted(t, 1024), facts)
	rows := []struct {
		change impl.Change
		code   int64
	}{
		{impl.Change{Add: true, Fact: impl.Fact{S: facts[0].S, P: facts[0].P, O: facts[0].O}}, impl.StTerm},
		{impl.Change{Fact: impl.Fact{S: "no", P: "no", O: "no", G: strings.Repeat("g", 31)}}, impl.StTerm},
		{impl.Change{}, impl.StTerm},
		{impl.Change{Add: true}, impl.StTerm},
		{impl.Change{Add: true, Fact: facts[299]}, impl.StExists},
		{impl.Change{Fact: fact("no no no no")}, impl.StMissing},
		{impl.Change{Add: true, Fact: fact("no no no no")}, impl.StMany},
		// A fact of terms that are all there, but not together.
		{impl.Change{Fact: impl.Fact{S: facts[0].P, P: facts[0].S, O: facts[0].O, G: facts[0].G}}, impl.StMissing},
	}
	for i, row := range rows {
		if got := checkApply(t, fmt.Sprint("row ", i), s, []impl.Change{row.change}); got.Code != row.code || got.At != 0 {
			t.Errorf("row %d: code %d at %d", i, got.Code, got.At)
		}
	}
}

func TestP10BatchSizes(t *testing.T) {
	s := formatted(t, 200)
	for _, n := range []int{0, 1, 2, 19, 20, 21, 22, 255, 256, 257, 300} {
		want := int64(impl.StOk)
		if n == 0 || n > 20 {
			want = impl.StBatch
		}
		got := checkApply(t, fmt.Sprint(n, " changes"), s, adds(manyFacts(n)...))
		if got.Code != want || got.At != 0 {
			t.Errorf("%d changes: code %d at %d", n, got.Code, got.At)
		}
	}
	if got := checkApply(t, "nil", s, nil); got.Code != impl.StBatch {
		t.Errorf("nil: code %d", got.Code)
	}
}

func TestP10TextLengths(t *testing.T) {
	s := formatted(t, 64)
	for _, size := range []int{0, 1, 2, 29, 30, 31, 255, 256, 257, 286, 512} {
		for place := range 4 {
			for _, b := range []byte{0, 'x', ' ', '\n', 0xff} {
				f := fact("s p o g")
				*[]*string{&f.S, &f.P, &f.O, &f.G}[place] = strings.Repeat(string([]byte{b}), size)
				want := int64(impl.StOk)
				if size == 0 || size > 30 {
					want = impl.StTerm
				}
				got := checkApply(t, fmt.Sprintf("%d bytes at %d", size, place), s, adds(f))
				if got.Code != want {
					t.Fatalf("%d bytes at %d: code %d", size, place, got.Code)
				}
				if want == impl.StOk && !slices.Equal(impl.Facts(got.Store), []impl.Fact{f}) {
					t.Fatalf("%d bytes at %d: facts %q", size, place, impl.Facts(got.Store))
				}
			}
		}
	}
}

// A batch that deletes what it adds; a term that comes again has a number of its own.
func TestP10AddedAndDeleted(t *testing.T) {
	s := formatted(t, 64)
	got := checkApply(t, "there and gone", s, []impl.Change{add("a p a g"), del("a p a g")})
	if got.Code != impl.StOk || len(impl.Facts(got.Store)) != 0 || len(got.Store.Dict.Terms) != 0 || got.Store.Dict.Next != 4 {
		t.Fatalf("there and gone: code %d, %+v", got.Code, got.Store.Dict)
	}
	got = checkApply(t, "and again", got.Store, []impl.Change{add("g a p g"), del("g a p g"), add("g a p g")})
	want := impl.Dict{Next: 10, Terms: []impl.Term{{Id: 8, Text: "a", Refs: 1}, {Id: 7, Text: "g", Refs: 2}, {Id: 9, Text: "p", Refs: 1}}}
	if got.Code != impl.StOk || !sameDict(got.Store.Dict, want) {
		t.Fatalf("and again: code %d, %+v", got.Code, got.Store.Dict)
	}
	got = checkApply(t, "all in one place", got.Store, []impl.Change{add("x x x x"), del("g a p g")})
	want = impl.Dict{Next: 11, Terms: []impl.Term{{Id: 10, Text: "x", Refs: 4}}}
	if got.Code != impl.StOk || !sameDict(got.Store.Dict, want) {
		t.Fatalf("all in one place: code %d, %+v", got.Code, got.Store.Dict)
	}
	got = checkApply(t, "deleted before it is added", got.Store, []impl.Change{del("x x x x"), add("x x x x"), del("x x x x"), del("x x x x")})
	if got.Code != impl.StMissing || got.At != 3 {
		t.Fatalf("deleted twice: code %d at %d", got.Code, got.At)
	}
}

func TestP10QuadMax(t *testing.T) {
	facts := manyFacts(impl.QuadMax)
	s := mustAddAll(t, formatted(t, 1024), facts[:298])
	new1, new2 := add("x p y g"), add("x p z g")
	got := checkApply(t, "298 and three", s, append(adds(facts[298:]...), new1))
	if got.Code != impl.StMany || got.At != 2 {
		t.Fatalf("298 and three: code %d at %d", got.Code, got.At)
	}
	got = checkApply(t, "298 and two", s, adds(facts[298:]...))
	if got.Code != impl.StOk || len(impl.Facts(got.Store)) != 300 {
		t.Fatalf("298 and two: code %d", got.Code)
	}
	s = got.Store
	got = checkApply(t, "one out, two in", s, []impl.Change{dels(facts[7])[0], new1, new2})
	if got.Code != impl.StMany || got.At != 2 {
		t.Fatalf("one out, two in: code %d at %d", got.Code, got.At)
	}
	got = checkApply(t, "one out, one in", s, []impl.Change{dels(facts[7])[0], new1})
	if got.Code != impl.StOk || len(impl.Facts(got.Store)) != 300 {
		t.Fatalf("one out, one in: code %d", got.Code)
	}
	checkCheckpoint(t, "300 quads", got.Store)
}

// As many terms as there can be: four new ones a quad.
func TestP10DictMax(t *testing.T) {
	var facts []impl.Fact
	for i := range 300 {
		facts = append(facts, impl.Fact{S: fmt.Sprint("s", i), P: fmt.Sprint("p", i), O: fmt.Sprint("o", i), G: fmt.Sprint("g", i)})
	}
	s := mustAddAll(t, formatted(t, 1024), facts)
	if len(s.Dict.Terms) != impl.DictMax {
		t.Fatalf("%d terms", len(s.Dict.Terms))
	}
	got := checkApply(t, "one out, one in", s, []impl.Change{dels(facts[0])[0], add("w x y z")})
	if got.Code != impl.StOk || got.Store.Dict.Next != 1205 {
		t.Errorf("one out, one in: code %d, next %d", got.Code, got.Store.Dict.Next)
	}
	if got = checkApply(t, "one more", s, []impl.Change{add("w x y z")}); got.Code != impl.StMany {
		t.Errorf("one more: code %d", got.Code)
	}
}

// Numbers for terms run out: Intern refuses a new term, but not one that is there.
func TestP10NumbersRunOut(t *testing.T) {
	for left := range int64(6) {
		// noted takes four numbers for its fact; so many are left behind them.
		snapshot := noted(impl.NumMax-left-4, fact("a p b g")).snapshot()
		s := checkOpen(t, "few numbers", layLog(32, impl.Super{Gen: 5, Area: 1, First: 9}, snapshot)).Store
		if s.Dict.Next != impl.NumMax-left {
			t.Fatalf("next is %d", s.Dict.Next)
		}
		for fresh, told := range []string{"b p a g", "a p x g", "a x y g", "x y z g", "x y z w"} {
			want := int64(impl.StOk)
			if int64(fresh) > left {
				want = impl.StMany
			}
			got := checkApply(t, told, s, []impl.Change{add("a a a a"), add(told)})
			if got.Code != want || want == impl.StMany && got.At != 1 {
				t.Errorf("%d left, %d new terms: code %d at %d", left, fresh, got.Code, got.At)
			}
		}
	}
}

func TestP12Facts(t *testing.T) {
	told := []string{"b p x g", "a q x g", "a p y g", "a p x h", "a p x g", "aa p x g", "B p x g", "~ p x g"}
	var batch []impl.Change
	for _, one := range told {
		batch = append(batch, add(one))
	}
	s := mustApply(t, formatted(t, 64), batch...)
	want := factsOf("B p x g", "a p x g", "a p x h", "a p y g", "a q x g", "aa p x g", "b p x g", "~ p x g")
	was := cloneStore(s)
	got := impl.Facts(s)
	if !slices.Equal(got, want) {
		t.Fatalf("facts %q", got)
	}
	for i := range got[:cap(got)] {
		got[:cap(got)][i] = impl.Fact{}
	}
	if !sameStore(s, was) || !slices.Equal(impl.Facts(s), want) {
		t.Errorf("the store is changed")
	}
	if got := impl.Facts(formatted(t, 16)); len(got) != 0 {
		t.Errorf("facts of an empty store: %q", got)
	}
}

func TestP12Queries(t *testing.T) {
	for seed := range int64(20) {
		r := rand.New(rand.NewSource(200 + seed))
		s := mustAddAll(t, formatted(t, 256), drawnBooks(r, r.Intn(60)).facts)
		was := cloneStore(s)
		facts := impl.Facts(s)
		b := books{facts: facts}
		for range 40 {
			a := asksOf(r).path(1 + r.Intn(12))
			text := []byte(a.loosely(r))
			got := impl.Query(s, text)
			p := impl.ParsePath(text).Path
			want := impl.RunPlan(p, s.Dict, s.Index, impl.DefaultPlan(p, s.Dict, s.Index))
			if got.Err != impl.RunOk || !slices.Equal(got.Terms, impl.Meaning(p, facts)) {
				t.Fatalf("%s: code %d, %q; not %q", text, got.Err, got.Terms, impl.Meaning(p, facts))
			}
			a.settle(b, nil)
			if _, reads := a.reads(b, nil); got.Reads != want.Reads || got.Reads != reads {
				t.Fatalf("%s: %d reads, not %d and %d", text, got.Reads, want.Reads, reads)
			}
			if !sameStore(s, was) {
				t.Fatalf("%s: the store is changed", text)
			}
		}
	}
}

func TestP12WrongQueries(t *testing.T) {
	s := mustApply(t, formatted(t, 32), add("a p b g"))
	for _, text := range []string{"", " ", "v(", "all all", "all.up(\"p\")", strings.Repeat(" ", 1998) + "all", "v(\"\")", strings.Repeat("(", 70) + "all"} {
		if got := impl.Query(s, []byte(text)); !refused(got, impl.RunBadPath) {
			t.Errorf("%q: %+v", text, got)
		}
		bad := cloneStore(s)
		bad.Next++
		if got := impl.Query(bad, []byte(text)); !refused(got, impl.RunBadStore) {
			t.Errorf("%q of a store that is not valid: %+v", text, got)
		}
	}
	if got := impl.Query(s, []byte(strings.Repeat(" ", 1997)+"all")); got.Err != impl.RunOk || len(got.Terms) != 2 || got.Reads != 1 {
		t.Errorf("the longest text: %+v", got)
	}
}

// wideBatch is a batch whose payload takes k sectors, of texts that begin with the name.
func wideBatch(name string, k int) []impl.Change {
	var batch []impl.Change
	for i := 0; ; i++ {
		f := impl.Fact{S: fmt.Sprint(name, i), P: "p", O: "o", G: "g"}
		batch = append(batch, impl.Change{Add: true, Fact: f})
		for sectorsFor(batchBytes(batch)) < int64(k) && len(f.S) < 30 {
			f.S += "."
			batch[i].Fact = f
		}
		if sectorsFor(batchBytes(batch)) == int64(k) {
			return batch
		}
	}
}

// Used + k equal to M and one above it, and where the snapshot leaves room for k sectors and where it leaves one less.
func TestP12RoomInTheArea(t *testing.T) {
	for n := 16; n <= 24; n++ {
		s := formatted(t, int64(n))
		m := int(areaSize(s.Disk))
		got := checkApply(t, "to the end", s, wideBatch("a", m-1))
		if got.Code != impl.StOk || got.Store.Used != int64(m) || got.Store.Super.Gen != 0 {
			t.Fatalf("%d sectors: code %d, %d used, %+v", n, got.Code, got.Store.Used, got.Store.Super)
		}
		got = checkApply(t, "over the end", s, wideBatch("a", m))
		if got.Code != impl.StFull || !sameStore(got.Store, s) {
			t.Fatalf("%d sectors, over the end: code %d", n, got.Code)
		}
		// All but one sector is used by a batch that undoes itself: a snapshot behind it takes one sector again.
		s = mustApply(t, s, []impl.Change{add("a p b g"), del("a p b g")}...)
		for s.Used < int64(m)-1 {
			s = mustApply(t, s, []impl.Change{add("a p b g"), del("a p b g")}...)
		}
		got = checkApply(t, "a checkpoint ahead", s, wideBatch("a", m-1))
		if got.Code != impl.StOk || got.Store.Used != int64(m) || got.Store.Super != (impl.Super{Gen: 1, Area: 1, First: s.Next}) || got.Store.Next != s.Next+2 {
			t.Fatalf("%d sectors, a checkpoint ahead: code %d, %d used, %+v", n, got.Code, got.Store.Used, got.Store.Super)
		}
		got = checkApply(t, "a checkpoint is not enough", s, wideBatch("a", m))
		if got.Code != impl.StFull || !sameStore(got.Store, s) {
			t.Fatalf("%d sectors, a checkpoint is not enough: code %d", n, got.Code)
		}
		got = checkApply(t, "no checkpoint needed", s, wideBatch("a", 1))
		if got.Code != impl.StOk || got.Store.Super.Gen != 0 || got.Store.Used != int64(m) {
			t.Fatalf("%d sectors, no checkpoint needed: code %d, %+v", n, got.Code, got.Store.Super)
		}
	}
}

// The check goes before what is full.
func TestP12CheckGoesFirst(t *testing.T) {
	s := formatted(t, 16)
	for _, batch := range [][]impl.Change{append(wideBatch("a", 7), del("x y z w")), make([]impl.Change, 21)} {
		if got := checkApply(t, "no room and wrong", s, batch); got.Code == impl.StFull {
			t.Errorf("full before the check")
		}
	}
	last := checkOpen(t, "the last number", layLog(16, impl.Super{First: impl.NumMax}, newLedger().snapshot())).Store
	if got := checkApply(t, "no number and wrong", last, []impl.Change{del("x y z w")}); got.Code != impl.StMissing {
		t.Errorf("no number and wrong: code %d", got.Code)
	}
}

// Next and Gen at NumMax and below: who is refused, and that nothing is changed then.
func TestP12LastNumbers(t *testing.T) {
	for gen := int64(impl.NumMax - 3); gen <= impl.NumMax; gen++ {
		for next := int64(impl.NumMax - 4); next <= impl.NumMax+1; next++ {
			for _, used := range []int{6, 7} {
				name := fmt.Sprintf("gen %d, next %d, used %d", gen, next, used)
				var log [][]byte
				log = append(log, newLedger().snapshot())
				for range used - 1 {
					log = append(log, batchBytes([]impl.Change{add("a p b g"), del("a p b g")}))
				}
				super := impl.Super{Gen: gen, Area: 1, First: next - int64(used)}
				s := checkOpen(t, name, layLog(16, super, log...)).Store
				if s.Next != next || s.Used != int64(used) {
					t.Fatalf("%s: next %d, used %d", name, s.Next, s.Used)
				}
				want := int64(impl.StOk)
				if gen == impl.NumMax || next >= impl.NumMax {
					want = impl.StFull
				}
				if got := checkCheckpoint(t, name, s); got.Code != want || want == impl.StFull && !sameStore(got.Store, s) {
					t.Errorf("%s: checkpoint is %d, not %d", name, got.Code, want)
				}
				want = impl.StOk
				if next >= impl.NumMax-1 || used == 7 && gen == impl.NumMax {
					want = impl.StFull
				}
				if got := checkApply(t, name, s, []impl.Change{add("a p b g")}); got.Code != want || want == impl.StFull && !sameStore(got.Store, s) {
					t.Errorf("%s: batch is %d, not %d", name, got.Code, want)
				}
			}
		}
	}
}

// sizedFacts has 300 facts and 1200 terms of this many bytes together.
func sizedFacts(size int) []impl.Fact {
	var texts []string
	for i := range 1200 {
		each := size*(i+1)/1200 - size*i/1200
		texts = append(texts, fmt.Sprintf("%04d%s", i, strings.Repeat(".", each-4)))
	}
	var facts []impl.Fact
	for four := range slices.Chunk(texts, 4) {
		facts = append(facts, impl.Fact{S: four[0], P: four[1], O: four[2], G: four[3]})
	}
	return facts
}

// A snapshot of PayMax bytes and one of one byte more, and one of as many sectors as the largest area has.
func TestP12LargeSnapshots(t *testing.T) {
	const fixed = 9 + 1200*9 + 300*16
	rows := []struct {
		bytes int
		code  int64
	}{
		{511*48 - 1, impl.StOk}, {511 * 48, impl.StOk}, {511*48 + 1, impl.StFull},
		{impl.PayMax - 1, impl.StFull}, {impl.PayMax, impl.StFull}, {impl.PayMax + 1, impl.StFull},
	}
	for _, row := range rows {
		s := mustAddAll(t, formatted(t, 1024), sizedFacts(row.bytes-fixed))
		l := validLedger(s)
		if l == nil || len(l.snapshot()) != row.bytes {
			t.Fatalf("%d bytes: the test's store is not as it should be", row.bytes)
		}
		got := checkCheckpoint(t, fmt.Sprint(row.bytes, " bytes"), s)
		if got.Code != row.code || row.code == impl.StFull && !sameStore(got.Store, s) {
			t.Errorf("%d bytes: code %d", row.bytes, got.Code)
		}
		// The area is used up by batches that change nothing in the end; then the snapshot has to make room.
		f := impl.Facts(s)[0]
		idle := append(dels(f), adds(f)...)
		for s.Used+sectorsFor(batchBytes(idle)) <= areaSize(s.Disk) {
			s = mustApply(t, s, idle...)
		}
		if res := impl.ApplyBatch(s, idle); res.Code != impl.StFull || !sameStore(res.Store, s) {
			t.Errorf("%d bytes and no room: code %d", row.bytes, res.Code)
		}
	}
}
