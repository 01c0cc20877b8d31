package tests

import (
	"encoding/binary"
	"fmt"
	"math"
	"math/rand"
	"slices"
	"strings"
	"testing"

	"loop.example/s01136/impl"
)

// Promise 14: on a disk with any contents OpenStore answers StBad, StCorrupt, or StOk with a valid store.
// Promise 15: in a valid store the Refs of every term is the number of times that it stands in the quads, and every
// part of a quad is a term. (checkStore looks for it in every store that is answered with StOk.)

func checkCode(t *testing.T, name string, d impl.Disk, code int64) {
	t.Helper()
	if got := checkOpen(t, name, d); got.Code != code {
		t.Errorf("%s: code %d, not %d", name, got.Code, code)
	}
}

func TestP14UnfitDisks(t *testing.T) {
	for name, d := range invalidDisks() {
		checkCode(t, name, d, impl.StBad)
	}
	s := mustApply(t, formatted(t, 16), add("a p b g"))
	unfit := func(change func(d *impl.Disk)) impl.Disk {
		d := cloneDisk(s.Disk)
		change(&d)
		return d
	}
	checkCode(t, "fit", s.Disk, impl.StOk)
	checkCode(t, "no fuel", unfit(func(d *impl.Disk) { d.Fuel = 0 }), impl.StOk)
	checkCode(t, "the most fuel", unfit(func(d *impl.Disk) { d.Fuel = impl.FuelMax }), impl.StOk)
	checkCode(t, "dead", unfit(func(d *impl.Disk) { d.Dead = true }), impl.StBad)
	checkCode(t, "a write in the cache", unfit(func(d *impl.Disk) { *d = impl.DiskWrite(*d, 15, filled(0)) }), impl.StBad)
	checkCode(t, "a full cache", unfit(func(d *impl.Disk) { fillCache(d, impl.CacheMax) }), impl.StBad)
	checkCode(t, "too much fuel", unfit(func(d *impl.Disk) { d.Fuel = impl.FuelMax + 1 }), impl.StBad)
	checkCode(t, "a byte more", unfit(func(d *impl.Disk) { d.Data = append(d.Data, 0) }), impl.StBad)
	checkCode(t, "zeros and dead", impl.Disk{Data: make([]byte, 16*64), Fuel: -1, Dead: true}, impl.StBad)
}

func TestP14SupersAndAreas(t *testing.T) {
	snapshot := newLedger().snapshot()
	batch := batchBytes([]impl.Change{add("a p b g")})
	good := impl.Super{Gen: 4, Area: 1, First: 7}
	changed := func(change func(d impl.Disk)) impl.Disk {
		d := layLog(16, good, snapshot, batch)
		change(d)
		return d
	}
	checkCode(t, "good", changed(func(d impl.Disk) {}), impl.StOk)
	for _, n := range []int64{16, 17, 1023, 1024} {
		checkCode(t, "zeros", impl.DiskNew(n), impl.StCorrupt)
	}
	wrong := map[string]func(d impl.Disk){
		"no super":                 func(d impl.Disk) { lay(d, 0, filled(0)) },
		"a super in the wrong one": func(d impl.Disk) { lay(d, 0, filled(0), superSector(4, 1, 7)) },
		"a super of area 2":        func(d impl.Disk) { lay(d, 0, superSector(4, 2, 7)) },
		"a super with first 0":     func(d impl.Disk) { lay(d, 0, superSector(4, 1, 0)) },
		"a super too far":          func(d impl.Disk) { lay(d, 0, superSector(impl.NumMax+2, 1, 7)) },
		"a super of another sum":   func(d impl.Disk) { d.Data[60] ^= 1 },
		"the other area":           func(d impl.Disk) { lay(d, 1, superSector(5, 0, 7)) },
		"another first":            func(d impl.Disk) { lay(d, 1, superSector(5, 1, 6)) },
		"the batch as first":       func(d impl.Disk) { lay(d, 1, superSector(5, 1, 8)) },
		"no record":                func(d impl.Disk) { lay(d, 9, filled(0)) },
		"a record of another sum":  func(d impl.Disk) { d.Data[9*64+63] ^= 1 },
		"one sector too late":      func(d impl.Disk) { lay(d, 9, filled(0), recordSectors(7, snapshot)[0]) },
	}
	for name, change := range wrong {
		checkCode(t, name, changed(change), impl.StCorrupt)
	}
	older := changed(func(d impl.Disk) { lay(d, 1, superSector(3, 0, 2)) })
	checkCode(t, "an older super of nothing", older, impl.StOk)
	cut := changed(func(d impl.Disk) { d.Data[10*64+20] ^= 1 })
	checkCode(t, "a batch that is not whole", cut, impl.StOk)
	if got := impl.OpenStore(cut).Store; got.Next != 8 || got.Used != 1 || len(impl.Facts(got)) != 0 {
		t.Errorf("a batch that is not whole: next %d, used %d", got.Next, got.Used)
	}
	// An area of 16 sectors has seven; the two snapshots differ in one byte.
	seven := noted(1, append(manyFacts(9), impl.Fact{S: "s0", P: "p0", O: strings.Repeat("o", 5), G: "h"})...).snapshot()
	eight := noted(1, append(manyFacts(9), impl.Fact{S: "s0", P: "p0", O: strings.Repeat("o", 6), G: "h"})...).snapshot()
	if sectorsFor(seven) != 7 || sectorsFor(eight) != 8 {
		t.Fatalf("snapshots of %d and %d bytes", len(seven), len(eight))
	}
	checkCode(t, "a snapshot to the end of its area", layLog(16, impl.Super{First: 1}, seven), impl.StOk)
	checkCode(t, "a snapshot over the end of its area", layLog(16, impl.Super{First: 1}, eight), impl.StCorrupt)
}

// rawSnapshot is what a payload of a snapshot claims; nothing of it need make sense.
type rawSnapshot struct {
	mark      byte
	next      int64
	termCount int
	terms     []impl.Term
	quadCount int
	quads     []impl.Quad
	behind    string
}

func rawOf(l *ledger) *rawSnapshot {
	d, quads := l.dict(), l.quads()
	return &rawSnapshot{mark: 'S', next: d.Next, termCount: len(d.Terms), terms: d.Terms, quadCount: len(quads), quads: quads}
}

func (r *rawSnapshot) bytes() []byte {
	b := binary.LittleEndian.AppendUint32([]byte{r.mark}, uint32(r.next))
	b = binary.LittleEndian.AppendUint16(b, uint16(r.termCount))
	for _, term := range r.terms {
		b = binary.LittleEndian.AppendUint32(b, uint32(term.Id))
		b = binary.LittleEndian.AppendUint32(b, uint32(term.Refs))
		b = append(append(b, byte(len(term.Text))), term.Text...)
	}
	b = binary.LittleEndian.AppendUint16(b, uint16(r.quadCount))
	for _, q := range r.quads {
		for _, part := range []int64{q.S, q.P, q.O, q.G} {
			b = binary.LittleEndian.AppendUint32(b, uint32(part))
		}
	}
	return append(b, r.behind...)
}

func (r *rawSnapshot) setTerms(terms ...impl.Term) {
	r.terms, r.termCount = terms, len(terms)
}

func (r *rawSnapshot) setQuads(quads ...impl.Quad) {
	r.quads, r.quadCount = quads, len(quads)
}

// The terms of the snapshot that is spoilt: a 1, b 4, g 3, p 2, of the facts a p a g, b p a g.
func TestP14SnapshotsThatAreNotGood(t *testing.T) {
	twoFacts := factsOf("a p a g", "b p a g")
	q1, q2 := impl.Quad{S: 1, P: 2, O: 1, G: 3}, impl.Quad{S: 4, P: 2, O: 1, G: 3}
	a, b, g, p := impl.Term{Id: 1, Text: "a", Refs: 3}, impl.Term{Id: 4, Text: "b", Refs: 1}, impl.Term{Id: 3, Text: "g", Refs: 2}, impl.Term{Id: 2, Text: "p", Refs: 2}
	if got := rawOf(noted(1, twoFacts...)); !slices.Equal(got.quads, []impl.Quad{q1, q2}) || !slices.Equal(got.terms, []impl.Term{a, b, g, p}) {
		t.Fatalf("the test's own snapshot: %+v", got)
	}
	with := func(term impl.Term, change func(term *impl.Term)) impl.Term {
		change(&term)
		return term
	}
	refs := func(term impl.Term, n int64) impl.Term { term.Refs = n; return term }
	id := func(term impl.Term, n int64) impl.Term { term.Id = n; return term }
	wrong := map[string]func(r *rawSnapshot){
		"another mark":               func(r *rawSnapshot) { r.mark = 'B' },
		"no mark":                    func(r *rawSnapshot) { r.mark = 0 },
		"a byte behind":              func(r *rawSnapshot) { r.behind = "\x00" },
		"a quad behind":              func(r *rawSnapshot) { r.quadCount = 1 },
		"a quad too few":             func(r *rawSnapshot) { r.quadCount = 3 },
		"quads without end":          func(r *rawSnapshot) { r.quadCount = 65535 },
		"a term behind":              func(r *rawSnapshot) { r.termCount = 3 },
		"a term too few":             func(r *rawSnapshot) { r.termCount = 5 },
		"terms without end":          func(r *rawSnapshot) { r.termCount = 65535 },
		"next 0":                     func(r *rawSnapshot) { r.next = 0 },
		"next not above all numbers": func(r *rawSnapshot) { r.next = 4 },
		"next above NumMax":          func(r *rawSnapshot) { r.next = impl.NumMax + 1 },
		"next at the end":            func(r *rawSnapshot) { r.next = math.MaxUint32 },
		"terms not ascending":        func(r *rawSnapshot) { r.setTerms(a, b, p, g) },
		"terms by number":            func(r *rawSnapshot) { r.setTerms(a, p, g, b) },
		"a term twice":               func(r *rawSnapshot) { r.setTerms(a, a, b, g, p) },
		"a text twice":               func(r *rawSnapshot) { r.setTerms(a, with(b, func(x *impl.Term) { x.Text = "a" }), g, p) },
		"a number twice":             func(r *rawSnapshot) { r.setTerms(a, id(b, 1), g, p) },
		"number 0":                   func(r *rawSnapshot) { r.setTerms(a, id(b, 0), g, p) },
		"number above next":          func(r *rawSnapshot) { r.setTerms(a, id(b, 5), g, p) },
		"no text":                    func(r *rawSnapshot) { r.setTerms(with(a, func(x *impl.Term) { x.Text = "" }), b, g, p) },
		"a text of 31 bytes": func(r *rawSnapshot) {
			r.setTerms(with(a, func(x *impl.Term) { x.Text = strings.Repeat("a", 31) }), b, g, p)
		},
		"refs one less":                  func(r *rawSnapshot) { r.setTerms(refs(a, 2), b, g, p) },
		"refs one more":                  func(r *rawSnapshot) { r.setTerms(a, b, g, refs(p, 3)) },
		"refs 0":                         func(r *rawSnapshot) { r.setTerms(a, refs(b, 0), g, p) },
		"refs above NumMax":              func(r *rawSnapshot) { r.setTerms(a, refs(b, impl.NumMax+1), g, p) },
		"refs too large by 2 to the 32":  func(r *rawSnapshot) { r.setTerms(a, refs(b, math.MaxUint32), g, p) },
		"a term of no quad":              func(r *rawSnapshot) { r.next = 6; r.setTerms(a, b, g, p, impl.Term{Id: 5, Text: "z", Refs: 1}) },
		"a term of no quad, without use": func(r *rawSnapshot) { r.next = 6; r.setTerms(a, b, g, p, impl.Term{Id: 5, Text: "z"}) },
		"no such term":                   func(r *rawSnapshot) { r.setTerms(a, g, p) },
		"no terms":                       func(r *rawSnapshot) { r.setTerms() },
		"no quads":                       func(r *rawSnapshot) { r.setQuads() },
		"quads descending":               func(r *rawSnapshot) { r.setQuads(q2, q1) },
		"a quad twice":                   func(r *rawSnapshot) { r.setTerms(refs(a, 4), g, p); r.setQuads(q1, q1) },
		"a quad twice, refs of all":      func(r *rawSnapshot) { r.setTerms(refs(a, 5), b, refs(g, 3), refs(p, 3)); r.setQuads(q1, q1, q2) },
		"a quad twice, refs of one":      func(r *rawSnapshot) { r.setQuads(q1, q1, q2) },
		"a part 0":                       func(r *rawSnapshot) { r.setTerms(a, g, p); r.setQuads(impl.Quad{P: 2, O: 1, G: 3}, q1) },
		"a part above NumMax": func(r *rawSnapshot) {
			r.setTerms(a, g, p)
			r.setQuads(q1, impl.Quad{S: impl.NumMax + 1, P: 2, O: 1, G: 3})
		},
		"a part that is no term": func(r *rawSnapshot) {
			r.next = 9
			r.setTerms(a, g, p)
			r.setQuads(q1, impl.Quad{S: 5, P: 2, O: 1, G: 3})
		},
	}
	batch := batchBytes([]impl.Change{add("x y z w")})
	for name, change := range wrong {
		r := rawOf(noted(1, twoFacts...))
		change(r)
		checkCode(t, name, layLog(24, impl.Super{First: 1}, r.bytes()), impl.StCorrupt)
		checkCode(t, name+", and a batch", layLog(24, impl.Super{Gen: 1, Area: 1, First: 5}, r.bytes(), batch), impl.StCorrupt)
	}
	right := map[string]func(r *rawSnapshot){
		"as it is":       func(r *rawSnapshot) {},
		"next at NumMax": func(r *rawSnapshot) { r.next = impl.NumMax },
		"the largest number": func(r *rawSnapshot) {
			r.next = impl.NumMax
			r.setTerms(a, id(b, impl.NumMax-1), g, p)
			r.setQuads(q1, impl.Quad{S: impl.NumMax - 1, P: 2, O: 1, G: 3})
		},
		"one quad": func(r *rawSnapshot) { r.setTerms(refs(a, 2), refs(g, 1), refs(p, 1)); r.setQuads(q1) },
		"none":     func(r *rawSnapshot) { r.setTerms(); r.setQuads() },
		"a text of 30 bytes": func(r *rawSnapshot) {
			r.setTerms(with(a, func(x *impl.Term) { x.Text = strings.Repeat("a", 30) }), b, g, p)
		},
	}
	for name, change := range right {
		r := rawOf(noted(1, twoFacts...))
		change(r)
		checkCode(t, name, layLog(24, impl.Super{First: 1}, r.bytes()), impl.StOk)
	}
}

// As many quads as there may be, and one more, in a snapshot that is right but for that.
func TestP14QuadMax(t *testing.T) {
	l := noted(1, manyFacts(300)...)
	checkCode(t, "300 quads", layLog(1024, impl.Super{First: 1}, l.snapshot()), impl.StOk)
	// The ledger itself refuses one more, so that the quad is put into the claims alone.
	more := rawOf(l)
	extra := impl.Quad{S: more.quads[299].S, P: more.quads[299].P, O: more.quads[299].O, G: more.quads[299].S}
	for i := range more.terms {
		for _, part := range []int64{extra.S, extra.P, extra.O, extra.G} {
			if more.terms[i].Id == part {
				more.terms[i].Refs++
			}
		}
	}
	more.setQuads(sortedIn(append(more.quads, extra), impl.SPOG)...)
	checkCode(t, "301 quads", layLog(1024, impl.Super{First: 1}, more.bytes()), impl.StCorrupt)
}

func TestP14BatchesInTheLog(t *testing.T) {
	snapshot := noted(1, fact("a p b g")).snapshot()
	one := func(change impl.Change) []byte { return batchBytes([]impl.Change{change}) }
	good := one(add("b p a g"))
	twenty := batchBytes(adds(manyFacts(20)...))
	spliced := func(payload []byte, at int, b byte) []byte {
		payload = slices.Clone(payload)
		payload[at] = b
		return payload
	}
	rows := []struct {
		name    string
		payload []byte
		code    int64
	}{
		{"an add", good, impl.StOk},
		{"a delete", one(del("a p b g")), impl.StOk},
		{"20 changes", twenty, impl.StOk},
		{"30 bytes", one(add(strings.Repeat("s", 30) + " p o g")), impl.StOk},
		{"no payload", nil, impl.StCorrupt},
		{"a mark alone", []byte("B"), impl.StCorrupt},
		{"no change", []byte("B\x00"), impl.StCorrupt},
		{"no change and a byte", []byte("B\x00\x00"), impl.StCorrupt},
		{"21 changes", batchBytes(adds(manyFacts(21)...)), impl.StCorrupt},
		{"another mark", spliced(good, 0, 'S'), impl.StCorrupt},
		{"a snapshot", snapshot, impl.StCorrupt},
		{"a change too few", spliced(good, 1, 2), impl.StCorrupt},
		{"a change too many", spliced(twenty, 1, 19), impl.StCorrupt},
		{"neither add nor delete", spliced(good, 2, 2), impl.StCorrupt},
		{"an add by 255", spliced(good, 2, 255), impl.StCorrupt},
		{"a text longer than the rest", spliced(good, 3, 200), impl.StCorrupt},
		{"a last text longer than the rest", spliced(good, 9, 2), impl.StCorrupt},
		{"a last text shorter than the rest", spliced(good, 9, 0), impl.StCorrupt},
		{"a byte behind", append(slices.Clone(good), 0), impl.StCorrupt},
		{"an empty text", batchBytes([]impl.Change{{Add: true, Fact: impl.Fact{S: "s", P: "p", O: "o"}}}), impl.StCorrupt},
		{"31 bytes", one(add(strings.Repeat("s", 31) + " p o g")), impl.StCorrupt},
		{"a quad that is there", one(add("a p b g")), impl.StCorrupt},
		{"a quad that is not", one(del("b p a g")), impl.StCorrupt},
		{"twice in one", batchBytes([]impl.Change{add("x p y g"), add("x p y g")}), impl.StCorrupt},
		{"wrong at its end", batchBytes(append(adds(manyFacts(19)...), del("x y z w"))), impl.StCorrupt},
	}
	for _, row := range rows {
		before, after := one(add("h i j k")), one(del("h i j k"))
		checkCode(t, row.name+", first", layLog(64, impl.Super{First: 1}, snapshot, row.payload, before), row.code)
		checkCode(t, row.name+", in the middle", layLog(64, impl.Super{First: 1}, snapshot, before, row.payload, after), row.code)
		checkCode(t, row.name+", last", layLog(64, impl.Super{Gen: 3, Area: 1, First: 90}, snapshot, before, after, row.payload), row.code)
	}
	full := noted(1, manyFacts(300)...).snapshot()
	checkCode(t, "no room for a quad", layLog(1024, impl.Super{First: 1}, full, one(add("x y z w"))), impl.StCorrupt)
	few := noted(impl.NumMax-2, fact("a a a b")).snapshot()
	checkCode(t, "no number left, none needed", layLog(64, impl.Super{First: 1}, few, one(add("b b b a"))), impl.StOk)
	checkCode(t, "no number left for a term", layLog(64, impl.Super{First: 1}, few, one(add("b b b c"))), impl.StCorrupt)
}

// Every payload that is cut short, and every one with a byte more.
func TestP14Lengths(t *testing.T) {
	snapshot := noted(1, factsOf("a p b g", "b p a h")...).snapshot()
	batch := batchBytes([]impl.Change{add("x p y g"), del("a p b g"), add("long-subject p o g")})
	for n := range len(snapshot) {
		checkCode(t, fmt.Sprint("snapshot cut to ", n), layLog(32, impl.Super{First: 1}, snapshot[:n]), impl.StCorrupt)
	}
	for n := range len(batch) {
		checkCode(t, fmt.Sprint("batch cut to ", n), layLog(32, impl.Super{First: 1}, snapshot, batch[:n]), impl.StCorrupt)
	}
	for b := range 256 {
		checkCode(t, "snapshot and a byte", layLog(32, impl.Super{First: 1}, append(slices.Clone(snapshot), byte(b))), impl.StCorrupt)
		checkCode(t, "batch and a byte", layLog(32, impl.Super{First: 1}, snapshot, append(slices.Clone(batch), byte(b))), impl.StCorrupt)
	}
}

// Payloads of which bytes are changed, under sums that are right.
func TestP14SpoiltPayloads(t *testing.T) {
	codes := map[int64]int{}
	for seed := range int64(3000) {
		r := rand.New(rand.NewSource(500 + seed))
		c := changer{r: r, texts: []string{"a", "b", "cc"}}
		l := newLedger()
		l.apply(c.batch(nil, 6))
		log := [][]byte{l.snapshot()}
		for range r.Intn(4) {
			batch := c.batch(l.facts, 4)
			l.apply(batch)
			log = append(log, batchBytes(batch))
		}
		for range 1 + r.Intn(2) {
			p := log[r.Intn(len(log))]
			at := r.Intn(len(p))
			p[at] = []byte{p[at] + 1, p[at] - 1, 0, 1, 2, 3, 'a', 'b', byte(r.Intn(256))}[r.Intn(9)]
		}
		d := layLog(128, impl.Super{Gen: seed, Area: seed % 2, First: 1 + seed}, log...)
		codes[checkOpen(t, fmt.Sprint("seed ", seed), d).Code]++
	}
	if codes[impl.StOk] < 100 || codes[impl.StCorrupt] < 100 {
		t.Errorf("the test sees too little: %v", codes)
	}
}

// Disks of which bytes are changed, moved or random.
func TestP14SpoiltDisks(t *testing.T) {
	codes := map[int64]int{}
	for seed := range int64(1500) {
		r := rand.New(rand.NewSource(4000 + seed))
		c := changer{r: r, texts: []string{"a", "b", "cc"}}
		s := formatted(t, 16+int64(r.Intn(16)))
		for range r.Intn(6) {
			s = impl.ApplyBatch(s, c.batch(impl.Facts(s), 4)).Store
		}
		d := s.Disk
		n := len(d.Data) / 64
		for range 1 + r.Intn(3) {
			switch r.Intn(4) {
			case 0:
				d.Data[r.Intn(len(d.Data))] ^= byte(1 << r.Intn(8))
			case 1:
				from := r.Intn(n)
				lay(d, r.Intn(n), slices.Clone(d.Data[64*from:64*from+64]))
			case 2:
				lay(d, r.Intn(2), superSector(uint32(r.Intn(4)), byte(r.Intn(3)), uint32(r.Intn(5))))
			default:
				lay(d, r.Intn(n), randomBytes(r, 64))
			}
		}
		codes[checkOpen(t, fmt.Sprint("seed ", seed), d).Code]++
	}
	if codes[impl.StOk] < 100 || codes[impl.StCorrupt] < 100 {
		t.Errorf("the test sees too little: %v", codes)
	}
	r := rand.New(rand.NewSource(6000))
	for range 50 {
		checkCode(t, "random", randomDisk(r, 16+r.Intn(100), 0), impl.StCorrupt)
		checkOpen(t, "random, with a cache", randomDisk(r, 16+r.Intn(100), r.Intn(3)))
	}
}

// wrongStores are stores that are not what OpenStore gives of their disk.
func wrongStores(t *testing.T) map[string]impl.Store {
	s := mustAddAll(t, formatted(t, 64), manyFacts(9))
	with := func(change func(s *impl.Store)) impl.Store {
		c := cloneStore(s)
		change(&c)
		return c
	}
	other := mustApply(t, s, add("x p y g"))
	wrong := map[string]impl.Store{
		"zero":                   {},
		"next one more":          with(func(s *impl.Store) { s.Next++ }),
		"next one less":          with(func(s *impl.Store) { s.Next-- }),
		"used one more":          with(func(s *impl.Store) { s.Used++ }),
		"used one less":          with(func(s *impl.Store) { s.Used-- }),
		"another gen":            with(func(s *impl.Store) { s.Super.Gen += 2 }),
		"another area":           with(func(s *impl.Store) { s.Super.Area = 1 }),
		"another first":          with(func(s *impl.Store) { s.Super.First = 2 }),
		"another number to give": with(func(s *impl.Store) { s.Dict.Next++ }),
		"no terms":               with(func(s *impl.Store) { s.Dict.Terms = nil }),
		"a term less":            with(func(s *impl.Store) { s.Dict.Terms = s.Dict.Terms[1:] }),
		"another text":           with(func(s *impl.Store) { s.Dict.Terms[0].Text = "a" }),
		"other refs":             with(func(s *impl.Store) { s.Dict.Terms[2].Refs++ }),
		"another id":             with(func(s *impl.Store) { s.Dict.Terms[3].Id = 99; s.Dict.Next = 100 }),
		"no trees":               with(func(s *impl.Store) { s.Index.Trees = nil }),
		"a tree less":            with(func(s *impl.Store) { s.Index.Trees = s.Index.Trees[:5] }),
		"a tree more":            with(func(s *impl.Store) { s.Index.Trees = append(s.Index.Trees, impl.TreeNew()) }),
		"trees changed about":    with(func(s *impl.Store) { slices.Reverse(s.Index.Trees) }),
		"no nodes":               with(func(s *impl.Store) { s.Index.Trees[5].Nodes = nil }),
		"another key":            with(func(s *impl.Store) { s.Index.Trees[2].Nodes[1].Keys[0] = "x" }),
		"another count":          with(func(s *impl.Store) { s.Index.Trees[3].Nodes[0].Count++ }),
		"another child":          with(func(s *impl.Store) { s.Index.Trees[4].Nodes[0].Kids[0]++ }),
		"a leaf that is none":    with(func(s *impl.Store) { s.Index.Trees[1].Nodes[1].Leaf = false }),
		"a disk from later":      with(func(s *impl.Store) { s.Disk = cloneDisk(other.Disk) }),
		"contents from later":    with(func(s *impl.Store) { s.Dict, s.Index = cloneDict(other.Dict), cloneIndex(other.Index) }),
		"a dead disk":            with(func(s *impl.Store) { s.Disk.Dead = true }),
		"a write in the cache":   with(func(s *impl.Store) { s.Disk = impl.DiskWrite(s.Disk, 60, filled(1)) }),
		"no disk":                with(func(s *impl.Store) { s.Disk = impl.Disk{} }),
		"fuel -2":                with(func(s *impl.Store) { s.Disk.Fuel = -2 }),
		"a disk that is corrupt": with(func(s *impl.Store) { s.Disk = impl.DiskNew(64) }),
		"a disk and all of it":   {Disk: impl.DiskNew(64), Dict: impl.DictNew(), Index: impl.IndexNew()},
	}
	// The same quads, but put into the trees in another order.
	quads, _ := quadsOf(s.Index.Trees[0], impl.SPOG)
	slices.Reverse(quads)
	wrong["trees of another shape"] = with(func(s *impl.Store) { s.Index = indexOf(quads...) })
	if sameIndex(wrong["trees of another shape"].Index, s.Index) {
		t.Fatalf("the shape is the same")
	}
	return wrong
}

func TestP10WrongStores(t *testing.T) {
	for name, s := range wrongStores(t) {
		was := cloneStore(s)
		if impl.ValidStore(s) {
			t.Errorf("%s: valid", name)
		}
		if got := checkCheckpoint(t, name, s); got.Code != impl.StNone {
			t.Errorf("%s: checkpoint is %d", name, got.Code)
		}
		for _, batch := range [][]impl.Change{nil, {add("q q q q")}, {{}}, make([]impl.Change, 21)} {
			if got := checkApply(t, name, s, batch); got.Code != impl.StNone {
				t.Errorf("%s: batch is %d", name, got.Code)
			}
		}
		if got := impl.Facts(s); len(got) != 0 {
			t.Errorf("%s: facts %q", name, got)
		}
		for _, text := range []string{"all", "v(", ""} {
			if got := impl.Query(s, []byte(text)); !refused(got, impl.RunBadStore) {
				t.Errorf("%s: %q is %+v", name, text, got)
			}
		}
		if !sameStore(s, was) {
			t.Errorf("%s: it is changed", name)
		}
	}
}

func TestP10ValidStores(t *testing.T) {
	s := mustAddAll(t, formatted(t, 64), manyFacts(9))
	for _, fuel := range []int64{-1, 0, 1, impl.FuelMax} {
		s.Disk.Fuel = fuel
		if !impl.ValidStore(s) {
			t.Errorf("fuel %d: not valid", fuel)
		}
	}
	// An empty list and nil are the same.
	s = formatted(t, 16)
	s.Disk.Cache, s.Dict.Terms = []impl.Pend{}, []impl.Term{}
	for i := range s.Index.Trees {
		s.Index.Trees[i].Nodes[0].Keys, s.Index.Trees[i].Nodes[0].Kids = []string{}, []int64{}
	}
	if !impl.ValidStore(s) {
		t.Errorf("empty lists: not valid")
	}
}

// Terms that stand in many places of many quads, and in several places of one.
func TestP15RefsAndParts(t *testing.T) {
	for seed := range int64(40) {
		r := rand.New(rand.NewSource(7000 + seed))
		c := changer{r: r, texts: []string{"a", "b", "ab", "\x00"}[:2+r.Intn(3)]}
		s := formatted(t, 64+int64(r.Intn(64)))
		for i := range 30 {
			name := fmt.Sprintf("seed %d, step %d", seed, i)
			s.Disk.Fuel = int64(r.Intn(40)) - 1
			res := impl.ApplyBatch(s, c.batch(impl.Facts(s), 10))
			if r.Intn(4) == 0 {
				res = impl.Checkpoint(s)
			}
			s = res.Store
			if s.Disk.Dead {
				s = impl.OpenStore(impl.DiskCrash(s.Disk, []bool{true, true, r.Intn(2) == 0})).Store
			}
			checkSound(t, name, s)
			// The same by texts: as often as a term is told by the facts.
			uses := map[string]int64{}
			for _, f := range impl.Facts(s) {
				for _, text := range fourOf(f) {
					uses[text]++
				}
			}
			for _, term := range s.Dict.Terms {
				if term.Refs != uses[term.Text] {
					t.Fatalf("%s: %q stands %d times, Refs are %d", name, term.Text, uses[term.Text], term.Refs)
				}
			}
			if len(uses) != len(s.Dict.Terms) {
				t.Fatalf("%s: %d texts, %d terms", name, len(uses), len(s.Dict.Terms))
			}
		}
	}
}
