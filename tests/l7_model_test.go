package tests

import (
	"bytes"
	"encoding/binary"
	"maps"
	"math/rand"
	"slices"
	"testing"

	"loop.example/s01136/impl"
)

// ledger is a store told a second way: the facts are a plain list, from which the uses of the terms are counted anew
// whenever they are asked for.
type ledger struct {
	disk  impl.Disk
	super impl.Super
	next  int64
	used  int64
	facts []impl.Fact
	ids   map[string]int64 // of the terms that stand in a fact
	top   int64            // the next number for a term
	trees *sixLevels
}

func newLedger() *ledger {
	return &ledger{ids: map[string]int64{}, top: 1, trees: newSixLevels()}
}

func fourOf(f impl.Fact) []string {
	return []string{f.S, f.P, f.O, f.G}
}

func (l *ledger) quad(f impl.Fact) impl.Quad {
	return impl.Quad{S: l.ids[f.S], P: l.ids[f.P], O: l.ids[f.O], G: l.ids[f.G]}
}

func (l *ledger) uses() map[string]int64 {
	uses := map[string]int64{}
	for _, f := range l.facts {
		for _, text := range fourOf(f) {
			uses[text]++
		}
	}
	return uses
}

func (l *ledger) dict() impl.Dict {
	d := impl.Dict{Next: l.top}
	uses := l.uses()
	for _, text := range slices.Sorted(maps.Keys(uses)) {
		d.Terms = append(d.Terms, impl.Term{Id: l.ids[text], Text: text, Refs: uses[text]})
	}
	return d
}

func (l *ledger) quads() []impl.Quad {
	var quads []impl.Quad
	for _, f := range l.facts {
		quads = append(quads, l.quad(f))
	}
	return sortedIn(quads, impl.SPOG)
}

func (l *ledger) store() impl.Store {
	return impl.Store{Disk: cloneDisk(l.disk), Super: l.super, Next: l.next, Used: l.used, Dict: l.dict(), Index: l.trees.index()}
}

// change makes a change, or tells why not; then the ledger is of no use any more.
func (l *ledger) change(c impl.Change) int64 {
	for _, text := range fourOf(c.Fact) {
		if len(text) == 0 || len(text) > 30 {
			return impl.StTerm
		}
	}
	at := slices.Index(l.facts, c.Fact)
	switch {
	case c.Add && at >= 0:
		return impl.StExists
	case !c.Add && at < 0:
		return impl.StMissing
	case !c.Add:
		l.trees.remove(l.quad(c.Fact))
		l.facts = slices.Delete(l.facts, at, at+1)
		uses := l.uses()
		maps.DeleteFunc(l.ids, func(text string, id int64) bool { return uses[text] == 0 })
		return impl.StOk
	case len(l.facts) == 300:
		return impl.StMany
	}
	for _, text := range fourOf(c.Fact) {
		if l.ids[text] > 0 {
			continue
		}
		if l.top == 2000000000 || len(l.ids) == 1200 {
			return impl.StMany
		}
		l.ids[text] = l.top
		l.top++
	}
	l.facts = append(l.facts, c.Fact)
	l.trees.insert(l.quad(c.Fact))
	return impl.StOk
}

func (l *ledger) apply(batch []impl.Change) (int64, int64) {
	if len(batch) == 0 || len(batch) > 20 {
		return impl.StBatch, 0
	}
	for i, c := range batch {
		if code := l.change(c); code != impl.StOk {
			return code, int64(i)
		}
	}
	return impl.StOk, 0
}

func (l *ledger) snapshot() []byte {
	d, quads := l.dict(), l.quads()
	b := binary.LittleEndian.AppendUint32([]byte("S"), uint32(d.Next))
	b = binary.LittleEndian.AppendUint16(b, uint16(len(d.Terms)))
	for _, term := range d.Terms {
		b = binary.LittleEndian.AppendUint32(b, uint32(term.Id))
		b = binary.LittleEndian.AppendUint32(b, uint32(term.Refs))
		b = append(append(b, byte(len(term.Text))), term.Text...)
	}
	b = binary.LittleEndian.AppendUint16(b, uint16(len(quads)))
	for _, q := range quads {
		for _, part := range []int64{q.S, q.P, q.O, q.G} {
			b = binary.LittleEndian.AppendUint32(b, uint32(part))
		}
	}
	return b
}

func batchBytes(batch []impl.Change) []byte {
	b := []byte{'B', byte(len(batch))}
	for _, c := range batch {
		b = append(b, map[bool]byte{true: 1}[c.Add])
		for _, text := range fourOf(c.Fact) {
			b = append(append(b, byte(len(text))), text...)
		}
	}
	return b
}

// piecemeal takes bytes off its front; it panics where there are none.
type piecemeal []byte

func (p *piecemeal) bytes(n int64) []byte {
	taken := (*p)[:n:n]
	*p = (*p)[n:]
	return taken
}

func (p *piecemeal) number(width int64) int64 {
	return int64(binary.LittleEndian.Uint64(append(p.bytes(width), make([]byte, 8-width)...)))
}

func (p *piecemeal) text() string {
	return string(p.bytes(p.number(1)))
}

// ledgerOf gives the ledger of a good snapshot, or nil: what a payload claims is taken as it stands, and the snapshot
// of what comes of it must be the payload again.
func ledgerOf(payload []byte) (l *ledger) {
	defer func() {
		if recover() != nil {
			l = nil
		}
	}()
	rest := piecemeal(bytes.Clone(payload[1:]))
	l = newLedger()
	l.top = rest.number(4)
	texts := map[int64]string{}
	for range rest.number(2) {
		id, _, text := rest.number(4), rest.number(4), rest.text()
		if id < 1 || id >= l.top || len(text) < 1 || len(text) > 30 || texts[id] != "" {
			return nil
		}
		texts[id], l.ids[text] = text, id
	}
	for range rest.number(2) {
		f := impl.Fact{S: texts[rest.number(4)], P: texts[rest.number(4)], O: texts[rest.number(4)], G: texts[rest.number(4)]}
		if slices.Contains(fourOf(f), "") || slices.Contains(l.facts, f) {
			return nil
		}
		l.facts = append(l.facts, f)
		l.trees.insert(l.quad(f))
	}
	if l.top < 1 || l.top > 2000000000 || len(l.facts) > 300 || !bytes.Equal(l.snapshot(), payload) {
		return nil
	}
	return l
}

// batchOf gives the batch that has this payload, or nil.
func batchOf(payload []byte) (batch []impl.Change) {
	defer func() {
		if recover() != nil {
			batch = nil
		}
	}()
	rest := piecemeal(bytes.Clone(payload[1:]))
	for range rest.number(1) {
		add := rest.number(1)
		batch = append(batch, impl.Change{Add: add == 1, Fact: impl.Fact{S: rest.text(), P: rest.text(), O: rest.text(), G: rest.text()}})
	}
	if !bytes.Equal(batchBytes(batch), payload) {
		return nil
	}
	return batch
}

// openLedger gives nil beside a code that is not StOk.
func openLedger(d impl.Disk) (*ledger, int64) {
	if !impl.ValidDisk(d) || d.Dead || len(d.Cache) > 0 {
		return nil, impl.StBad
	}
	found := impl.ReadSuper(d)
	area := impl.ReadArea(d, found.Super.Area, found.Super.First)
	if !found.Ok || !area.Ok {
		return nil, impl.StCorrupt
	}
	l := ledgerOf(area.Payloads[0].Data)
	if l == nil {
		return nil, impl.StCorrupt
	}
	for _, p := range area.Payloads[1:] {
		if code, _ := l.apply(batchOf(p.Data)); code != impl.StOk {
			return nil, impl.StCorrupt
		}
	}
	l.disk, l.super, l.next, l.used = d, found.Super, area.Next, area.Used
	return l, impl.StOk
}

func wantOpen(d impl.Disk) impl.StoreRes {
	l, code := openLedger(d)
	if code != impl.StOk {
		return impl.StoreRes{Code: code}
	}
	return impl.StoreRes{Code: code, Store: l.store()}
}

// validLedger gives nil if the store is not what its disk opens as.
func validLedger(s impl.Store) *ledger {
	l, code := openLedger(s.Disk)
	if code != impl.StOk || !sameStore(l.store(), s) {
		return nil
	}
	return l
}

func areaSize(d impl.Disk) int64 {
	return (int64(len(d.Data))/64 - 2) / 2
}

func sectorsFor(payload []byte) int64 {
	return max(1, (int64(len(payload))+47)/48)
}

func wantFull(s impl.Store) impl.StoreRes {
	return impl.StoreRes{Code: impl.StFull, Store: cloneStore(s)}
}

// wantAfter is the answer behind steps that began at s and left the disk d.
func wantAfter(s impl.Store, d impl.Disk) impl.StoreRes {
	if !d.Dead {
		return wantOpen(d)
	}
	lost := cloneStore(s)
	lost.Disk = d
	return impl.StoreRes{Code: impl.StLost, Store: lost}
}

func wantCheckpoint(s impl.Store) impl.StoreRes {
	l := validLedger(s)
	if l == nil {
		return impl.StoreRes{}
	}
	payload := l.snapshot()
	if len(payload) > 30000 || sectorsFor(payload) > areaSize(s.Disk) || l.super.Gen == 2000000000 || l.next >= 2000000000 {
		return wantFull(s)
	}
	other := 1 - l.super.Area
	d := impl.WriteRec(s.Disk, 2+other*areaSize(s.Disk), l.next, payload)
	return wantAfter(s, impl.WriteSuper(d, impl.Super{Gen: l.super.Gen + 1, Area: other, First: l.next}))
}

func wantApply(s impl.Store, batch []impl.Change) impl.StoreRes {
	l := validLedger(s)
	if l == nil {
		return impl.StoreRes{}
	}
	snapshot := l.snapshot()
	if code, at := l.apply(batch); code != impl.StOk {
		return impl.StoreRes{Code: code, At: at, Store: cloneStore(s)}
	}
	payload := batchBytes(batch)
	m, k := areaSize(s.Disk), sectorsFor(payload)
	if s.Next >= 1999999999 {
		return wantFull(s)
	}
	if s.Used+k > m {
		if sectorsFor(snapshot)+k > m {
			return wantFull(s)
		}
		made := wantCheckpoint(s)
		if made.Code != impl.StOk {
			return made
		}
		s = made.Store
	}
	return wantAfter(s, impl.WriteRec(s.Disk, 2+s.Super.Area*m+s.Used, s.Next, payload))
}

func cloneStore(s impl.Store) impl.Store {
	s.Disk, s.Dict, s.Index = cloneDisk(s.Disk), cloneDict(s.Dict), cloneIndex(s.Index)
	return s
}

func sameStore(a, b impl.Store) bool {
	return sameDisk(a.Disk, b.Disk) && a.Super == b.Super && a.Next == b.Next && a.Used == b.Used &&
		sameDict(a.Dict, b.Dict) && sameIndex(a.Index, b.Index)
}

func spoilStore(s impl.Store) {
	spoil(s.Disk)
	spoilDict(s.Dict)
	spoilIndex(s.Index)
}

func sameStoreRes(a, b impl.StoreRes) bool {
	return a.Code == b.Code && a.At == b.At && sameStore(a.Store, b.Store)
}

// checkStore holds the answer to a call against what is wanted, and looks whose memory the answer has. It gives the
// store of the answer.
func checkStore(t *testing.T, name string, s impl.Store, call func(s impl.Store) impl.StoreRes, want impl.StoreRes) impl.Store {
	t.Helper()
	was := cloneStore(s)
	got := call(s)
	if !sameStoreRes(got, want) {
		t.Fatalf("%s: code %d at %d, super %+v, next %d, used %d, dict %+v; not code %d at %d, super %+v, next %d, used %d, dict %+v", name,
			got.Code, got.At, got.Store.Super, got.Store.Next, got.Store.Used, got.Store.Dict,
			want.Code, want.At, want.Store.Super, want.Store.Next, want.Store.Used, want.Store.Dict)
	}
	told := cloneStore(got.Store)
	spoilStore(got.Store)
	if !sameStore(s, was) {
		t.Fatalf("%s: the argument is changed or shares memory with the answer", name)
	}
	if got.Code == impl.StOk {
		checkSound(t, name, told)
	}
	return told
}

// checkSound is promise 15, and that the store is valid.
func checkSound(t *testing.T, name string, s impl.Store) {
	t.Helper()
	if !impl.ValidStore(s) {
		t.Fatalf("%s: the store is not valid", name)
	}
	uses := map[int64]int64{}
	quads, _ := quadsOf(s.Index.Trees[0], impl.SPOG)
	for _, q := range quads {
		for _, part := range []int64{q.S, q.P, q.O, q.G} {
			uses[part]++
		}
	}
	for _, term := range s.Dict.Terms {
		if term.Refs != uses[term.Id] {
			t.Fatalf("%s: %q stands %d times, Refs are %d", name, term.Text, uses[term.Id], term.Refs)
		}
		delete(uses, term.Id)
	}
	if len(uses) > 0 {
		t.Fatalf("%s: parts of quads that are no terms: %v", name, uses)
	}
}

// checkApply gives the whole answer, for a test that says more of it.
func checkApply(t *testing.T, name string, s impl.Store, batch []impl.Change) impl.StoreRes {
	t.Helper()
	was := slices.Clone(batch)
	want := wantApply(s, batch)
	told := checkStore(t, name, s, func(s impl.Store) impl.StoreRes { return impl.ApplyBatch(s, batch) }, want)
	if !slices.Equal(batch, was) {
		t.Fatalf("%s: the batch is changed", name)
	}
	return impl.StoreRes{Code: want.Code, At: want.At, Store: told}
}

func checkCheckpoint(t *testing.T, name string, s impl.Store) impl.StoreRes {
	t.Helper()
	want := wantCheckpoint(s)
	return impl.StoreRes{Code: want.Code, Store: checkStore(t, name, s, impl.Checkpoint, want)}
}

func checkOpen(t *testing.T, name string, d impl.Disk) impl.StoreRes {
	t.Helper()
	want := wantOpen(d)
	s := impl.Store{Disk: d}
	told := checkStore(t, name, s, func(s impl.Store) impl.StoreRes { return impl.OpenStore(s.Disk) }, want)
	return impl.StoreRes{Code: want.Code, Store: told}
}

// mustApply is a batch that is to be StOk.
func mustApply(t *testing.T, s impl.Store, batch ...impl.Change) impl.Store {
	t.Helper()
	res := impl.ApplyBatch(s, batch)
	if res.Code != impl.StOk {
		t.Fatalf("a batch of %d: code %d at %d", len(batch), res.Code, res.At)
	}
	return res.Store
}

// mustAddAll adds facts in batches as large as they may be.
func mustAddAll(t *testing.T, s impl.Store, facts []impl.Fact) impl.Store {
	t.Helper()
	for part := range slices.Chunk(facts, impl.BatchMax) {
		s = mustApply(t, s, adds(part...)...)
	}
	return s
}

func formatted(t *testing.T, n int64) impl.Store {
	t.Helper()
	res := impl.Format(n)
	if res.Code != impl.StOk {
		t.Fatalf("format %d: code %d", n, res.Code)
	}
	return res.Store
}

func add(told string) impl.Change {
	return impl.Change{Add: true, Fact: fact(told)}
}

func del(told string) impl.Change {
	return impl.Change{Fact: fact(told)}
}

func adds(facts ...impl.Fact) []impl.Change {
	var batch []impl.Change
	for _, f := range facts {
		batch = append(batch, impl.Change{Add: true, Fact: f})
	}
	return batch
}

func dels(facts ...impl.Fact) []impl.Change {
	batch := adds(facts...)
	for i := range batch {
		batch[i].Add = false
	}
	return batch
}

func compareFacts(a, b impl.Fact) int {
	return slices.Compare(fourOf(a), fourOf(b))
}

func sortedFacts(facts []impl.Fact) []impl.Fact {
	sorted := slices.Clone(facts)
	slices.SortFunc(sorted, compareFacts)
	return sorted
}

// plainly makes the changes in a plain list of facts.
func plainly(facts []impl.Fact, batch []impl.Change) []impl.Fact {
	facts = slices.Clone(facts)
	for _, c := range batch {
		if c.Add {
			facts = append(facts, c.Fact)
		} else {
			facts = slices.DeleteFunc(facts, func(f impl.Fact) bool { return f == c.Fact })
		}
	}
	return sortedFacts(facts)
}

// layLog lays the disk of a store out by hand: its super, and in its area the payloads one behind the other.
func layLog(n int, s impl.Super, payloads ...[]byte) impl.Disk {
	d := impl.DiskNew(int64(n))
	lay(d, int(s.Gen%2), superSector(uint32(s.Gen), byte(s.Area), uint32(s.First)))
	layRecords(d, int(2+s.Area*areaSize(d)), s.First, payloads...)
	return d
}

func layRecords(d impl.Disk, at int, first int64, payloads ...[]byte) {
	for i, p := range payloads {
		secs := recordSectors(uint32(first+int64(i)), p)
		lay(d, at, secs...)
		at += len(secs)
	}
}

// noted is the ledger of facts that were added in this order.
func noted(top int64, facts ...impl.Fact) *ledger {
	l := newLedger()
	l.top = top
	for _, f := range facts {
		l.change(impl.Change{Add: true, Fact: f})
	}
	return l
}

// changer draws changes over few texts, so that facts come again.
type changer struct {
	r     *rand.Rand
	texts []string
}

func (c changer) fact() impl.Fact {
	draw := func() string { return c.texts[c.r.Intn(len(c.texts))] }
	return impl.Fact{S: draw(), P: draw(), O: draw(), G: draw()}
}

// batch draws changes that can be made, in order, of these facts, and spoils one of them now and then.
func (c changer) batch(facts []impl.Fact, most int) []impl.Change {
	var batch []impl.Change
	for range 1 + c.r.Intn(most) {
		next := impl.Change{Add: true, Fact: c.fact()}
		if len(facts) > 0 && c.r.Intn(3) == 0 {
			next.Fact = facts[c.r.Intn(len(facts))]
		}
		next.Add = !slices.Contains(facts, next.Fact)
		batch = append(batch, next)
		facts = plainly(facts, batch[len(batch)-1:])
	}
	if c.r.Intn(8) == 0 {
		at := c.r.Intn(len(batch))
		batch[at].Add = !batch[at].Add
	}
	return batch
}
