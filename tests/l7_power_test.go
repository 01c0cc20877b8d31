package tests

import (
	"bytes"
	"fmt"
	"math/rand"
	"slices"
	"strings"
	"testing"

	"loop.example/s01136/impl"
)

// Promise 11: for every list of batches and checkpoints on a formatted store, every fuel and every choice of kept
// writes at each loss of power: OpenStore then answers StOk, and the facts are those of the batches answered StOk,
// with or without the one answered StLost.
// Promise 13: for a store reached as in 11, Checkpoint changes neither facts nor terms nor numbers; after all quads
// are deleted and a checkpoint is StOk, the store uses one sector, as a formatted one does.

// deed is a batch, or a checkpoint if it has none.
type deed struct {
	name  string
	batch []impl.Change
}

func (d deed) check(t *testing.T, name string, s impl.Store) impl.StoreRes {
	t.Helper()
	if d.batch == nil {
		return checkCheckpoint(t, name, s)
	}
	return checkApply(t, name, s, d.batch)
}

// losses lets the power go at every step of a deed, and gives all disks that may be there when it returns; how often
// it could go is told too.
func losses(t *testing.T, name string, s impl.Store, d deed) ([]impl.Disk, int) {
	t.Helper()
	var disks []impl.Disk
	for fuel := 0; ; fuel++ {
		s.Disk.Fuel = int64(fuel)
		res := d.check(t, fmt.Sprintf("%s, fuel %d", name, fuel), s)
		if res.Code != impl.StLost {
			if res.Code == impl.StOk && res.Store.Disk.Fuel != 0 {
				t.Fatalf("%s: fuel %d leaves %d", name, fuel, res.Store.Disk.Fuel)
			}
			return disks, fuel
		}
		if !res.Store.Disk.Dead || impl.ValidStore(res.Store) {
			t.Fatalf("%s, fuel %d: lost, but the disk lives", name, fuel)
		}
		for _, keep := range keepLists(len(res.Store.Disk.Cache)) {
			disks = append(disks, impl.DiskCrash(res.Store.Disk, keep))
		}
	}
}

func checkFacts(t *testing.T, name string, s impl.Store, may ...[]impl.Fact) {
	t.Helper()
	got := impl.Facts(s)
	if !slices.ContainsFunc(may, func(facts []impl.Fact) bool { return slices.Equal(got, facts) }) {
		t.Fatalf("%s: facts %q, not one of %q", name, got, may)
	}
}

func TestP11EveryStepOfABatch(t *testing.T) {
	for k := 1; k <= 6; k++ {
		s := mustApply(t, formatted(t, 32), add("a p b g"), add("b p c g"))
		before := impl.Facts(s)
		d := deed{name: "batch", batch: append([]impl.Change{del("a p b g")}, wideBatch("w", k)...)}
		after := plainly(before, d.batch)
		name := fmt.Sprintf("batch of %d sectors", sectorsFor(batchBytes(d.batch)))
		disks, steps := losses(t, name, s, d)
		if want := int(sectorsFor(batchBytes(d.batch))) + 2; steps != want && !(k == 1 && steps == 2) {
			t.Fatalf("%s: %d steps", name, steps)
		}
		seen := map[bool]bool{}
		for _, disk := range disks {
			res := checkOpen(t, name, disk)
			if res.Code != impl.StOk {
				t.Fatalf("%s: code %d", name, res.Code)
			}
			checkFacts(t, name, res.Store, before, after)
			seen[slices.Equal(impl.Facts(res.Store), after)] = true
			// What is left of the lost record does not stand in the way of another.
			other := []impl.Change{add("x p y g")}
			for _, next := range []deed{{"checkpoint", nil}, {"short", other}, {"long", append(wideBatch("v", 5), other...)}} {
				if got := next.check(t, name+", then "+next.name, res.Store); got.Code != impl.StOk {
					t.Fatalf("%s, then %s: code %d", name, next.name, got.Code)
				}
			}
		}
		if len(seen) != 2 {
			t.Errorf("%s: it was never there, or always", name)
		}
	}
}

func TestP11EveryStepOfACheckpoint(t *testing.T) {
	for _, facts := range [][]impl.Fact{nil, manyFacts(1), manyFacts(3), manyFacts(7)} {
		s := formatted(t, 40)
		if facts != nil {
			s = mustAddAll(t, s, facts)
		}
		name := fmt.Sprintf("checkpoint of %d facts", len(facts))
		disks, steps := losses(t, name, s, deed{name: "checkpoint"})
		k := int(sectorsFor(validLedger(s).snapshot()))
		if steps != k+4 && !(k == 1 && steps == 4) {
			t.Fatalf("%s: %d steps for %d sectors", name, steps, k)
		}
		areas := map[int64]bool{}
		for _, disk := range disks {
			res := checkOpen(t, name, disk)
			if res.Code != impl.StOk {
				t.Fatalf("%s: code %d", name, res.Code)
			}
			checkFacts(t, name, res.Store, sortedFacts(facts))
			areas[res.Store.Super.Area] = true
			for _, next := range []deed{{"checkpoint", nil}, {"batch", []impl.Change{add("x p y g")}}} {
				if got := next.check(t, name+", then "+next.name, res.Store); got.Code != impl.StOk {
					t.Fatalf("%s, then %s: code %d", name, next.name, got.Code)
				}
			}
		}
		if len(areas) != 2 {
			t.Errorf("%s: only one area ever counts", name)
		}
	}
}

// A checkpoint ahead of a batch: in what is lost at a step of the checkpoint the store is the one before it, in what
// is lost at a step of the record it is the one behind the checkpoint.
func TestP11EveryStepOfACheckpointAhead(t *testing.T) {
	s := mustApply(t, formatted(t, 24), add("a p b g"))
	before := impl.Facts(s)
	for s.Used < areaSize(s.Disk) {
		s = mustApply(t, s, del("a p b g"), add("a p b g"))
	}
	for k := 1; k <= 6; k++ {
		d := deed{name: "batch", batch: wideBatch("w", k)}
		name := fmt.Sprintf("checkpoint ahead of %d sectors", k)
		disks, steps := losses(t, name, s, d)
		snapshot := int(sectorsFor(validLedger(s).snapshot()))
		ofCheckpoint, ofRecord := snapshot+4, k+2
		if k == 1 {
			ofRecord = 2
		}
		if snapshot < 2 || steps != ofCheckpoint+ofRecord {
			t.Fatalf("%s: %d steps, not %d and %d", name, steps, ofCheckpoint, ofRecord)
		}
		for fuel := range steps {
			live := cloneStore(s)
			live.Disk.Fuel = int64(fuel)
			lost := impl.ApplyBatch(live, d.batch)
			isBehind := lost.Store.Super == impl.Super{Gen: 1, Area: 1, First: s.Next} && lost.Store.Next == s.Next+1
			isBefore := lost.Store.Super == s.Super && lost.Store.Next == s.Next && lost.Store.Used == s.Used
			if fuel < ofCheckpoint && !isBefore || fuel >= ofCheckpoint && !isBehind {
				t.Fatalf("%s, fuel %d: super %+v, next %d", name, fuel, lost.Store.Super, lost.Store.Next)
			}
		}
		seen := map[int]bool{}
		for _, disk := range disks {
			res := checkOpen(t, name, disk)
			if res.Code != impl.StOk {
				t.Fatalf("%s: code %d", name, res.Code)
			}
			checkFacts(t, name, res.Store, before, plainly(before, d.batch))
			seen[len(impl.Facts(res.Store))] = true
		}
		if len(seen) != 2 {
			t.Errorf("%s: it was never there, or always", name)
		}
	}
}

// All disks that a few deeds can lead to, the power going at every step of each of them and any writes kept: what one
// loss leaves behind, the next ones find.
func TestP11LossAfterLoss(t *testing.T) {
	deeds := []deed{
		{"checkpoint", nil},
		{"long", []impl.Change{add("subject-one predicate object graph"), add("subject-two predicate object graph")}},
		{"short", []impl.Change{add("a p b g")}},
		{"gone", []impl.Change{del("a p b g")}},
	}
	level := []impl.Disk{formatted(t, 16).Disk}
	known := map[string]bool{string(level[0].Data): true}
	for depth := range 6 {
		var below []impl.Disk
		keep := func(disk impl.Disk) {
			if !known[string(disk.Data)] {
				known[string(disk.Data)] = true
				below = append(below, disk)
			}
		}
		for _, disk := range level {
			s := impl.OpenStore(disk).Store
			before := impl.Facts(s)
			for _, d := range deeds {
				name := fmt.Sprintf("depth %d, %s", depth, d.name)
				disks, _ := losses(t, name, s, d)
				after := plainly(before, d.batch)
				for _, back := range disks {
					res := impl.OpenStore(back)
					if res.Code != impl.StOk {
						t.Fatalf("%s: code %d", name, res.Code)
					}
					checkFacts(t, name, res.Store, before, after)
					keep(back)
				}
				if res := d.check(t, name, s); res.Code == impl.StOk {
					checkFacts(t, name, res.Store, after)
					keep(res.Store.Disk)
				}
			}
		}
		level = below
	}
	if len(known) < 1000 {
		t.Errorf("only %d disks", len(known))
	}
}

// Long histories on small disks: batches of all sizes, checkpoints, and losses of power by chance.
func TestP11Histories(t *testing.T) {
	codes := map[int64]int{}
	for seed := range int64(60) {
		r := rand.New(rand.NewSource(300 + seed))
		c := changer{r: r, texts: []string{"a", "b", "c", "dd", strings.Repeat("e", 30)}}
		s := formatted(t, 16+int64(r.Intn(60)))
		var facts []impl.Fact
		for i := range 60 {
			name := fmt.Sprintf("seed %d, step %d", seed, i)
			s.Disk.Fuel = []int64{-1, -1, int64(r.Intn(14)), int64(r.Intn(70))}[r.Intn(4)]
			d := deed{batch: c.batch(facts, 1+r.Intn(8))}
			if r.Intn(5) == 0 {
				d = deed{}
			}
			res := d.check(t, name, s)
			codes[res.Code]++
			may := [][]impl.Fact{facts}
			if res.Code == impl.StOk {
				may = [][]impl.Fact{plainly(facts, d.batch)}
			}
			s = res.Store
			if res.Code == impl.StLost || r.Intn(10) == 0 {
				if res.Code == impl.StLost {
					may = append(may, plainly(facts, d.batch))
				}
				keep := make([]bool, r.Intn(len(s.Disk.Cache)+2))
				for i := range keep {
					keep[i] = r.Intn(2) == 0
				}
				back := checkOpen(t, name, impl.DiskCrash(s.Disk, keep))
				if back.Code != impl.StOk {
					t.Fatalf("%s: code %d after the loss", name, back.Code)
				}
				s = back.Store
			}
			checkFacts(t, name, s, may...)
			facts = impl.Facts(s)
		}
	}
	for _, code := range []int64{impl.StOk, impl.StFull, impl.StLost, impl.StExists, impl.StMissing} {
		if codes[code] == 0 {
			t.Errorf("code %d was never answered", code)
		}
	}
}

func TestP13Checkpoint(t *testing.T) {
	for seed := range int64(30) {
		r := rand.New(rand.NewSource(400 + seed))
		c := changer{r: r, texts: []string{"a", "b", "c", "d", "e", "f", strings.Repeat("g", 30)}}
		s := formatted(t, 200)
		for i := range 12 {
			name := fmt.Sprintf("seed %d, step %d", seed, i)
			s = impl.ApplyBatch(s, c.batch(impl.Facts(s), 20)).Store
			got := checkCheckpoint(t, name, s)
			if got.Code != impl.StOk {
				t.Fatalf("%s: code %d", name, got.Code)
			}
			if !slices.Equal(impl.Facts(got.Store), impl.Facts(s)) || !sameDict(got.Store.Dict, s.Dict) {
				t.Fatalf("%s: facts or terms are changed", name)
			}
			super := impl.Super{Gen: s.Super.Gen + 1, Area: 1 - s.Super.Area, First: s.Next}
			if got.Store.Super != super || got.Store.Next != s.Next+1 || got.Store.Used != sectorsFor(validLedger(s).snapshot()) {
				t.Fatalf("%s: super %+v, next %d, used %d", name, got.Store.Super, got.Store.Next, got.Store.Used)
			}
			s = got.Store
		}
	}
}

func TestP13AllDeleted(t *testing.T) {
	for _, n := range []int{1, 2, 19, 20, 21, 100, 300} {
		facts := manyFacts(n)
		s := mustAddAll(t, formatted(t, 1024), facts)
		rand.New(rand.NewSource(int64(n))).Shuffle(n, func(i, j int) { facts[i], facts[j] = facts[j], facts[i] })
		for part := range slices.Chunk(facts, impl.BatchMax) {
			s = mustApply(t, s, dels(part...)...)
		}
		next := s.Dict.Next
		got := checkCheckpoint(t, fmt.Sprint(n, " facts deleted"), s)
		if got.Code != impl.StOk || got.Store.Used != 1 || got.Store.Used != formatted(t, 16).Used {
			t.Errorf("%d facts deleted: code %d, %d used", n, got.Code, got.Store.Used)
		}
		if len(impl.Facts(got.Store)) != 0 || len(got.Store.Dict.Terms) != 0 || got.Store.Dict.Next != next || next < 4 {
			t.Errorf("%d facts deleted: %+v", n, got.Store.Dict)
		}
		if !sameIndex(got.Store.Index, impl.IndexNew()) {
			t.Errorf("%d facts deleted: the index is not empty", n)
		}
	}
}

// The bytes of a checkpoint and of a batch behind it, laid out by hand.
func TestP13Bytes(t *testing.T) {
	s := mustApply(t, formatted(t, 16), add("x p x g"), add("b p x g"), del("b p x g"))
	s = impl.Checkpoint(s).Store
	s = mustApply(t, s, add("x x p g"), del("x p x g"))
	snapshot := "S\x05\x00\x00\x00\x03\x00" + "\x03\x00\x00\x00\x01\x00\x00\x00\x01g" + "\x02\x00\x00\x00\x01\x00\x00\x00\x01p" +
		"\x01\x00\x00\x00\x02\x00\x00\x00\x01x" + "\x01\x00" + "\x01\x00\x00\x00\x02\x00\x00\x00\x01\x00\x00\x00\x03\x00\x00\x00"
	batch := "B\x02" + "\x01\x01x\x01x\x01p\x01g" + "\x00\x01x\x01p\x01x\x01g"
	want := layLog(16, impl.Super{Gen: 1, Area: 1, First: 3}, []byte(snapshot), []byte(batch))
	if !bytes.Equal(s.Disk.Data[64:128], want.Data[64:128]) || !bytes.Equal(s.Disk.Data[9*64:], want.Data[9*64:]) {
		t.Errorf("the disk is not as laid out by hand")
	}
	// And what is laid out by hand is a store.
	got := checkOpen(t, "by hand", want)
	if got.Code != impl.StOk || !slices.Equal(impl.Facts(got.Store), factsOf("x x p g")) || got.Store.Used != 3 || got.Store.Next != 5 {
		t.Errorf("by hand: code %d, %q, used %d, next %d", got.Code, impl.Facts(got.Store), got.Store.Used, got.Store.Next)
	}
}

// What stands in the other area from elsewhere is not what a formatted store leaves there; the answer is then what
// the disk opens as.
func TestLeftoversBehindACheckpoint(t *testing.T) {
	good := batchBytes([]impl.Change{add("left p over g")})
	rows := []struct {
		name     string
		leftover [][]byte
		code     int64
		facts    int
	}{
		{"no batch", [][]byte{[]byte("nonsense")}, impl.StCorrupt, 0},
		{"a batch that does not pass", [][]byte{batchBytes([]impl.Change{del("left p over g")})}, impl.StCorrupt, 0},
		{"a batch", [][]byte{good}, impl.StOk, 1},
		{"a batch and nonsense", [][]byte{good, {}}, impl.StCorrupt, 0},
	}
	for _, row := range rows {
		var log [][]byte
		log = append(log, newLedger().snapshot())
		for range 6 {
			log = append(log, batchBytes([]impl.Change{add("a p b g"), del("a p b g")}))
		}
		d := layLog(16, impl.Super{First: 1}, log...)
		// Seven records: a checkpoint has number 8, what stands behind it 9.
		layRecords(d, 10, 9, row.leftover...)
		s := checkOpen(t, row.name, d).Store
		got := checkCheckpoint(t, row.name, s)
		if got.Code != row.code || len(impl.Facts(got.Store)) != row.facts {
			t.Errorf("%s: checkpoint is %d, %d facts", row.name, got.Code, len(impl.Facts(got.Store)))
		}
		got = checkApply(t, row.name, s, []impl.Change{add("x p y g")})
		if got.Code != row.code {
			t.Errorf("%s: batch is %d", row.name, got.Code)
		}
		// Behind the leftover there is less room than there was to be.
		for k := 1; k <= 6; k++ {
			checkApply(t, fmt.Sprintf("%s, batch of %d sectors", row.name, k), s, wideBatch("w", k))
		}
	}
}
