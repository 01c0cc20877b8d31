package tests

import (
	"bytes"
	"math/rand"
	"testing"

	"loop.example/s01136/impl"
)

// Promise 3: the power may go at any step of a WriteRec, and any of the
// pending writes may be kept: the record is there whole or not at all.

const powerSeq = 258

// olderDisks are disks with an empty cache of which promise 3 speaks, for a
// record of k sectors with powerSeq at a place.
func olderDisks(at int, k int) map[string]impl.Disk {
	r := rand.New(rand.NewSource(9))
	zeros := impl.DiskNew(20)
	random := randomDisk(r, 20, 0)
	same := randomDisk(r, 20, 0)
	lay(same, at, recordSectors(powerSeq-1, bytes.Repeat([]byte{7}, k*48))...)
	shorter := randomDisk(r, 20, 0)
	for i := range k {
		lay(shorter, at+i, recordSectors(uint32(i+1), counted(9))...)
	}
	longer := randomDisk(r, 20, 0)
	long := recordSectors(powerSeq+1, bytes.Repeat([]byte{7}, (k+2)*48))
	lay(longer, at, long[:min(k+2, 20-at)]...)
	disks := map[string]impl.Disk{"zeros": zeros, "random": random, "a record": same, "short records": shorter, "a longer record": longer}
	if k > 1 {
		torn := randomDisk(r, 20, 0)
		lay(torn, at, recordSectors(powerSeq, bytes.Repeat([]byte{7}, k*48))[:k-1]...)
		disks["the same number without its last sector"] = torn
	}
	return disks
}

func TestP3WholeOrNone(t *testing.T) {
	for k := 1; k <= 5; k++ {
		for _, size := range []int{max(0, (k-1)*48+min(1, k-1)), k*48 - 1, k * 48} {
			for _, at := range []int{2, 10, 20 - k} {
				for name, d := range olderDisks(at, k) {
					checkPower(t, name, d, at, counted(size))
				}
			}
		}
	}
}

// checkPower lets the power go at every step, and behind the last.
func checkPower(t *testing.T, name string, d impl.Disk, at int, payload []byte) {
	t.Helper()
	if impl.ReadRec(d, int64(at), powerSeq).Ok {
		t.Fatalf("%s: the promise does not speak of this disk", name)
	}
	k := len(recordSectors(powerSeq, payload))
	steps := k + 1
	if k > 1 {
		steps++
	}
	for fuel := range steps + 1 {
		d.Fuel = int64(fuel)
		gone := impl.WriteRec(d, int64(at), powerSeq, payload)
		if gone.Dead != (fuel < steps) {
			t.Fatalf("%s, %d bytes at %d: fuel %d leaves dead %v", name, len(payload), at, fuel, gone.Dead)
		}
		for _, keep := range keepLists(len(gone.Cache)) {
			back := impl.DiskCrash(gone, keep)
			rec := impl.ReadRec(back, int64(at), powerSeq)
			whole := impl.RecRes{Ok: true, Payload: payload, Sectors: int64(k)}
			if !recEqual(rec, whole) && !recEqual(rec, impl.RecRes{}) {
				t.Fatalf("%s, %d bytes at %d, fuel %d, keep %v: another record", name, len(payload), at, fuel, keep)
			}
			// The last sector is the one that makes the record.
			lastKept := fuel == steps || fuel == steps-1 && keep[0]
			if rec.Ok != lastKept {
				t.Fatalf("%s, %d bytes at %d, fuel %d, keep %v: read %v", name, len(payload), at, fuel, keep, rec.Ok)
			}
			end := (at + k) * 64
			if !bytes.Equal(back.Data[:at*64], d.Data[:at*64]) || !bytes.Equal(back.Data[end:], d.Data[end:]) {
				t.Fatalf("%s, %d bytes at %d, fuel %d, keep %v: a sector outside is changed", name, len(payload), at, fuel, keep)
			}
		}
	}
}

// A record of PayMax bytes: each step, with choices of kept writes by chance.
func TestP3LongestRecord(t *testing.T) {
	r := rand.New(rand.NewSource(10))
	payload := counted(impl.PayMax)
	d := impl.DiskNew(1024)
	for _, fuel := range []int64{0, 1, 2, 300, 623, 624, 625, 626, 627} {
		d.Fuel = fuel
		gone := impl.WriteRec(d, 399, impl.NumMax, payload)
		for range 4 {
			keep := make([]bool, len(gone.Cache))
			for i := range keep {
				keep[i] = r.Intn(8) > 0
			}
			back := impl.DiskCrash(gone, keep)
			rec := impl.ReadRec(back, 399, impl.NumMax)
			lastKept := fuel == 627 || fuel == 626 && keep[0]
			if rec.Ok != lastKept || rec.Ok && !bytes.Equal(rec.Payload, payload) {
				t.Errorf("fuel %d: read %v", fuel, rec.Ok)
			}
			if !bytes.Equal(back.Data[:399*64], d.Data[:399*64]) {
				t.Errorf("fuel %d: a sector outside is changed", fuel)
			}
		}
	}
}

// The super of a generation takes one sector: whole or not at all, the other
// generation's stays.
func TestSuperWholeOrNone(t *testing.T) {
	old := impl.Super{Gen: 4, Area: 1, First: 9}
	for _, next := range []impl.Super{{Gen: 5, Area: 0, First: 12}, {Gen: 3, Area: 0, First: 12}} {
		for fuel := range int64(3) {
			d := impl.WriteSuper(impl.DiskNew(16), old)
			d.Fuel = fuel
			gone := impl.WriteSuper(d, next)
			for _, keep := range keepLists(len(gone.Cache)) {
				want := old
				if next.Gen > old.Gen && (fuel == 2 || fuel == 1 && keep[0]) {
					want = next
				}
				if got := impl.ReadSuper(impl.DiskCrash(gone, keep)); got != (impl.SuperRes{Ok: true, Super: want}) {
					t.Errorf("super %d, fuel %d, keep %v: %+v", next.Gen, fuel, keep, got)
				}
			}
		}
	}
}
