package tests

import (
	"bytes"
	"math/rand"
	"testing"

	"loop.example/s01136/impl"
)

// Promise 1: the functions of chapter 1 are exactly as it says.

func TestP1DiskNew(t *testing.T) {
	for _, n := range []int64{16, 17, 500, 1023, 1024} {
		d := impl.DiskNew(n)
		want := impl.Disk{Data: make([]byte, n*64), Fuel: -1}
		if !sameDisk(d, want) || !impl.ValidDisk(d) {
			t.Errorf("a disk of %d sectors: %d bytes, fuel %d, dead %v", n, len(d.Data), d.Fuel, d.Dead)
		}
	}
	for _, n := range wildNumbers {
		if (n < 16 || n > 1024) && !isZeroDisk(impl.DiskNew(n)) {
			t.Errorf("a disk of %d sectors is not the zero disk", n)
		}
	}
	spoil(impl.DiskNew(16))
	if !bytes.Equal(impl.DiskNew(16).Data, make([]byte, 1024)) {
		t.Errorf("two new disks share memory")
	}
}

func TestP1ValidDisk(t *testing.T) {
	for name, d := range invalidDisks() {
		if impl.ValidDisk(d) {
			t.Errorf("%s: valid", name)
		}
	}
	for _, n := range []int64{16, 17, 1024} {
		for _, fuel := range []int64{-1, 0, 1, impl.FuelMax} {
			for _, entries := range []int{0, 1, impl.CacheMax} {
				for _, dead := range []bool{false, true} {
					d := impl.DiskNew(n)
					d.Fuel, d.Dead = fuel, dead
					fillCache(&d, entries)
					if !impl.ValidDisk(d) {
						t.Errorf("%d sectors, fuel %d, %d pending, dead %v: not valid", n, fuel, entries, dead)
					}
				}
			}
		}
	}
}

func TestP1DiskRead(t *testing.T) {
	d := impl.DiskNew(16)
	lay(d, 0, filled(1), filled(2), filled(3))
	lay(d, 15, filled(4))
	d.Cache = []impl.Pend{{Sector: 1, Data: filled(5)}, {Sector: 2, Data: filled(6)}, {Sector: 1, Data: filled(7)}}
	d.Fuel = 0
	d.Dead = true
	want := map[int64]byte{0: 1, 1: 7, 2: 6, 3: 0, 14: 0, 15: 4}
	for s, x := range want {
		got := impl.DiskRead(d, s)
		if !bytes.Equal(got, filled(x)) {
			t.Errorf("sector %d reads % x, want %d everywhere", s, got, x)
		}
		invert(got)
		if !bytes.Equal(impl.DiskRead(d, s), filled(x)) {
			t.Errorf("sector %d: the answer shares memory with the disk", s)
		}
	}
	for _, s := range wildNumbers {
		if got := impl.DiskRead(d, s); (s < 0 || s > 15) && len(got) != 0 {
			t.Errorf("sector %d reads %d bytes", s, len(got))
		}
	}
	for name, bad := range invalidDisks() {
		for _, s := range []int64{0, 3, 15} {
			if got := impl.DiskRead(bad, s); len(got) != 0 {
				t.Errorf("%s: sector %d reads %d bytes", name, s, len(got))
			}
		}
	}
}

func TestP1DiskWrite(t *testing.T) {
	d := impl.DiskNew(16)
	for _, fuel := range []int64{-1, 1, 2, impl.FuelMax} {
		d.Fuel = fuel
		for _, s := range []int64{0, 7, 15} {
			want := cloneDisk(d)
			want.Cache = append(want.Cache, impl.Pend{Sector: s, Data: counted(64)})
			want.Fuel = max(fuel-1, -1)
			if got := impl.DiskWrite(d, s, counted(64)); !sameDisk(got, want) {
				t.Errorf("fuel %d, sector %d: %+v", fuel, s, got)
			}
		}
	}
	d.Fuel = 0
	want := cloneDisk(d)
	want.Dead = true
	if got := impl.DiskWrite(d, 3, filled(1)); !sameDisk(got, want) {
		t.Errorf("without fuel: fuel %d, dead %v, %d pending", got.Fuel, got.Dead, len(got.Cache))
	}
}

func TestP1DiskWriteRefused(t *testing.T) {
	for _, fuel := range []int64{-1, 0, 5} {
		d := randomDisk(rand.New(rand.NewSource(1)), 16, 3)
		d.Fuel = fuel
		for _, s := range wildNumbers {
			if s < 0 || s > 15 {
				checkUnchanged(t, "sector out of bounds", d, impl.DiskWrite(d, s, filled(1)))
			}
		}
		for _, size := range []int{0, 1, 63, 65, 128} {
			checkUnchanged(t, "data of a wrong length", d, impl.DiskWrite(d, 2, make([]byte, size)))
		}
		fillCache(&d, impl.CacheMax)
		checkUnchanged(t, "full cache", d, impl.DiskWrite(d, 2, filled(1)))
		d.Dead = true
		checkUnchanged(t, "dead and full", d, impl.DiskWrite(d, 2, filled(1)))
		d.Cache = d.Cache[:5]
		checkUnchanged(t, "dead", d, impl.DiskWrite(d, 2, filled(1)))
	}
	for name, bad := range invalidDisks() {
		checkUnchanged(t, name, bad, impl.DiskWrite(bad, 2, filled(1)))
	}
}

func TestP1CacheFillsUp(t *testing.T) {
	d := impl.DiskNew(16)
	fillCache(&d, impl.CacheMax-1)
	d.Fuel = 10
	d = impl.DiskWrite(d, 4, filled(200))
	if len(d.Cache) != impl.CacheMax || d.Fuel != 9 || !bytes.Equal(impl.DiskRead(d, 4), filled(200)) {
		t.Fatalf("the last place: %d pending, fuel %d", len(d.Cache), d.Fuel)
	}
	d = impl.DiskWrite(d, 4, filled(201))
	if len(d.Cache) != impl.CacheMax || d.Fuel != 9 || !bytes.Equal(impl.DiskRead(d, 4), filled(200)) {
		t.Errorf("behind the last place: %d pending, fuel %d", len(d.Cache), d.Fuel)
	}
}

func TestP1DiskSync(t *testing.T) {
	r := rand.New(rand.NewSource(2))
	for _, fuel := range []int64{-1, 0, 1, 2, impl.FuelMax} {
		for _, entries := range []int{0, 1, 40, impl.CacheMax} {
			d := randomDisk(r, 17, entries)
			d.Fuel = fuel
			want := impl.Disk{Data: allKept(d), Fuel: max(fuel-1, -1)}
			if fuel == 0 {
				want = cloneDisk(d)
				want.Dead = true
			}
			if got := impl.DiskSync(d); !sameDisk(got, want) {
				t.Errorf("fuel %d, %d pending: fuel %d, dead %v, %d pending", fuel, entries, got.Fuel, got.Dead, len(got.Cache))
			}
			d.Dead = true
			checkUnchanged(t, "sync of a dead disk", d, impl.DiskSync(d))
		}
	}
	for name, bad := range invalidDisks() {
		checkUnchanged(t, name, bad, impl.DiskSync(bad))
	}
}

// allKept are the sectors of a disk as a reader sees them.
func allKept(d impl.Disk) []byte {
	data := bytes.Clone(d.Data)
	for _, p := range d.Cache {
		copy(data[p.Sector*64:p.Sector*64+64], p.Data)
	}
	return data
}

func TestP1DiskCrash(t *testing.T) {
	d := impl.DiskNew(16)
	lay(d, 2, filled(9), filled(8))
	d.Cache = []impl.Pend{{Sector: 2, Data: filled(1)}, {Sector: 3, Data: filled(2)}, {Sector: 2, Data: filled(3)}, {Sector: 15, Data: filled(4)}}
	for _, fuel := range []int64{-1, 0, 7} {
		for _, dead := range []bool{false, true} {
			d.Fuel, d.Dead = fuel, dead
			for entries := range 7 {
				for _, keep := range keepLists(entries) {
					want := impl.DiskNew(16)
					copy(want.Data, d.Data)
					for i := range min(entries, len(d.Cache)) {
						if keep[i] {
							lay(want, int(d.Cache[i].Sector), d.Cache[i].Data)
						}
					}
					if got := impl.DiskCrash(d, keep); !sameDisk(got, want) {
						t.Errorf("fuel %d, dead %v, keep %v: wrong disk", fuel, dead, keep)
					}
				}
			}
		}
	}
	for name, bad := range invalidDisks() {
		if got := impl.DiskCrash(bad, []bool{true, true}); !isZeroDisk(got) {
			t.Errorf("%s: a disk comes back", name)
		}
	}
}

// checkUnchanged wants got to be a copy of d in memory of its own.
func checkUnchanged(t *testing.T, what string, d, got impl.Disk) {
	t.Helper()
	before := cloneDisk(d)
	if !sameDisk(got, d) {
		t.Errorf("%s: changed", what)
	}
	spoil(got)
	if !sameDisk(d, before) {
		t.Errorf("%s: the answer shares memory with the argument", what)
	}
}

func TestP1NewMemory(t *testing.T) {
	r := rand.New(rand.NewSource(3))
	d := randomDisk(r, 16, 6)
	data := counted(64)
	keep := []bool{true, false, true, true}
	before := cloneDisk(d)
	answers := map[string]func() impl.Disk{
		"write": func() impl.Disk { return impl.DiskWrite(d, 5, data) },
		"sync":  func() impl.Disk { return impl.DiskSync(d) },
		"crash": func() impl.Disk { return impl.DiskCrash(d, keep) },
	}
	for name, call := range answers {
		spoil(call())
		if !sameDisk(d, before) || !bytes.Equal(data, counted(64)) || !keep[0] || keep[1] || !keep[2] || !keep[3] {
			t.Errorf("%s: the answer shares memory with an argument", name)
		}
	}
	shared := impl.Pend{Sector: 4, Data: filled(3)}
	d.Cache = []impl.Pend{shared, shared}
	got := impl.DiskWrite(d, 4, shared.Data)
	invert(got.Cache[0].Data)
	if !bytes.Equal(got.Cache[1].Data, filled(3)) || !bytes.Equal(got.Cache[2].Data, filled(3)) {
		t.Errorf("two writes of one answer share memory")
	}
}

// A walk of random calls, held against a disk kept by the test.
func TestP1Walk(t *testing.T) {
	r := rand.New(rand.NewSource(4))
	for walk := range 200 {
		n := 16 + r.Intn(5)
		d := impl.DiskNew(int64(n))
		d.Fuel = int64(r.Intn(40)) - 1
		want := cloneDisk(d)
		for step := range 40 {
			switch what := r.Intn(12); {
			case what < 8:
				s, data := int64(r.Intn(n+2)-1), randomBytes(r, []int{63, 64, 64, 64, 64, 64, 64, 65}[r.Intn(8)])
				d = impl.DiskWrite(d, s, data)
				want = modelWrite(want, s, data)
			case what < 11:
				d = impl.DiskSync(d)
				want = modelSync(want)
			default:
				keep := keepLists(5)[r.Intn(32)]
				d = impl.DiskCrash(d, keep)
				want = modelCrash(want, keep)
				d.Fuel = int64(r.Intn(40)) - 1
				want.Fuel = d.Fuel
			}
			if !sameDisk(d, want) {
				t.Fatalf("walk %d, step %d: the disks part", walk, step)
			}
			if s := r.Intn(n); !bytes.Equal(impl.DiskRead(d, int64(s)), allKept(want)[s*64:s*64+64]) {
				t.Fatalf("walk %d, step %d: sector %d reads otherwise", walk, step, s)
			}
		}
	}
}

func modelWrite(d impl.Disk, s int64, data []byte) impl.Disk {
	c := cloneDisk(d)
	if d.Dead || s < 0 || s >= int64(len(d.Data)/64) || len(data) != 64 || len(d.Cache) == impl.CacheMax {
		return c
	}
	if d.Fuel == 0 {
		c.Dead = true
		return c
	}
	c.Fuel = max(d.Fuel-1, -1)
	c.Cache = append(c.Cache, impl.Pend{Sector: s, Data: bytes.Clone(data)})
	return c
}

func modelSync(d impl.Disk) impl.Disk {
	c := cloneDisk(d)
	if d.Dead {
		return c
	}
	if d.Fuel == 0 {
		c.Dead = true
		return c
	}
	return impl.Disk{Data: allKept(d), Fuel: max(d.Fuel-1, -1)}
}

func modelCrash(d impl.Disk, keep []bool) impl.Disk {
	c := cloneDisk(d)
	c.Cache = nil
	for i, p := range d.Cache {
		if i < len(keep) && keep[i] {
			c.Cache = append(c.Cache, p)
		}
	}
	return impl.Disk{Data: allKept(c), Fuel: -1}
}
