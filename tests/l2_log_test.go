package tests

import (
	"bytes"
	"hash/crc32"
	"math/rand"
	"testing"

	"loop.example/s01136/impl"
)

// Promise 2: ReadRec gives a record back from where WriteRec wrote it; and
// what chapter 2 says besides, of records, areas and supers.

var edgeSizes = []int{0, 1, 47, 48, 49, 95, 96, 97, 480, 29999, impl.PayMax}

var edgeSeqs = []int64{1, 2, 255, 256, 65536, 16777216, impl.NumMax - 1, impl.NumMax}

func TestCrc32(t *testing.T) {
	if got := impl.Crc32([]byte("123456789")); got != 0xcbf43926 {
		t.Errorf("of the nine digits: %x", got)
	}
	if got := impl.Crc32(nil); got != 0 {
		t.Errorf("of nothing: %x", got)
	}
	r := rand.New(rand.NewSource(5))
	for size := range 300 {
		b := randomBytes(r, size)
		if got, want := impl.Crc32(b), crc32.ChecksumIEEE(b); got != want {
			t.Errorf("of % x: %x, want %x", b, got, want)
		}
	}
}

func TestRecSectors(t *testing.T) {
	for n := range int64(impl.PayMax + 1) {
		k := impl.RecSectors(n)
		if k < 1 || k*48 < n || k > 1 && (k-1)*48 >= n {
			t.Errorf("%d bytes take %d sectors", n, k)
		}
	}
	for _, n := range append([]int64{impl.PayMax + 1, impl.PayMax + 48}, wildNumbers...) {
		if got := impl.RecSectors(n); (n < 0 || n > impl.PayMax) && got != 0 {
			t.Errorf("%d bytes take %d sectors", n, got)
		}
	}
}

func TestP2RecordsComeBack(t *testing.T) {
	r := rand.New(rand.NewSource(6))
	for _, n := range []int64{16, 17, 1024} {
		for _, size := range edgeSizes {
			k := impl.RecSectors(int64(size))
			if k > n-2 {
				continue
			}
			for _, at := range []int64{2, (n - k + 2) / 2, n - k} {
				for _, seq := range edgeSeqs {
					checkComesBack(t, randomDisk(r, int(n), 0), at, seq, counted(size))
				}
				checkComesBack(t, randomDisk(r, int(n), 30), at, 1, counted(size))
			}
		}
	}
}

// checkComesBack gives the disk just the fuel that the record's steps need.
func checkComesBack(t *testing.T, d impl.Disk, at int64, seq int64, payload []byte) {
	t.Helper()
	k := impl.RecSectors(int64(len(payload)))
	d.Fuel = k + 1
	if k > 1 {
		d.Fuel++
	}
	before := cloneDisk(d)
	got := impl.WriteRec(d, at, seq, payload)
	want := impl.Disk{Data: allKept(d)}
	lay(want, int(at), recordSectors(uint32(seq), payload)...)
	if !sameDisk(got, want) {
		t.Fatalf("record %d of %d bytes at %d: fuel %d, dead %v, wrong disk", seq, len(payload), at, got.Fuel, got.Dead)
	}
	if rec := impl.ReadRec(got, at, seq); !recEqual(rec, impl.RecRes{Ok: true, Payload: payload, Sectors: k}) {
		t.Fatalf("record %d of %d bytes at %d: read %v, %d bytes, %d sectors", seq, len(payload), at, rec.Ok, len(rec.Payload), rec.Sectors)
	}
	other := seq%impl.NumMax + 1
	if rec := impl.ReadRec(got, at, other); !recEqual(rec, impl.RecRes{}) {
		t.Fatalf("record %d read as %d", seq, other)
	}
	if !sameDisk(d, before) || !bytes.Equal(payload, counted(len(payload))) {
		t.Fatalf("an argument is changed")
	}
}

// A WriteRec is a row of the steps of chapter 1, also where the fuel ends or
// the cache takes no more.
func TestP2StepsOfWriteRec(t *testing.T) {
	for _, size := range []int{0, 48, 49, 96, 200} {
		secs := recordSectors(77, counted(size))
		for _, pending := range []int{0, 1, impl.CacheMax - 2, impl.CacheMax - 1, impl.CacheMax} {
			for fuel := int64(-1); fuel < int64(len(secs))+4; fuel++ {
				for _, dead := range []bool{false, true} {
					d := impl.DiskNew(20)
					fillCache(&d, pending)
					d.Fuel, d.Dead = fuel, dead
					want := stepByStep(d, 6, secs)
					if got := impl.WriteRec(d, 6, 77, counted(size)); !sameDisk(got, want) {
						t.Errorf("%d bytes, %d pending, fuel %d, dead %v: fuel %d, dead %v, %d pending", size, pending, fuel, dead, got.Fuel, got.Dead, len(got.Cache))
					}
				}
			}
		}
	}
}

func stepByStep(d impl.Disk, at int, secs [][]byte) impl.Disk {
	last := len(secs) - 1
	for i, sec := range secs {
		if i == last && i > 0 {
			d = modelSync(d)
		}
		d = modelWrite(d, int64(at+i), sec)
	}
	return modelSync(d)
}

func TestP2WriteRecRefused(t *testing.T) {
	r := rand.New(rand.NewSource(7))
	for _, fuel := range []int64{-1, 0, 3} {
		d := randomDisk(r, 16, 2)
		d.Fuel = fuel
		for _, seq := range wildNumbers {
			if seq < 1 || seq > impl.NumMax {
				checkUnchanged(t, "seq out of bounds", d, impl.WriteRec(d, 2, seq, counted(50)))
			}
		}
		for _, at := range wildNumbers {
			if at < 2 || at > 14 {
				checkUnchanged(t, "place out of bounds", d, impl.WriteRec(d, at, 5, counted(50)))
			}
			if at < 2 || at > 15 {
				checkUnchanged(t, "place out of bounds", d, impl.WriteRec(d, at, 5, nil))
			}
		}
		checkUnchanged(t, "longer than the disk", d, impl.WriteRec(d, 2, 5, counted(14*48+1)))
		d.Dead = true
		checkUnchanged(t, "dead", d, impl.WriteRec(d, 2, 5, counted(50)))
	}
	big := impl.DiskNew(1024)
	checkUnchanged(t, "payload too long", big, impl.WriteRec(big, 2, 5, make([]byte, impl.PayMax+1)))
	for name, bad := range invalidDisks() {
		checkUnchanged(t, name, bad, impl.WriteRec(bad, 2, 5, counted(50)))
		if rec := impl.ReadRec(bad, 2, 5); !recEqual(rec, impl.RecRes{}) {
			t.Errorf("%s: a record is read", name)
		}
	}
}

func TestP2NewMemory(t *testing.T) {
	d := impl.DiskNew(16)
	d.Cache = []impl.Pend{{Sector: 9, Data: filled(1)}}
	d.Fuel = 2
	before := cloneDisk(d)
	payload := counted(100)
	spoil(impl.WriteRec(d, 2, 5, payload))
	if !sameDisk(d, before) || !bytes.Equal(payload, counted(100)) {
		t.Errorf("WriteRec's answer shares memory with an argument")
	}
	d.Fuel = -1
	d = impl.WriteRec(impl.WriteRec(d, 2, 5, payload), 5, 6, payload)
	before = cloneDisk(d)
	invert(impl.ReadRec(d, 2, 5).Payload)
	area := impl.ReadArea(d, 0, 5)
	invert(area.Payloads[0].Data)
	if !sameDisk(d, before) || !bytes.Equal(area.Payloads[1].Data, payload) {
		t.Errorf("a payload that is read shares memory")
	}
	spoil(impl.WriteSuper(d, impl.Super{Gen: 1, First: 1}))
	if !sameDisk(d, before) {
		t.Errorf("WriteSuper's answer shares memory with an argument")
	}
}

func TestReadRecPlaces(t *testing.T) {
	d := impl.DiskNew(16)
	lay(d, 0, recordSectors(9, counted(16*48))...)
	if rec := impl.ReadRec(d, 0, 9); !recEqual(rec, impl.RecRes{Ok: true, Payload: counted(16 * 48), Sectors: 16}) {
		t.Errorf("a record over the whole disk is not read")
	}
	lay(d, 15, recordSectors(10, nil)...)
	if rec := impl.ReadRec(d, 15, 10); !recEqual(rec, impl.RecRes{Ok: true, Sectors: 1}) {
		t.Errorf("a record in the last sector is not read")
	}
	for _, at := range wildNumbers {
		if rec := impl.ReadRec(d, at, 10); at != 15 && !recEqual(rec, impl.RecRes{}) {
			t.Errorf("a record at %d", at)
		}
	}
	for _, seq := range wildNumbers {
		if rec := impl.ReadRec(d, 15, seq); !recEqual(rec, impl.RecRes{}) {
			t.Errorf("a record with the number %d", seq)
		}
	}
	lay(d, 15, recordSectors(11, counted(49))[0])
	if impl.ReadRec(d, 15, 11).Ok {
		t.Errorf("a record that goes over the disk's end is read")
	}
	for _, seq := range []uint32{0, impl.NumMax + 1} {
		lay(d, 3, recordSectors(seq, counted(5))...)
		if impl.ReadRec(d, 3, int64(seq)).Ok {
			t.Errorf("a record with the number %d is read", seq)
		}
	}
}

// ReadRec sees what DiskRead tells: the cache before the data.
func TestReadRecOfCache(t *testing.T) {
	secs := recordSectors(9, counted(100))
	d := impl.DiskNew(16)
	lay(d, 4, secs...)
	d = impl.DiskWrite(d, 5, filled(1))
	if impl.ReadRec(d, 4, 9).Ok {
		t.Errorf("a sector overwritten in the cache is not seen")
	}
	d = impl.DiskWrite(d, 5, secs[1])
	d.Dead = true
	if rec := impl.ReadRec(d, 4, 9); !recEqual(rec, impl.RecRes{Ok: true, Payload: counted(100), Sectors: 3}) {
		t.Errorf("a sector put back in the cache is not seen")
	}
}

func TestReadRecOfBrokenSectors(t *testing.T) {
	for _, size := range []int{0, 20, 48, 49, 96, 97} {
		d := impl.DiskNew(16)
		secs := recordSectors(0x01020304, counted(size))
		lay(d, 3, secs...)
		for i := 3 * 64; i < (3+len(secs))*64; i++ {
			for bit := range 8 {
				d.Data[i] ^= 1 << bit
				if rec := impl.ReadRec(d, 3, 0x01020304); !recEqual(rec, impl.RecRes{}) {
					t.Errorf("%d bytes: read with bit %d of byte %d turned", size, bit, i-3*64)
				}
				d.Data[i] ^= 1 << bit
			}
		}
	}
}

// Sectors with a right checksum that are none of a record all the same.
func TestReadRecOfSealedNonsense(t *testing.T) {
	full := counted(48)
	marked := func(mark string) []byte {
		sec := recordSector(5, 0, 1, 3, full[:3])
		copy(sec[10:], mark)
		return sealed(sec[:60])
	}
	nonsense := map[string][][]byte{
		"no sectors":              {recordSector(5, 0, 0, 0, nil)},
		"wrong mark":              {marked("R2")},
		"the super's mark":        {marked("Q1")},
		"another index":           {recordSector(5, 1, 1, 3, full[:3])},
		"another seq":             {recordSector(6, 0, 1, 3, full[:3])},
		"a piece of 49":           {recordSector(5, 0, 1, 49, full)},
		"a piece of 65535":        {recordSector(5, 0, 1, 65535, full)},
		"bytes behind the piece":  {recordSector(5, 0, 1, 3, full[:4])},
		"a short first piece":     {recordSector(5, 0, 2, 47, full[:47]), recordSector(5, 1, 2, 3, full[:3])},
		"an empty first piece":    {recordSector(5, 0, 2, 0, nil), recordSector(5, 1, 2, 3, full[:3])},
		"a short middle piece":    {recordSector(5, 0, 3, 48, full), recordSector(5, 1, 3, 1, full[:1]), recordSector(5, 2, 3, 1, full[:1])},
		"an empty last piece":     {recordSector(5, 0, 2, 48, full), recordSector(5, 1, 2, 0, nil)},
		"two counts":              {recordSector(5, 0, 2, 48, full), recordSector(5, 1, 3, 3, full[:3])},
		"two seqs":                {recordSector(5, 0, 2, 48, full), recordSector(4, 1, 2, 3, full[:3])},
		"one index twice":         {recordSector(5, 0, 2, 48, full), recordSector(5, 0, 2, 3, full[:3])},
		"an index behind the end": {recordSector(5, 0, 2, 48, full), recordSector(5, 2, 2, 3, full[:3])},
		"a sector missing":        {recordSector(5, 0, 2, 48, full)},
	}
	for name, secs := range nonsense {
		d := impl.DiskNew(16)
		lay(d, 4, secs...)
		if rec := impl.ReadRec(d, 4, 5); !recEqual(rec, impl.RecRes{}) {
			t.Errorf("%s: read", name)
		}
	}
	d := impl.DiskNew(1024)
	for i := range 626 {
		lay(d, 4+i, recordSector(5, uint16(i), 626, 48, full))
	}
	if impl.ReadRec(d, 4, 5).Ok {
		t.Errorf("a record of more than PayMax bytes is read")
	}
}

func TestReadArea(t *testing.T) {
	for _, n := range []int64{16, 17, 18, 19, 101, 1024} {
		m := (n - 2) / 2
		for area := range int64(2) {
			begin := 2 + area*m
			d := impl.DiskNew(n)
			want := impl.AreaRes{Next: 1}
			for want.Used < m {
				payload := counted(int(want.Next) * 11 % 97)
				k := impl.RecSectors(int64(len(payload)))
				if want.Used+k > m {
					payload, k = counted(48), 1
				}
				d = impl.WriteRec(d, begin+want.Used, want.Next, payload)
				want = impl.AreaRes{Ok: true, Payloads: append(want.Payloads, impl.Payload{Data: payload}), Used: want.Used + k, Next: want.Next + 1}
				if got := impl.ReadArea(d, area, 1); !areaEqual(got, want) {
					t.Fatalf("%d sectors, area %d, %d records: %v, %d, used %d, next %d", n, area, len(want.Payloads), got.Ok, len(got.Payloads), got.Used, got.Next)
				}
			}
			if begin+m < n {
				d = impl.WriteRec(d, begin+m, want.Next, nil)
			}
			if got := impl.ReadArea(d, area, 1); !areaEqual(got, want) {
				t.Errorf("%d sectors, area %d: a record behind the area is read", n, area)
			}
		}
	}
}

func TestReadAreaEnds(t *testing.T) {
	for _, n := range []int64{18, 19} {
		m := (n - 2) / 2
		for area := range int64(2) {
			begin := 2 + area*m
			whole := impl.WriteRec(impl.DiskNew(n), begin, 7, counted(int(m)*48))
			want := impl.AreaRes{Ok: true, Payloads: []impl.Payload{{Data: counted(int(m) * 48)}}, Used: m, Next: 8}
			if got := impl.ReadArea(whole, area, 7); !areaEqual(got, want) {
				t.Errorf("%d sectors, area %d: a record as long as the area: %v", n, area, got.Ok)
			}
			over := impl.WriteRec(impl.DiskNew(n), begin, 7, counted(int(m)*48+1))
			if got := impl.ReadArea(over, area, 7); !areaEqual(got, impl.AreaRes{}) {
				t.Errorf("%d sectors, area %d: a first record that goes over the end: %v", n, area, got.Ok)
			}
			ends := impl.WriteRec(impl.WriteRec(impl.DiskNew(n), begin, 7, nil), begin+m-2, 9, counted(49))
			ends = impl.WriteRec(ends, begin+1, 8, counted(int(m-3)*48))
			if got := impl.ReadArea(ends, area, 7); len(got.Payloads) != 3 || got.Used != m || got.Next != 10 {
				t.Errorf("%d sectors, area %d: a record that ends with the area: %v, used %d", n, area, got.Ok, got.Used)
			}
			runs := impl.WriteRec(impl.WriteRec(impl.DiskNew(n), begin, 7, counted(int(m-1)*48)), begin+m-1, 8, counted(49))
			want = impl.AreaRes{Ok: true, Payloads: []impl.Payload{{Data: counted(int(m-1) * 48)}}, Used: m - 1, Next: 8}
			if got := impl.ReadArea(runs, area, 7); !areaEqual(got, want) {
				t.Errorf("%d sectors, area %d: a record that goes over the end: %v, used %d", n, area, got.Ok, got.Used)
			}
		}
	}
}

func TestReadAreaNumbers(t *testing.T) {
	d := impl.DiskNew(16)
	for i, seq := range []int64{impl.NumMax - 1, impl.NumMax} {
		d = impl.WriteRec(d, int64(2+i), seq, counted(i+1))
	}
	lay(d, 4, recordSectors(impl.NumMax+1, counted(3))...)
	want := impl.AreaRes{Ok: true, Payloads: []impl.Payload{{Data: counted(1)}, {Data: counted(2)}}, Used: 2, Next: impl.NumMax + 1}
	if got := impl.ReadArea(d, 0, impl.NumMax-1); !areaEqual(got, want) {
		t.Errorf("up to NumMax: %+v", got)
	}
	for _, first := range wildNumbers {
		if got := impl.ReadArea(d, 0, first); first != impl.NumMax-1 && !areaEqual(got, impl.AreaRes{}) {
			t.Errorf("first %d: %+v", first, got)
		}
	}
	for _, area := range wildNumbers {
		if got := impl.ReadArea(d, area, impl.NumMax-1); area != 0 && !areaEqual(got, impl.AreaRes{}) {
			t.Errorf("area %d: %+v", area, got)
		}
	}
	d = impl.WriteRec(impl.WriteRec(impl.WriteRec(impl.DiskNew(16), 9, 1, nil), 10, 2, counted(60)), 12, 2, nil)
	want = impl.AreaRes{Ok: true, Payloads: []impl.Payload{{}, {Data: counted(60)}}, Used: 3, Next: 3}
	if got := impl.ReadArea(d, 1, 1); !areaEqual(got, want) {
		t.Errorf("a number that comes twice: %+v", got)
	}
	for name, bad := range invalidDisks() {
		if got := impl.ReadArea(bad, 0, 1); !areaEqual(got, impl.AreaRes{}) {
			t.Errorf("%s: an area is read", name)
		}
	}
}

// Numbers out of bounds that would meet a record all the same, by wrapping
// round or in the sector behind the areas.
func TestWrongNumbersMeetRecords(t *testing.T) {
	d := impl.DiskNew(19)
	lay(d, 2, recordSectors(5, nil)...)
	lay(d, 10, recordSectors(0, nil)...)
	lay(d, 18, recordSectors(5, nil)...)
	for _, seq := range []int64{5 + 1<<32, 5 - 1<<32} {
		if rec := impl.ReadRec(d, 2, seq); !recEqual(rec, impl.RecRes{}) {
			t.Errorf("record 5 is read as %d", seq)
		}
		if got := impl.ReadArea(d, 0, seq); !areaEqual(got, impl.AreaRes{}) {
			t.Errorf("area 0 from %d on: %+v", seq, got)
		}
	}
	if got := impl.ReadArea(d, 1, 0); !areaEqual(got, impl.AreaRes{}) {
		t.Errorf("area 1 from 0 on: %+v", got)
	}
	for _, area := range []int64{2, 1 << 61, -1 << 61} {
		if got := impl.ReadArea(d, area, 5); !areaEqual(got, impl.AreaRes{}) {
			t.Errorf("area %d: %+v", area, got)
		}
	}
	if got := impl.ReadArea(d, 0, 5); !got.Ok {
		t.Errorf("area 0 is not read")
	}
}

func TestSupersComeBack(t *testing.T) {
	r := rand.New(rand.NewSource(8))
	for _, gen := range []int64{0, 1, 2, 255, 256, impl.NumMax - 1, impl.NumMax} {
		for area := range int64(2) {
			for _, first := range edgeSeqs {
				for _, fuel := range []int64{-1, 0, 1, 2} {
					d := randomDisk(r, 16, 2)
					d.Fuel = fuel
					s := impl.Super{Gen: gen, Area: area, First: first}
					got := impl.WriteSuper(d, s)
					want := modelSync(modelWrite(d, gen%2, superSector(uint32(gen), byte(area), uint32(first))))
					if !sameDisk(got, want) {
						t.Errorf("%+v with fuel %d: fuel %d, dead %v, wrong disk", s, fuel, got.Fuel, got.Dead)
					}
					if fuel != 0 && impl.ReadSuper(got) != (impl.SuperRes{Ok: true, Super: s}) {
						t.Errorf("%+v reads as %+v", s, impl.ReadSuper(got))
					}
				}
			}
		}
	}
}

func TestReadSuperOfTwo(t *testing.T) {
	d := impl.DiskNew(16)
	if got := impl.ReadSuper(d); got != (impl.SuperRes{}) {
		t.Errorf("an empty disk has the super %+v", got)
	}
	for _, gens := range [][2]int64{{0, 1}, {2, 1}, {1000, 7}, {7, 1000}, {impl.NumMax, impl.NumMax - 1}} {
		a, b := impl.Super{Gen: gens[0], Area: 0, First: 3}, impl.Super{Gen: gens[1], Area: 1, First: 4}
		larger, smaller := a, b
		if b.Gen > a.Gen {
			larger, smaller = b, a
		}
		d := impl.WriteSuper(impl.WriteSuper(impl.DiskNew(16), a), b)
		if got := impl.ReadSuper(d); got != (impl.SuperRes{Ok: true, Super: larger}) {
			t.Errorf("of %v: %+v", gens, got)
		}
		lay(d, int(larger.Gen%2), filled(0))
		if got := impl.ReadSuper(d); got != (impl.SuperRes{Ok: true, Super: smaller}) {
			t.Errorf("of %v with the larger gone: %+v", gens, got)
		}
	}
	d = impl.WriteSuper(impl.WriteSuper(impl.DiskNew(16), impl.Super{Gen: 4, First: 1}), impl.Super{Gen: 5, First: 2})
	d = impl.DiskWrite(d, 1, filled(0))
	if got := impl.ReadSuper(d); got.Super.Gen != 4 {
		t.Errorf("a super overwritten in the cache is still read: %+v", got)
	}
}

func TestReadSuperOfNonsense(t *testing.T) {
	marked := superSector(2, 1, 3)
	copy(marked[4:], "R1")
	seventh := superSector(2, 1, 3)
	seventh[7] = 1
	behind := superSector(2, 1, 3)
	behind[12] = 1
	last := superSector(2, 1, 3)
	last[59] = 1
	nonsense := map[string][]byte{
		"an odd Gen":      superSector(3, 1, 3),
		"Gen too large":   superSector(impl.NumMax+2, 1, 3),
		"Area 2":          superSector(2, 2, 3),
		"Area 255":        superSector(2, 255, 3),
		"First 0":         superSector(2, 1, 0),
		"First too large": superSector(2, 1, impl.NumMax+1),
		"wrong mark":      sealed(marked[:60]),
		"byte 7":          sealed(seventh[:60]),
		"byte 12":         sealed(behind[:60]),
		"byte 59":         sealed(last[:60]),
		"a record":        recordSectors(2, nil)[0],
	}
	for name, sec := range nonsense {
		d := impl.DiskNew(16)
		lay(d, 0, sec)
		if got := impl.ReadSuper(d); got != (impl.SuperRes{}) {
			t.Errorf("%s: %+v", name, got)
		}
	}
	d := impl.DiskNew(16)
	lay(d, 1, superSector(2, 1, 3))
	if got := impl.ReadSuper(d); got != (impl.SuperRes{}) {
		t.Errorf("an even Gen in sector 1: %+v", got)
	}
	lay(d, 1, filled(0))
	lay(d, 0, superSector(2, 1, 3))
	for i := range 64 {
		for bit := range 8 {
			d.Data[i] ^= 1 << bit
			if got := impl.ReadSuper(d); got != (impl.SuperRes{}) {
				t.Errorf("read with bit %d of byte %d turned: %+v", bit, i, got)
			}
			d.Data[i] ^= 1 << bit
		}
	}
}

func TestWriteSuperRefused(t *testing.T) {
	d := impl.DiskNew(16)
	d.Fuel = 0
	for _, x := range wildNumbers {
		if x < 0 || x > impl.NumMax {
			checkUnchanged(t, "Gen", d, impl.WriteSuper(d, impl.Super{Gen: x, First: 1}))
		}
		if x < 0 || x > 1 {
			checkUnchanged(t, "Area", d, impl.WriteSuper(d, impl.Super{Area: x, First: 1}))
		}
		if x < 1 || x > impl.NumMax {
			checkUnchanged(t, "First", d, impl.WriteSuper(d, impl.Super{First: x}))
		}
	}
	d.Fuel = -1
	d.Dead = true
	checkUnchanged(t, "dead", d, impl.WriteSuper(d, impl.Super{First: 1}))
	for name, bad := range invalidDisks() {
		checkUnchanged(t, name, bad, impl.WriteSuper(bad, impl.Super{First: 1}))
		if got := impl.ReadSuper(bad); got != (impl.SuperRes{}) {
			t.Errorf("%s: a super is read", name)
		}
	}
}
