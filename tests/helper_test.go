package tests

import (
	"bytes"
	"encoding/binary"
	"hash/crc32"
	"math"
	"math/rand"

	"loop.example/s01136/impl"
)

// wildNumbers are numbers at and beyond every bound of the document.
var wildNumbers = []int64{
	math.MinInt64, math.MinInt64 + 1, -64, -2, -1, 0, 1, 2, 3, 8, 9, 14, 15, 16, 17, 1022, 1023, 1024, 1025,
	impl.NumMax - 1, impl.NumMax, impl.NumMax + 1, math.MaxUint32, math.MaxInt64 - 1, math.MaxInt64,
}

func filled(x byte) []byte {
	return bytes.Repeat([]byte{x}, impl.SectorBytes)
}

// counted is a payload whose bytes tell where they stood.
func counted(n int) []byte {
	b := make([]byte, n)
	for i := range b {
		b[i] = byte(i*7 + i/251 + 1)
	}
	return b
}

func randomBytes(r *rand.Rand, n int) []byte {
	b := make([]byte, n)
	r.Read(b)
	return b
}

func cloneDisk(d impl.Disk) impl.Disk {
	c := d
	c.Data = bytes.Clone(d.Data)
	c.Cache = nil
	for _, p := range d.Cache {
		c.Cache = append(c.Cache, impl.Pend{Sector: p.Sector, Data: bytes.Clone(p.Data)})
	}
	return c
}

func sameDisk(a, b impl.Disk) bool {
	if !bytes.Equal(a.Data, b.Data) || a.Fuel != b.Fuel || a.Dead != b.Dead || len(a.Cache) != len(b.Cache) {
		return false
	}
	for i := range a.Cache {
		if a.Cache[i].Sector != b.Cache[i].Sector || !bytes.Equal(a.Cache[i].Data, b.Cache[i].Data) {
			return false
		}
	}
	return true
}

func isZeroDisk(d impl.Disk) bool {
	return sameDisk(d, impl.Disk{})
}

// spoil writes into every byte of a disk, to show who else holds its memory.
func spoil(d impl.Disk) {
	invert(d.Data)
	for i := range d.Cache {
		d.Cache[i].Sector ^= 1
		invert(d.Cache[i].Data)
	}
}

func invert(b []byte) {
	for i := range b {
		b[i] = ^b[i]
	}
}

// randomDisk has random contents, and writes in its cache of which some go to the same sectors.
func randomDisk(r *rand.Rand, n int, pending int) impl.Disk {
	d := impl.Disk{Data: randomBytes(r, n*impl.SectorBytes), Fuel: -1}
	for range pending {
		d.Cache = append(d.Cache, impl.Pend{Sector: int64(r.Intn(n)), Data: randomBytes(r, impl.SectorBytes)})
	}
	return d
}

// invalidDisks breaks each rule of ValidDisk once, by one where it is a bound.
func invalidDisks() map[string]impl.Disk {
	with := func(change func(d *impl.Disk)) impl.Disk {
		d := impl.DiskNew(16)
		d.Cache = []impl.Pend{{Sector: 3, Data: filled(1)}, {Sector: 15, Data: filled(2)}}
		change(&d)
		return d
	}
	return map[string]impl.Disk{
		"zero":               {},
		"half a sector more": with(func(d *impl.Disk) { d.Data = append(d.Data, make([]byte, 32)...) }),
		"a byte less":        with(func(d *impl.Disk) { d.Data = d.Data[:1023] }),
		"15 sectors":         with(func(d *impl.Disk) { d.Data = make([]byte, 15*64); d.Cache = nil }),
		"1025 sectors":       with(func(d *impl.Disk) { d.Data = make([]byte, 1025*64) }),
		"cache too long":     with(func(d *impl.Disk) { fillCache(d, impl.CacheMax+1) }),
		"sector -1":          with(func(d *impl.Disk) { d.Cache[0].Sector = -1 }),
		"sector n":           with(func(d *impl.Disk) { d.Cache[1].Sector = 16 }),
		"sector far off":     with(func(d *impl.Disk) { d.Cache[1].Sector = math.MinInt64 }),
		"63 bytes":           with(func(d *impl.Disk) { d.Cache[0].Data = make([]byte, 63) }),
		"65 bytes":           with(func(d *impl.Disk) { d.Cache[1].Data = make([]byte, 65) }),
		"no bytes":           with(func(d *impl.Disk) { d.Cache[1].Data = nil }),
		"fuel -2":            with(func(d *impl.Disk) { d.Fuel = -2 }),
		"fuel too much":      with(func(d *impl.Disk) { d.Fuel = impl.FuelMax + 1 }),
	}
}

// fillCache gives the disk as many pending writes, to its sectors in turn.
func fillCache(d *impl.Disk, entries int) {
	n := len(d.Data) / impl.SectorBytes
	d.Cache = nil
	for i := range entries {
		d.Cache = append(d.Cache, impl.Pend{Sector: int64(i % n), Data: filled(byte(i / n))})
	}
}

// sealed gives the 64 bytes of a sector with its checksum, by the library's sum.
func sealed(head []byte) []byte {
	sec := make([]byte, impl.SectorBytes)
	copy(sec[:60], head)
	binary.LittleEndian.PutUint32(sec[60:], crc32.ChecksumIEEE(sec[:60]))
	return sec
}

// recordSector lays a record's sector out by hand; nothing of it need make sense.
func recordSector(seq uint32, i, k, size uint16, piece []byte) []byte {
	head := binary.LittleEndian.AppendUint32(nil, seq)
	head = binary.LittleEndian.AppendUint16(head, i)
	head = binary.LittleEndian.AppendUint16(head, k)
	head = binary.LittleEndian.AppendUint16(head, size)
	head = append(head, 'R', '1')
	return sealed(append(head, piece...))
}

// recordSectors are the sectors of a record, as chapter 2 says.
func recordSectors(seq uint32, payload []byte) [][]byte {
	k := max(1, (len(payload)+47)/48)
	var secs [][]byte
	for i := range k {
		piece := payload[i*48 : min(len(payload), i*48+48)]
		secs = append(secs, recordSector(seq, uint16(i), uint16(k), uint16(len(piece)), piece))
	}
	return secs
}

func superSector(gen uint32, area byte, first uint32) []byte {
	head := binary.LittleEndian.AppendUint32(nil, gen)
	head = append(head, 'Q', '1', area, 0)
	return sealed(binary.LittleEndian.AppendUint32(head, first))
}

// lay puts sectors into the durable data of a disk, one behind the other.
func lay(d impl.Disk, at int, secs ...[]byte) {
	for i, sec := range secs {
		copy(d.Data[(at+i)*impl.SectorBytes:], sec)
	}
}

func recEqual(a, b impl.RecRes) bool {
	return a.Ok == b.Ok && bytes.Equal(a.Payload, b.Payload) && a.Sectors == b.Sectors
}

func areaEqual(a, b impl.AreaRes) bool {
	if a.Ok != b.Ok || a.Used != b.Used || a.Next != b.Next || len(a.Payloads) != len(b.Payloads) {
		return false
	}
	for i := range a.Payloads {
		if !bytes.Equal(a.Payloads[i].Data, b.Payloads[i].Data) {
			return false
		}
	}
	return true
}

// keepLists are all choices of kept writes among the entries of a cache.
func keepLists(entries int) [][]bool {
	var lists [][]bool
	for bits := range 1 << entries {
		keep := make([]bool, entries)
		for i := range keep {
			keep[i] = bits>>i&1 == 1
		}
		lists = append(lists, keep)
	}
	return lists
}
