package impl

const (
	PieceBytes = 48
	PayMax     = 30000
	NumMax     = 2000000000
)

// The supers take the sectors ahead of the two areas.
const (
	superSectors = 2
	areaCount    = 2
)

// Where the parts of a record's sector and of a super's sector begin.
const (
	recSeqAt   = 0
	recIndexAt = 4
	recCountAt = 6
	recSizeAt  = 8
	recMarkAt  = 10
	recPieceAt = 12

	superGenAt   = 0
	superMarkAt  = 4
	superAreaAt  = 6
	superFirstAt = 8

	sumAt = 60
)

const (
	recMark   = "R1"
	superMark = "Q1"
)

type Payload struct {
	Data []byte
}

type RecRes struct {
	Ok      bool
	Payload []byte
	Sectors int64
}

type AreaRes struct {
	Ok       bool
	Payloads []Payload
	Used     int64
	Next     int64
}

type Super struct {
	Gen   int64
	Area  int64
	First int64
}

type SuperRes struct {
	Ok    bool
	Super Super
}

// sector is an array, so that what is read and what should stand there are
// held against each other with ==.
type sector [SectorBytes]byte

func Crc32(b []byte) uint32 {
	c := uint32(0xffffffff)
	for _, x := range b {
		c ^= uint32(x)
		for range 8 {
			if c&1 == 1 {
				c = c>>1 ^ 0xedb88320
			} else {
				c >>= 1
			}
		}
	}
	return c ^ 0xffffffff
}

func RecSectors(n int64) int64 {
	if n < 0 || n > PayMax {
		return 0
	}
	return max(1, (n+PieceBytes-1)/PieceBytes)
}

func WriteRec(d Disk, at int64, seq int64, payload []byte) Disk {
	k := RecSectors(int64(len(payload)))
	if !ValidDisk(d) || !isNumber(seq) || k == 0 {
		return copyDisk(d)
	}
	if at < superSectors || at > sectorCount(d)-k {
		return copyDisk(d)
	}
	return runSteps(d, func(dev *device) { dev.writeRec(at, seq, payload) })
}

func ReadRec(d Disk, at int64, seq int64) RecRes {
	if !ValidDisk(d) || !isNumber(seq) {
		return RecRes{}
	}
	return readRec(d, at, seq)
}

func ReadArea(d Disk, area int64, first int64) AreaRes {
	if !ValidDisk(d) || !isArea(area) || !isNumber(first) {
		return AreaRes{}
	}
	begin := areaBegin(d, area)
	res := AreaRes{Next: first}
	for res.Next <= NumMax {
		rec := readRec(d, begin+res.Used, res.Next)
		if !rec.Ok || res.Used+rec.Sectors > areaSectors(d) {
			break
		}
		res.Ok = true
		res.Payloads = append(res.Payloads, Payload{Data: rec.Payload})
		res.Used += rec.Sectors
		res.Next++
	}
	if !res.Ok {
		return AreaRes{}
	}
	return res
}

func WriteSuper(d Disk, s Super) Disk {
	if !ValidDisk(d) || !validSuper(s) {
		return copyDisk(d)
	}
	return runSteps(d, func(dev *device) { dev.writeSuper(s) })
}

func ReadSuper(d Disk) SuperRes {
	if !ValidDisk(d) {
		return SuperRes{}
	}
	var best SuperRes
	for j := range int64(superSectors) {
		res := readSuperAt(d, j)
		if res.Ok && (!best.Ok || res.Super.Gen > best.Super.Gen) {
			best = res
		}
	}
	return best
}

// writeRec syncs ahead of the last sector: when that one is durable, all the
// others are.
func (dev *device) writeRec(at int64, seq int64, payload []byte) {
	last := RecSectors(int64(len(payload))) - 1
	for i := range last {
		dev.writeRecSector(at, seq, i, payload)
	}
	if last > 0 {
		dev.sync()
	}
	dev.writeRecSector(at, seq, last, payload)
	dev.sync()
}

func (dev *device) writeRecSector(at int64, seq int64, i int64, payload []byte) {
	size := int64(len(payload))
	piece := payload[i*PieceBytes : min(size, (i+1)*PieceBytes)]
	sec := recSector(seq, i, RecSectors(size), piece)
	dev.write(at+i, sec[:])
}

func (dev *device) writeSuper(s Super) {
	sec := superSector(s)
	dev.write(s.Gen%superSectors, sec[:])
	dev.sync()
}

// readRec believes the count that the first sector claims only as far as every
// sector of the record bears it out.
func readRec(d Disk, at int64, seq int64) RecRes {
	if !hasSector(d, at) {
		return RecRes{}
	}
	first := loadSector(d, at)
	k := first.number(recCountAt, 2)
	if k < 1 || k > RecSectors(PayMax) || k > sectorCount(d)-at {
		return RecRes{}
	}
	var payload []byte
	for i := range k {
		piece, ok := readPiece(loadSector(d, at+i), seq, i, k)
		if !ok {
			return RecRes{}
		}
		payload = append(payload, piece...)
	}
	return RecRes{Ok: true, Payload: payload, Sectors: k}
}

func readPiece(got sector, seq int64, i int64, k int64) ([]byte, bool) {
	size := got.number(recSizeAt, 2)
	if size < leastPiece(i, k) || size > PieceBytes {
		return nil, false
	}
	piece := got[recPieceAt : recPieceAt+size]
	if got != recSector(seq, i, k, piece) {
		return nil, false
	}
	return piece, true
}

// leastPiece: only a record without payload has an empty piece, and only the
// last piece may be short.
func leastPiece(i int64, k int64) int64 {
	if i < k-1 {
		return PieceBytes
	}
	if k > 1 {
		return 1
	}
	return 0
}

func readSuperAt(d Disk, j int64) SuperRes {
	got := loadSector(d, j)
	s := Super{
		Gen:   got.number(superGenAt, 4),
		Area:  got.number(superAreaAt, 1),
		First: got.number(superFirstAt, 4),
	}
	if !validSuper(s) || s.Gen%superSectors != j || got != superSector(s) {
		return SuperRes{}
	}
	return SuperRes{Ok: true, Super: s}
}

func recSector(seq int64, i int64, k int64, piece []byte) sector {
	var sec sector
	sec.putNumber(recSeqAt, 4, seq)
	sec.putNumber(recIndexAt, 2, i)
	sec.putNumber(recCountAt, 2, k)
	sec.putNumber(recSizeAt, 2, int64(len(piece)))
	copy(sec[recMarkAt:], recMark)
	copy(sec[recPieceAt:sumAt], piece)
	sec.seal()
	return sec
}

func superSector(s Super) sector {
	var sec sector
	sec.putNumber(superGenAt, 4, s.Gen)
	copy(sec[superMarkAt:], superMark)
	sec.putNumber(superAreaAt, 1, s.Area)
	sec.putNumber(superFirstAt, 4, s.First)
	sec.seal()
	return sec
}

func loadSector(d Disk, s int64) sector {
	var sec sector
	copy(sec[:], lookSector(d, s))
	return sec
}

func (sec *sector) putNumber(at int, width int, v int64) {
	for i := range width {
		sec[at+i] = byte(v >> (8 * i))
	}
}

func (sec *sector) number(at int, width int) int64 {
	return littleEndian(sec[at : at+width])
}

func littleEndian(b []byte) int64 {
	v := int64(0)
	for i, x := range b {
		v |= int64(x) << (8 * i)
	}
	return v
}

func (sec *sector) seal() {
	sec.putNumber(sumAt, 4, int64(Crc32(sec[:sumAt])))
}

func validSuper(s Super) bool {
	return s.Gen >= 0 && s.Gen <= NumMax && isArea(s.Area) && isNumber(s.First)
}

func isNumber(n int64) bool {
	return n >= 1 && n <= NumMax
}

func isArea(area int64) bool {
	return area >= 0 && area < areaCount
}

func areaSectors(d Disk) int64 {
	return (sectorCount(d) - superSectors) / areaCount
}

func areaBegin(d Disk, area int64) int64 {
	return superSectors + area*areaSectors(d)
}
