package impl

const (
	SectorBytes = 64
	SectorMin   = 16
	SectorMax   = 1024
	CacheMax    = 2000
	FuelMax     = 1000000
)

// noEnd is the fuel of a disk whose power never goes.
const noEnd = -1

type Pend struct {
	Sector int64
	Data   []byte
}

type Disk struct {
	Data  []byte
	Cache []Pend
	Fuel  int64
	Dead  bool
}

// powerGone is what a step throws when it finds no power, so that the steps
// behind it need not ask for it.
type powerGone struct{}

// device is a disk that is no argument and no answer yet: steps may change it
// in place.
type device struct {
	Disk
}

func DiskNew(n int64) Disk {
	if n < SectorMin || n > SectorMax {
		return Disk{}
	}
	return Disk{Data: make([]byte, n*SectorBytes), Fuel: noEnd}
}

func ValidDisk(d Disk) bool {
	n := sectorCount(d)
	if int64(len(d.Data)) != n*SectorBytes || n < SectorMin || n > SectorMax {
		return false
	}
	if len(d.Cache) > CacheMax || d.Fuel < noEnd || d.Fuel > FuelMax {
		return false
	}
	for _, p := range d.Cache {
		if !hasSector(d, p.Sector) || len(p.Data) != SectorBytes {
			return false
		}
	}
	return true
}

func DiskRead(d Disk, s int64) []byte {
	if !ValidDisk(d) || !hasSector(d, s) {
		return nil
	}
	return copyList(lookSector(d, s))
}

func DiskWrite(d Disk, s int64, data []byte) Disk {
	if !ValidDisk(d) || !hasSector(d, s) || len(data) != SectorBytes {
		return copyDisk(d)
	}
	return runSteps(d, func(dev *device) { dev.write(s, data) })
}

func DiskSync(d Disk) Disk {
	if !ValidDisk(d) {
		return copyDisk(d)
	}
	return runSteps(d, func(dev *device) { dev.sync() })
}

func DiskCrash(d Disk, keep []bool) Disk {
	if !ValidDisk(d) {
		return Disk{}
	}
	data := copyList(d.Data)
	for i, p := range d.Cache {
		if i < len(keep) && keep[i] {
			settle(data, p)
		}
	}
	return Disk{Data: data, Fuel: noEnd}
}

// runSteps gives the copy of a valid disk that the steps leave behind, all of
// them or those before the power went.
func runSteps(d Disk, steps func(dev *device)) Disk {
	dev := &device{copyDisk(d)}
	dev.untilPowerGoes(steps)
	return dev.Disk
}

func (dev *device) untilPowerGoes(steps func(dev *device)) {
	defer func() {
		thrown := recover()
		if thrown == nil {
			return
		}
		if _, ok := thrown.(powerGone); !ok {
			panic(thrown)
		}
	}()
	steps(dev)
}

// write takes a sector of the disk and 64 bytes; it keeps a copy of them.
func (dev *device) write(s int64, data []byte) {
	// A full cache refuses the write ahead of the power: no fuel is asked for.
	if len(dev.Cache) == CacheMax {
		return
	}
	dev.spendFuel()
	dev.Cache = append(dev.Cache, Pend{Sector: s, Data: copyList(data)})
}

func (dev *device) sync() {
	dev.spendFuel()
	for _, p := range dev.Cache {
		settle(dev.Data, p)
	}
	dev.Cache = nil
}

func (dev *device) spendFuel() {
	if dev.Fuel == 0 {
		dev.Dead = true
	}
	if dev.Dead {
		panic(powerGone{})
	}
	if dev.Fuel != noEnd {
		dev.Fuel--
	}
}

// lookSector gives the bytes of a sector of a valid disk where they lie, for a
// caller that copies them.
func lookSector(d Disk, s int64) []byte {
	for i := len(d.Cache) - 1; i >= 0; i-- {
		if d.Cache[i].Sector == s {
			return d.Cache[i].Data
		}
	}
	return d.Data[s*SectorBytes : (s+1)*SectorBytes]
}

func settle(data []byte, p Pend) {
	copy(data[p.Sector*SectorBytes:], p.Data)
}

func sectorCount(d Disk) int64 {
	return int64(len(d.Data)) / SectorBytes
}

func hasSector(d Disk, s int64) bool {
	return s >= 0 && s < sectorCount(d)
}

func copyDisk(d Disk) Disk {
	var cache []Pend
	for _, p := range d.Cache {
		cache = append(cache, Pend{Sector: p.Sector, Data: copyList(p.Data)})
	}
	return Disk{Data: copyList(d.Data), Cache: cache, Fuel: d.Fuel, Dead: d.Dead}
}

// copyList gives new memory also for an empty list, which slices.Clone does
// not.
func copyList[T any](list []T) []T {
	return append([]T(nil), list...)
}
