package wal

import (
	"sautoir/api"
	"sautoir/disk"
	"sautoir/fault"
	"sautoir/frame"
	"sautoir/octet"
)

// found is what stands in an area when a log is opened.
type found struct {
	size    int // how many bytes there are
	end     int // how many of them are whole frames
	whole   bool
	gen     uint64
	records [][]byte
}

// look answers what stands in an area, and what keeps it from being whole.
func look(d *disk.Disk, area int) (found, error) {
	b, e := d.Read(area)
	if e != api.OK {
		return found{}, fault.New("read", e)
	}
	a := found{size: len(b)}
	frames, end, e := frame.All(b)
	if len(frames) == 0 {
		return a, fault.New("head", e)
	}
	gen, count, err := openHead(frames[0])
	if err != nil {
		return a, fault.In("head", err)
	}
	records := frames[1:]
	if uint64(len(records)) < count {
		return a, fault.New("records", api.ErrMore)
	}
	a.end, a.whole, a.gen, a.records = end, true, gen, records
	return a, nil
}

// open makes the disk hold the log's area alone, up to its last whole frame, all of it sure.
func open(d *disk.Disk, areas [2]found) (*Log, error) {
	at := newest(areas)
	l := &Log{disk: d, area: at, gen: areas[at].gen}
	if areas[at].whole {
		if err := mend(d, at, areas[at]); err != nil {
			return nil, fault.In("mend", err)
		}
	} else {
		l.gen = 1
		if err := anew(d, at, areas[at]); err != nil {
			return nil, fault.In("anew", err)
		}
	}
	// The other one goes last: till now it may have been the only one that a crash would have left.
	if err := wipe(d, 1-at, areas[1-at]); err != nil {
		return nil, fault.In("other", err)
	}
	return l, nil
}

// newest answers the log's area: the whole one, of two the one of the greater generation; 0, if there is none.
func newest(areas [2]found) int {
	if !areas[1].whole {
		return 0
	}
	if areas[0].whole && areas[0].gen >= areas[1].gen {
		return 0
	}
	return 1
}

// mend takes away what stands behind the last whole frame; what was read, and may be told, must be sure.
func mend(d *disk.Disk, area int, a found) error {
	if a.end < a.size {
		return fault.New("cut", d.Cut(area, a.end))
	}
	if d.Sure(area) < a.size {
		return fault.New("sync", d.Sync(area))
	}
	return nil
}

// anew begins the first generation.
func anew(d *disk.Disk, area int, a found) error {
	if err := wipe(d, area, a); err != nil {
		return err
	}
	return begin(d, area, 1, nil)
}

// wipe takes away all that stands in an area.
func wipe(d *disk.Disk, area int, a found) error {
	if a.size == 0 {
		return nil
	}
	return fault.New("wipe", d.Cut(area, 0))
}

// begin writes a generation into an empty area, its head and records in one write: a torn one is not whole.
func begin(d *disk.Disk, area int, gen uint64, records [][]byte) error {
	b, err := generation(gen, records, d.Room())
	if err != nil {
		return fault.In("frames", err)
	}
	if e := d.Append(area, b); e != api.OK {
		return fault.New("append", e)
	}
	return fault.New("sync", d.Sync(area))
}

// generation answers the frames of a generation's head and records. It gives up at once when they don't fit: many great records need not be laid out to be refused.
func generation(gen uint64, records [][]byte, room int) ([]byte, error) {
	b, e := frame.Put(head(gen, uint64(len(records))))
	if e != api.OK {
		return nil, fault.New("head", e)
	}
	for _, p := range records {
		if len(b) > room {
			break
		}
		f, e := frame.Put(p)
		if e != api.OK {
			return nil, fault.New("record", e)
		}
		b = append(b, f...)
	}
	if len(b) > room {
		return nil, fault.New("room", api.ErrFull)
	}
	return b, nil
}

// head answers a generation's head.
func head(gen, count uint64) []byte {
	return octet.Put(octet.Put([]byte{mark}, gen), count)
}

// openHead answers which generation the head p is of, and how many records that begins with.
func openHead(p []byte) (gen, count uint64, err error) {
	if len(p) == 0 || p[0] != mark {
		return 0, 0, fault.New("mark", api.ErrForm)
	}
	r := octet.New(p[1:])
	gen, count = r.N(), r.N()
	if !r.Done() {
		return 0, 0, fault.New("numbers", api.ErrForm)
	}
	return gen, count, nil
}
