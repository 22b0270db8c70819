package conf_test

import (
	"bytes"
	"math"
	"math/rand"
	"testing"

	"sautoir/conf"
	"sautoir/octet"
)

// bytesOf puts numbers behind one another.
func bytesOf(l ...uint64) []byte {
	var b []byte
	for _, n := range l {
		b = octet.Put(b, n)
	}
	return b
}

func TestPut(t *testing.T) { // P16.3
	for _, x := range []struct {
		c    conf.Conf
		want []byte
	}{
		{chain(-1, 0), bytesOf(7, 1, 1, 0, 1, 8)},
		{chain(0, 7), bytesOf(7, 1, 1, 7, 1, 0)},
		{partly(chain(-1, 0, 1), 0), bytesOf(7, 1, 2, 0, 1, 1, 0, 8)},
		{partly(chain(4, 3, 1, 2), 3, 2), bytesOf(7, 1, 3, 3, 1, 1, 0, 2, 1, 4)},
		{partly(chain(-1, 7, 6, 5, 4, 3, 2, 1, 0), 7), bytesOf(7, 1, 8, 7, 1, 6, 0, 5, 0, 4, 0, 3, 0, 2, 0, 1, 0, 0, 0, 8)},
		{with(chain(-1, 0), func(c *conf.Conf) { c.Epoch, c.Shard = math.MaxUint64, 3 }), bytesOf(math.MaxUint64, 3, 1, 0, 1, 8)},
		{with(chain(-1, 0), func(c *conf.Conf) { c.Epoch, c.Shard = 300, 0 }), bytesOf(300, 0, 1, 0, 1, 8)},
	} {
		if got := conf.Put(nil, x.c); !bytes.Equal(got, x.want) {
			t.Errorf("Put(nil, %v) = %v, not %v", x.c, got, x.want)
		}
		if got := conf.Put([]byte("ahead"), x.c); !bytes.Equal(got, append([]byte("ahead"), x.want...)) {
			t.Errorf("Put(ahead, %v) = %v", x.c, got)
		}
	}
}

func TestPutWrong(t *testing.T) { // P16.3, P1
	for i, c := range wrongConfs() {
		if len(conf.Put(nil, c)) != 0 || string(conf.Put([]byte("ahead"), c)) != "ahead" {
			t.Errorf("%d of the wrong ones has bytes", i)
		}
	}
}

func TestPutMemory(t *testing.T) { // P16.3 (rules 4 and 5)
	for _, c := range []conf.Conf{chain(4, 3, 1), {}} {
		room := []byte("abcdefghijklmnopqrstuvwxyz")
		before := clone(c)
		got := conf.Put(room[:3], c)
		if string(room) != "abcdefghijklmnopqrstuvwxyz" || !conf.Same(c, before) {
			t.Errorf("Put wrote into what it was given: %q, %v", room, c)
		}
		told := string(got)
		copy(room, "????")
		if string(got) != told {
			t.Error("the answer shares memory with its argument")
		}
		got[0] = '!'
		if room[0] != '?' {
			t.Error("the argument shares memory with the answer")
		}
	}
}

func TestReadWhatWasPut(t *testing.T) { // P16.3
	r := rand.New(rand.NewSource(163))
	all := rightConfs()
	for range 300 {
		all = append(all, randomConf(r))
	}
	var b []byte
	for _, c := range all {
		b = conf.Put(b, c)
	}
	b = octet.Put(b, 99)
	reader := octet.New(b)
	for _, c := range all {
		if got, ok := conf.Read(reader); !ok || !conf.Same(got, c) {
			t.Fatalf("%v is read as %v, %v", c, got, ok)
		}
	}
	if reader.N() != 99 || !reader.Done() {
		t.Error("more was read than stands there")
	}
}

func TestReadMemory(t *testing.T) { // P16.3 (rules 4 and 5)
	want := chain(4, 3, 1, 2)
	b := conf.Put(nil, want)
	b = append(b, b...)
	reader := octet.New(b)
	one, _ := conf.Read(reader)
	two, _ := conf.Read(reader)
	spoil(one)
	clear(b)
	if !conf.Same(two, want) {
		t.Errorf("two answers share memory: %v", two)
	}
}

func TestReadOfNone(t *testing.T) { // P16.3, P1
	for _, b := range [][]byte{
		bytesOf(0, 1, 1, 0, 1, 8),                                        // no epoch
		bytesOf(7, 4, 1, 0, 1, 8),                                        // no shard
		bytesOf(7, math.MaxUint64, 1, 0, 1, 8),                           // no shard
		bytesOf(7, 1, 0, 8),                                              // no chain
		bytesOf(7, 1, 1, 8, 1, 0),                                        // no server
		bytesOf(7, 1, 2, 0, 1, 0, 1, 8),                                  // one twice
		bytesOf(7, 1, 9, 0, 1, 1, 1, 2, 1, 3, 1, 4, 1, 5, 1, 6, 1, 7, 1), // too many
		bytesOf(7, 1, math.MaxUint64, 0, 1),                              // too many
		bytesOf(7, 1, 1, 0, 0, 8),                                        // the head is not Full
		bytesOf(7, 1, 1, 0, 2, 8),                                        // no truth
		bytesOf(7, 1, 1, 0, 1, 9),                                        // no Learner
		bytesOf(7, 1, 1, 0, 1, math.MaxUint64),                           // no Learner
		bytesOf(7, 1, 1, 0, 1, 0),                                        // who learns is a member
		{0x87, 0, 1, 1, 0, 1, 8},                                         // more bytes than the number needs
	} {
		if got, ok := conf.Read(octet.New(b)); ok || !zero(got) {
			t.Errorf("%v is read as %v, %v", b, got, ok)
		}
	}
}

func TestReadTorn(t *testing.T) { // P16.3, P1
	for _, c := range rightConfs() {
		b := conf.Put(nil, c)
		for n := range b {
			r := octet.New(b[:n])
			if got, ok := conf.Read(r); ok || !zero(got) || !r.Bad() {
				t.Errorf("%d bytes of %v are read as %v, %v", n, c, got, ok)
			}
		}
	}
}

func TestReadOfNoReader(t *testing.T) { // P16.3, P1
	bad := octet.New(nil)
	bad.N()
	for _, r := range []*octet.Reader{nil, bad, {}, octet.New(nil)} {
		for range 2 {
			if got, ok := conf.Read(r); ok || !zero(got) {
				t.Errorf("read of nothing: %v", got)
			}
		}
	}
}

func TestReadOfAnyBytes(t *testing.T) { // P16.3, P1
	r := rand.New(rand.NewSource(1))
	read := 0
	for range 50000 {
		b := conf.Put(nil, randomConf(r))
		for range r.Intn(3) {
			b[r.Intn(len(b))] ^= 1 << r.Intn(8)
		}
		reader := octet.New(b)
		c, ok := conf.Read(reader)
		if !ok {
			if !zero(c) {
				t.Fatalf("%v is no configuration, and read as %v", b, c)
			}
			continue
		}
		read++
		if !conf.Right(c) || !bytes.Equal(conf.Put(nil, c), b[:len(b)-reader.Left()]) {
			t.Fatalf("%v is read as %v", b, c)
		}
	}
	if read < 1000 {
		t.Errorf("only %d could be read", read)
	}
}
