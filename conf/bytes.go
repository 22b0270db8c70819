package conf

import (
	"slices"

	"sautoir/api"
	"sautoir/octet"
)

// noLearner is the Learner's number, as bytes, where there is none.
const noLearner = api.MaxServers

// Put answers b, and behind it the bytes of c; b alone, if c is not right.
func Put(b []byte, c Conf) []byte {
	if !Right(c) {
		return slices.Clone(b)
	}
	return slices.Concat(b, confBytes(c))
}

// Read answers the right configuration whose bytes stand next, and whether there is one.
func Read(r *octet.Reader) (Conf, bool) {
	c := readConf(r)
	if r.Bad() || !Right(c) {
		return Conf{}, false
	}
	return c, true
}

// confBytes answers the bytes of c, which is right.
func confBytes(c Conf) []byte {
	b := octet.Put(nil, c.Epoch)
	b = octet.Put(b, uint64(c.Shard))
	b = octet.Put(b, uint64(len(c.Chain)))
	for i, node := range c.Chain {
		b = octet.Put(b, uint64(node))
		b = octet.Put(b, truth(c.Full[i]))
	}
	if c.Learner == none {
		return octet.Put(b, noLearner)
	}
	return octet.Put(b, uint64(c.Learner))
}

func truth(is bool) uint64 {
	if is {
		return 1
	}
	return 0
}

// readConf answers a configuration that may be not right; what stands for it if r is bad has no meaning.
func readConf(r *octet.Reader) Conf {
	c := Conf{Epoch: r.N(), Shard: r.Int(api.MaxShards - 1)}
	for range r.Int(api.MaxServers) {
		c.Chain = append(c.Chain, r.Int(api.MaxServers-1))
		c.Full = append(c.Full, r.Flag())
	}
	c.Learner = r.Int(noLearner)
	if c.Learner == noLearner {
		c.Learner = none
	}
	return c
}
