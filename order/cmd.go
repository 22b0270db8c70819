package order

import (
	"sautoir/api"
	"sautoir/conf"
	"sautoir/fault"
	"sautoir/octet"
)

// Kinds of commands.
const (
	Remove = iota + 1
	Learn
	Promote
	Mark
)

// Cmd is what is to change.
type Cmd struct {
	Kind, Shard int
	Epoch       uint64
	Node        int
}

// Put answers the text of c.
func Put(c Cmd) (string, api.Errno) {
	if err := wrong(c); err != nil {
		return "", fault.Code(err)
	}
	return text(c), api.OK
}

// Get answers the right command whose text is s.
func Get(s string) (Cmd, api.Errno) {
	c, err := read(s)
	if err != nil {
		return Cmd{}, fault.Code(err)
	}
	return c, api.OK
}

// wrong answers the fault of a command that is not right; nil, if it is.
func wrong(c Cmd) error {
	switch {
	case c.Kind < Remove || c.Kind > Mark:
		return fault.New("kind", api.ErrArg)
	case c.Shard < 0 || c.Shard >= api.MaxShards:
		return fault.New("shard", api.ErrArg)
	case c.Epoch == 0:
		return fault.New("epoch", api.ErrArg)
	case c.Node < 0 || c.Node >= api.MaxServers:
		return fault.New("node", api.ErrArg)
	}
	return nil
}

// text answers the text of c, which is right.
func text(c Cmd) string {
	b := octet.Put(nil, uint64(c.Kind))
	b = octet.Put(b, uint64(c.Shard))
	b = octet.Put(b, c.Epoch)
	return string(octet.Put(b, uint64(c.Node)))
}

// read answers the command of s, or the fault of what is no right command's text.
func read(s string) (Cmd, error) {
	r := octet.New([]byte(s))
	c := Cmd{Kind: r.Int(Mark), Shard: r.Int(api.MaxShards - 1), Epoch: r.N(), Node: r.Int(api.MaxServers - 1)}
	if !r.Done() {
		return Cmd{}, fault.New("bytes", api.ErrForm)
	}
	// A command whose bytes can be read, and that may not be, is told as what can't be read, too.
	if wrong(c) != nil {
		return Cmd{}, fault.New("command", api.ErrForm)
	}
	return c, nil
}

// changed answers c, behind what cmd says, in that epoch, if it gets another one.
func changed(c conf.Conf, cmd Cmd, epoch uint64) (conf.Conf, api.Errno) {
	switch cmd.Kind {
	case Remove:
		return conf.Remove(c, cmd.Node, epoch)
	case Learn:
		return conf.Learn(c, cmd.Node, epoch)
	case Promote:
		return conf.Promote(c, cmd.Node, epoch)
	case Mark:
		return conf.Mark(c, cmd.Node)
	}
	return conf.Conf{}, api.ErrArg
}
