package entry

import (
	"math"
	"slices"

	"sautoir/api"
	"sautoir/fault"
	"sautoir/octet"
)

func txnBytes(t Txn) []byte {
	b := join(idBytes(t.ID), flag(t.Plain), number(uint64(len(t.Reads))))
	for _, r := range t.Reads {
		b = append(b, join(text(r.Key), number(r.Num))...)
	}
	b = append(b, number(uint64(len(t.Writes)))...)
	for _, w := range t.Writes {
		b = append(b, join(text(w.Key), text(w.Val), flag(w.Gone))...)
	}
	return b
}

func idBytes(id api.ID) []byte {
	return join(number(uint64(id.Client)), number(id.Seq))
}

// number, text and flag answer bytes of their own: put behind all that stands ahead, each would copy that once more.
func number(n uint64) []byte {
	return octet.Put(nil, n)
}

func text(s string) []byte {
	return octet.Text(nil, s)
}

func flag(is bool) []byte {
	if is {
		return number(1)
	}
	return number(0)
}

func join(l ...[]byte) []byte {
	return slices.Concat(l...)
}

// readEntry answers the entry whose bytes are all that r has.
func readEntry(r *octet.Reader) (Entry, error) {
	e := Entry{Epoch: r.N(), Kind: r.Int(Finish)}
	switch e.Kind {
	case Part:
		e.Txn = readTxn(r)
	case Finish:
		e.ID = readID(r)
		e.Code = api.Errno(r.Int(math.MaxInt))
	}
	if !r.Done() {
		return Entry{}, fault.New("bytes", api.ErrForm)
	}
	if !Right(e) {
		return Entry{}, fault.New("entry", api.ErrForm)
	}
	return e, nil
}

// readTxn answers a transaction that may be not right; what stands for it if r is bad has no meaning.
func readTxn(r *octet.Reader) Txn {
	t := Txn{ID: readID(r), Plain: r.Flag()}
	for range r.Int(api.MaxOps) {
		key := r.Text(api.MaxKey)
		t.Reads = append(t.Reads, Read{Key: key, Num: r.N()})
	}
	for range r.Int(api.MaxOps) {
		key, val := r.Text(api.MaxKey), r.Text(api.MaxVal)
		t.Writes = append(t.Writes, Write{Key: key, Val: val, Gone: r.Flag()})
	}
	return t
}

func readID(r *octet.Reader) api.ID {
	client := r.Int(api.MaxClients - 1)
	return api.ID{Client: client, Seq: r.N()}
}
