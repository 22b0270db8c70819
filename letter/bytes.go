package letter

import (
	"slices"

	"sautoir/api"
	"sautoir/ballot"
	"sautoir/conf"
	"sautoir/entry"
	"sautoir/fault"
	"sautoir/frame"
	"sautoir/octet"
)

// letterBytes answers the bytes of l, which is right.
func letterBytes(l Letter) []byte {
	b := slices.Concat(addrBytes(l.From), addrBytes(l.To), number(l.Kind))
	own, _ := fieldsOf(l.Kind)
	for _, field := range own.inOrder() {
		b = append(b, fieldBytes(l, field)...)
	}
	return b
}

// fieldBytes answers the bytes of one field.
func fieldBytes(l Letter, field fields) []byte {
	switch field {
	case shardField:
		return number(l.Shard)
	case epochField:
		return octet.Put(nil, l.Epoch)
	case nField:
		return number(l.N)
	case mField:
		return number(l.M)
	case nodeField:
		return number(l.Node)
	case flagField:
		return truth(l.Flag)
	case ballotField:
		return ballot.Put(nil, l.Ballot)
	case votesField:
		return listBytes(l.Votes, voteBytes)
	case confsField:
		return listBytes(l.Confs, confBytes)
	case idField:
		return slices.Concat(number(l.ID.Client), octet.Put(nil, l.ID.Seq))
	case valField:
		return text(l.Val)
	case numField:
		return octet.Put(nil, l.Num)
	case entriesField:
		return listBytes(l.Entries, entryBytes)
	case txnField:
		return l.Txn.Bytes(nil)
	case codeField:
		return number(int(l.Code))
	}
	return nil
}

func addrBytes(a Addr) []byte {
	return slices.Concat(number(a.Kind), number(a.N))
}

func voteBytes(v Vote) []byte {
	return slices.Concat(number(v.Slot), ballot.Put(nil, v.Ballot), text(v.Val))
}

func confBytes(c conf.Conf) []byte {
	return conf.Put(nil, c)
}

// entryBytes answers the bytes of e as a text: an entry is read of just its own bytes.
func entryBytes(e entry.Entry) []byte {
	b, _ := entry.Put(e)
	return text(string(b))
}

// listBytes answers how many l has, and the bytes of each.
func listBytes[T any](l []T, bytes func(T) []byte) []byte {
	b := number(len(l))
	for _, x := range l {
		b = append(b, bytes(x)...)
	}
	return b
}

// number, text and truth answer bytes of their own: put behind all that stands ahead, each would copy that once more.
func number(n int) []byte {
	return octet.Put(nil, uint64(n))
}

func text(s string) []byte {
	return octet.Text(nil, s)
}

func truth(is bool) []byte {
	if is {
		return number(1)
	}
	return number(0)
}

// open answers the letter of b, or the fault of what can't be opened, or is no right letter.
func open(b []byte) (Letter, error) {
	p, e := frame.Open(b)
	if e != api.OK {
		return Letter{}, fault.New("frame", e)
	}
	r := octet.New(p)
	l := readLetter(r)
	if !r.Done() {
		return Letter{}, fault.New("bytes", api.ErrForm)
	}
	if !Right(l) {
		return Letter{}, fault.New("letter", api.ErrForm)
	}
	return l, nil
}

// readLetter answers a letter that may be not right; what stands for it if r is bad has no meaning.
func readLetter(r *octet.Reader) Letter {
	l := Letter{From: readAddr(r), To: readAddr(r), Kind: r.Int(Answer)}
	own, _ := fieldsOf(l.Kind)
	for _, field := range own.inOrder() {
		readField(r, &l, field)
	}
	return l
}

// readField reads one field into l.
func readField(r *octet.Reader, l *Letter, field fields) {
	switch field {
	case shardField:
		l.Shard = r.Int(api.MaxShards - 1)
	case epochField:
		l.Epoch = r.N()
	case nField:
		l.N = r.Int(mostNumber)
	case mField:
		l.M = r.Int(mostNumber)
	case nodeField:
		l.Node = r.Int(api.MaxServers - 1)
	case flagField:
		l.Flag = r.Flag()
	case ballotField:
		l.Ballot = ballot.Read(r)
	case votesField:
		l.Votes = readList(r, api.MaxLog, readVote)
	case confsField:
		l.Confs = readList(r, api.MaxShards, readConf)
	case idField:
		l.ID = readID(r)
	case valField:
		l.Val = r.Text(api.MaxVal)
	case numField:
		l.Num = r.N()
	case entriesField:
		l.Entries = readList(r, api.MaxOps, readEntry)
	case txnField:
		l.Txn, _ = entry.ReadTxn(r)
	case codeField:
		l.Code = api.Errno(r.Int(mostCode))
	}
}

func readAddr(r *octet.Reader) Addr {
	kind := r.Int(Client)
	return Addr{Kind: kind, N: r.Int(mostNumber)}
}

func readID(r *octet.Reader) api.ID {
	client := r.Int(api.MaxClients - 1)
	return api.ID{Client: client, Seq: r.N()}
}

func readVote(r *octet.Reader) Vote {
	slot := r.Int(mostNumber)
	b := ballot.Read(r)
	return Vote{Slot: slot, Ballot: b, Val: r.Text(api.MaxVal)}
}

// readConf and readEntry answer the zero one where no right one stands; as that is not right, the letter isn't either. (So it is with the transaction.)
func readConf(r *octet.Reader) conf.Conf {
	c, _ := conf.Read(r)
	return c
}

func readEntry(r *octet.Reader) entry.Entry {
	e, _ := entry.Get([]byte(r.Text(api.MaxFrame)))
	return e
}

// readList answers as many things as the number says that stands next.
func readList[T any](r *octet.Reader, most int, read func(*octet.Reader) T) []T {
	var l []T
	for range r.Int(most) {
		l = append(l, read(r))
	}
	return l
}
