package letter

// fields is a set of a letter's fields.
type fields uint32

// The fields, in an order in which those of each Kind stand, too: so a set is enough to say what a Kind's bytes are.
const (
	shardField fields = 1 << iota
	epochField
	nField
	mField
	nodeField
	flagField
	ballotField
	votesField
	confsField
	idField
	valField
	numField
	entriesField
	txnField
	codeField
)

// fieldsOf answers the fields of a Kind, and whether there is such a Kind.
func fieldsOf(kind int) (fields, bool) {
	var f fields
	switch kind {
	case Promise:
		f |= votesField
		fallthrough
	case Prepare, Accepted, Lead:
		f |= nField
		fallthrough
	case Nack:
		f |= ballotField
	case Accept:
		f |= ballotField
		fallthrough
	case Chosen:
		f |= valField
		fallthrough
	case Want:
		f |= nField
	case Beat, Have:
		f |= flagField
		fallthrough
	case Done:
		f |= shardField | epochField | nField
	case Ask:
		f |= epochField | nodeField
		fallthrough
	case Told:
		f |= shardField | nField
		fallthrough
	case Get:
		f |= idField | valField
	case Walk:
		f |= shardField
		fallthrough
	case Do:
		f |= txnField
	case Confs:
		f = nField | confsField
	case Push:
		f = shardField | epochField | nField | mField | numField | entriesField
	case Back:
		f = shardField | idField | codeField
	case Answer:
		f = nField | idField | valField | numField | codeField
	case Know:
		// It has none.
	default:
		return 0, false
	}
	return f, true
}

// has tells whether that field is in the set.
func (s fields) has(field fields) bool {
	return s&field != 0
}

// inOrder answers the fields that are in the set, one by one.
func (s fields) inOrder() []fields {
	var l []fields
	for field := shardField; field <= codeField; field <<= 1 {
		if s.has(field) {
			l = append(l, field)
		}
	}
	return l
}
