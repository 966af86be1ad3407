package impl

const (
	MaxCores = 5
	MaxLines = 4
	MaxValue = 1000000
	MaxMail  = 60
	MaxQueue = 10
)

// idBits is a list of cores as one number, core n being bit n: the order and
// the lack of doubles then need no care.
type idBits uint64

func isCore(id int64) bool { return id >= 1 && id <= MaxCores }

func isLine(line int64) bool { return line >= 0 && line < MaxLines }

func isValue(value int64) bool { return value >= 0 && value <= MaxValue }

// bitsOf answers false when the list is not right. A bit at id or above it
// means that the list does not rise at id.
func bitsOf(l []int64) (idBits, bool) {
	var set idBits
	for _, id := range l {
		if !isCore(id) || set>>id != 0 {
			return 0, false
		}
		set |= 1 << id
	}
	return set, true
}

func idsIn(set idBits) []int64 {
	var l []int64
	for id := int64(1); id <= MaxCores; id++ {
		if set>>id&1 == 1 {
			l = append(l, id)
		}
	}
	return l
}

func IdsOk(l []int64) bool {
	_, ok := bitsOf(l)
	return ok
}

func WithId(l []int64, id int64) []int64 {
	set, ok := bitsOf(l)
	if !ok || !isCore(id) {
		return nil
	}
	return idsIn(set | 1<<id)
}

func WithoutId(l []int64, id int64) []int64 {
	set, ok := bitsOf(l)
	if !ok || !isCore(id) {
		return nil
	}
	return idsIn(set &^ (1 << id))
}
