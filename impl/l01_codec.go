package impl

import "strings"

const (
	MaxKey   = 30
	MaxValue = 90
	MaxPairs = 60

	mostFields = 200
	mostField  = 300
	numberSize = 4
)

type Pair struct{ Key, Value string }

// halfSums holds the sum's step of each half byte: sixteen words are short
// enough to be read at a glance, where the usual table of bytes has 256.
var halfSums = [16]uint32{
	0x00000000, 0x1db71064, 0x3b6e20c8, 0x26d930ac,
	0x76dc4190, 0x6b6b51f4, 0x4db26158, 0x5005713c,
	0xedb88320, 0xf00f9344, 0xd6d6a3e8, 0xcb61b38c,
	0x9b64c2b0, 0x86d3d2d4, 0xa00ae278, 0xbdbdf21c,
}

// Check32 gives the CRC-32 of b, 0 of more than MaxText bytes.
func Check32(b []byte) int {
	if len(b) > MaxText {
		return 0
	}
	sum := uint32(0xffffffff)
	for _, c := range b {
		sum ^= uint32(c)
		sum = sum>>4 ^ halfSums[sum&15]
		sum = sum>>4 ^ halfSums[sum&15]
	}
	return int(^sum)
}

// numberBytes gives the four bytes of a number.
func numberBytes(n int) []byte {
	return []byte{byte(n >> 24), byte(n >> 16), byte(n >> 8), byte(n)}
}

// fieldsOf gives the bytes of a few fields that are known to be short.
func fieldsOf(list ...string) []byte {
	b, _ := FieldsBytes(list)
	return b
}

// FieldsBytes gives the bytes of a list of fields.
func FieldsBytes(list []string) ([]byte, int) {
	if len(list) > MaxList {
		return nil, ErrLong
	}
	if len(list) > mostFields {
		return nil, ErrMany
	}
	for _, field := range list {
		if len(field) > mostField {
			return nil, ErrRange
		}
	}
	b := []byte{byte(len(list))}
	for _, field := range list {
		b = append(b, byte(len(field)>>8), byte(len(field)))
		b = append(b, field...)
	}
	return b, OK
}

// ReadFields gives the list whose fields b is.
func ReadFields(b []byte) ([]string, int) {
	if len(b) > MaxText {
		return nil, ErrLong
	}
	list, rest, ok := cutFields(b)
	if !ok || len(rest) > 0 {
		return nil, ErrForm
	}
	return list, OK
}

// cutFields reads the fields that b begins with; rest is what stands behind
// them, a piece of b.
func cutFields(b []byte) (list []string, rest []byte, ok bool) {
	if len(b) == 0 || b[0] > mostFields {
		return nil, nil, false
	}
	rest = b[1:]
	for range int(b[0]) {
		if len(rest) < 2 {
			return nil, nil, false
		}
		size := int(rest[0])<<8 | int(rest[1])
		if size > mostField || size > len(rest)-2 {
			return nil, nil, false
		}
		list = append(list, string(rest[2:2+size]))
		rest = rest[2+size:]
	}
	return list, rest, true
}

func keyFits(key string) bool {
	return len(key) >= 1 && len(key) <= MaxKey
}

// PairsOK tells whether list is pairs.
func PairsOK(list []Pair) bool {
	if len(list) > MaxPairs {
		return false
	}
	for i, p := range list {
		if !keyFits(p.Key) || len(p.Value) > MaxValue {
			return false
		}
		if i > 0 && list[i-1].Key >= p.Key {
			return false
		}
	}
	return true
}

// pairsFault finds the faults that all calls on one key have in common, in
// their order; a call without a value hands in an empty one, which has none.
func pairsFault(list []Pair, key, value string) int {
	if len(list) > MaxList || len(key) > MaxText || len(value) > MaxText {
		return ErrLong
	}
	if !PairsOK(list) {
		return ErrBad
	}
	if !keyFits(key) || len(value) > MaxValue {
		return ErrRange
	}
	return OK
}

// pairPlace gives the place at which key stands, or would stand.
func pairPlace(list []Pair, key string) (at int, there bool) {
	for at < len(list) && list[at].Key < key {
		at++
	}
	return at, at < len(list) && list[at].Key == key
}

// copyList gives nil of an empty list too, so that nil and an empty list
// are answered alike.
func copyList[T any](list []T) []T {
	return append([]T(nil), list...)
}

// replaced gives the list with these items in place of its own from at to
// behind, in new memory.
func replaced[T any](list []T, at, behind int, items ...T) []T {
	out := append(copyList(list[:at]), items...)
	return append(out, list[behind:]...)
}

// PairGet gives the value of key.
func PairGet(list []Pair, key string) (string, int) {
	if code := pairsFault(list, key, ""); code != OK {
		return "", code
	}
	at, there := pairPlace(list, key)
	if !there {
		return "", ErrNone
	}
	return list[at].Value, OK
}

// PairPut gives the pairs with value at key.
func PairPut(list []Pair, key, value string) ([]Pair, int) {
	if code := pairsFault(list, key, value); code != OK {
		return nil, code
	}
	at, there := pairPlace(list, key)
	behind := at
	if there {
		behind = at + 1
	} else if len(list) == MaxPairs {
		return copyList(list), ErrFull
	}
	return replaced(list, at, behind, Pair{Key: key, Value: value}), OK
}

// PairDrop gives the pairs without key.
func PairDrop(list []Pair, key string) ([]Pair, int) {
	if code := pairsFault(list, key, ""); code != OK {
		return nil, code
	}
	at, there := pairPlace(list, key)
	if !there {
		return copyList(list), ErrNone
	}
	return replaced(list, at, at+1), OK
}

// PairsUnder gives the pairs whose keys begin with prefix.
func PairsUnder(list []Pair, prefix string) ([]Pair, int) {
	if len(list) > MaxList || len(prefix) > MaxText {
		return nil, ErrLong
	}
	if !PairsOK(list) {
		return nil, ErrBad
	}
	var out []Pair
	for _, p := range list {
		if strings.HasPrefix(p.Key, prefix) {
			out = append(out, p)
		}
	}
	return out, OK
}
