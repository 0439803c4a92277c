package wal

import (
	"strings"

	"gaffer/api"
	"gaffer/pack"
	"gaffer/parts"
)

const dataMax = api.MaxData / 16 // bytes of an order's Data

// numbers are an entry's Index, Term and Kind, as they stand in its bytes.
type numbers [3]uint64

func numbersOf(e api.Entry) numbers {
	return numbers{e.Index, e.Term, uint64(e.Kind)}
}

// Check tells why an entry is not right; Encode and Decode are of its bytes.
func Check(e api.Entry) api.Errno {
	if !right(e) {
		return api.ErrForm
	}
	return api.OK
}

func Encode(e api.Entry) (string, api.Errno) {
	if why := Check(e); why != api.OK {
		return "", why
	}
	var b strings.Builder
	for _, n := range numbersOf(e) {
		b.WriteString(pack.Number(n))
	}
	b.WriteString(pack.Text(e.Data))
	b.WriteString(parts.Members(e.Members))
	return b.String(), api.OK
}

func Decode(s string) (api.Entry, api.Errno) {
	t := parts.Of(s)
	var n numbers
	for i := range n {
		n[i] = t.Number()
	}
	e := api.Entry{Index: n[0], Term: n[1], Kind: kindOf(n[2])}
	e.Data = t.Text()
	e.Members = t.Members()
	if !t.Done() || !right(e) {
		return api.Entry{}, api.ErrForm
	}
	return e, api.OK
}

// kindOf is none of a number that is no kind's: held against the limit ahead of the conversion, which may wrap round.
func kindOf(n uint64) api.EntryKind {
	if n >= uint64(api.EntryCount) {
		return api.EntryNone
	}
	return api.EntryKind(n)
}

func right(e api.Entry) bool {
	switch {
	case e.Index == 0:
		return false
	case e.Kind == api.EntryLead:
		return e.Data == "" && len(e.Members) == 0
	case e.Kind == api.EntryOrder:
		return len(e.Data) <= dataMax && len(e.Members) == 0
	case e.Kind == api.EntryMembers:
		return e.Data == "" && rightMembers(e.Members)
	}
	return false
}

// rightMembers need not be counted: rising from 1 to MaxReplicas there are no more than may be.
func rightMembers(members []int) bool {
	last := 0
	for _, m := range members {
		if m <= last || m > api.MaxReplicas {
			return false
		}
		last = m
	}
	return len(members) > 0
}
