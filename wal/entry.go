package wal

import (
	"strings"

	"gaffer/api"
	"gaffer/pack"
)

const dataMax = api.MaxData / 16 // bytes of an order's Data

// numbers are an entry's Index, Term and Kind, as they stand in its bytes.
type numbers [3]uint64

func numbersOf(e api.Entry) numbers {
	return numbers{e.Index, e.Term, uint64(e.Kind)}
}

// Check tells why an entry is not right; Encode and Decode are of its bytes.
func Check(e api.Entry) api.Errno {
	if !right(e) {
		return api.ErrForm
	}
	return api.OK
}

func Encode(e api.Entry) (string, api.Errno) {
	if why := Check(e); why != api.OK {
		return "", why
	}
	var b strings.Builder
	for _, n := range numbersOf(e) {
		b.WriteString(pack.Number(n))
	}
	b.WriteString(pack.Text(e.Data))
	b.WriteString(pack.Number(uint64(len(e.Members))))
	for _, m := range e.Members {
		b.WriteString(pack.Number(uint64(m)))
	}
	return b.String(), api.OK
}

func Decode(s string) (api.Entry, api.Errno) {
	e, rest, why := takeEntry(s)
	if why != api.OK || rest != "" || !right(e) {
		return api.Entry{}, api.ErrForm
	}
	return e, api.OK
}

func right(e api.Entry) bool {
	switch {
	case e.Index == 0:
		return false
	case e.Kind == api.EntryLead:
		return e.Data == "" && len(e.Members) == 0
	case e.Kind == api.EntryOrder:
		return len(e.Data) <= dataMax && len(e.Members) == 0
	case e.Kind == api.EntryMembers:
		return e.Data == "" && rightMembers(e.Members)
	}
	return false
}

// rightMembers need not be counted: rising from 1 to MaxReplicas there are no more than may be.
func rightMembers(members []int) bool {
	last := 0
	for _, m := range members {
		if m <= last || m > api.MaxReplicas {
			return false
		}
		last = m
	}
	return len(members) > 0
}

// takeEntry answers what stands at the beginning of s, right or not, and what is behind it.
func takeEntry(s string) (api.Entry, string, api.Errno) {
	var n numbers
	var why api.Errno
	for i := range n {
		if n[i], s, why = pack.TakeNumber(s); why != api.OK {
			return api.Entry{}, "", why
		}
	}
	// Held against the limit ahead of the conversion, which may wrap round.
	if n[2] >= uint64(api.EntryCount) {
		return api.Entry{}, "", api.ErrForm
	}
	data, s, why := pack.TakeText(s)
	if why != api.OK {
		return api.Entry{}, "", why
	}
	members, s, why := takeMembers(s)
	if why != api.OK {
		return api.Entry{}, "", why
	}
	return api.Entry{Index: n[0], Term: n[1], Kind: api.EntryKind(n[2]), Data: data, Members: members}, s, api.OK
}

func takeMembers(s string) ([]int, string, api.Errno) {
	count, s, why := pack.TakeNumber(s)
	if why != api.OK {
		return nil, "", why
	}
	if count > api.MaxReplicas {
		return nil, "", api.ErrForm
	}
	var members []int
	for range count {
		var m uint64
		if m, s, why = pack.TakeNumber(s); why != api.OK {
			return nil, "", why
		}
		if m > api.MaxReplicas {
			return nil, "", api.ErrForm
		}
		members = append(members, int(m))
	}
	return members, s, api.OK
}
