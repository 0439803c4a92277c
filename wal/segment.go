package wal

import (
	"strconv"
	"strings"

	"gaffer/api"
	"gaffer/disk"
	"gaffer/pack"
)

const (
	prefix = "w/" // of a segment's name
	digits = 16   // behind it
)

// segment is a file of the log.
type segment struct {
	name    string
	first   uint64 // the Index in its name
	entries []api.Entry
	starts  []int  // where each entry's frame begins
	size    int    // of all these frames; a cut leaves so many bytes
	torn    bool   // whether there is something behind them
	frame   string // what a put puts behind them
}

func nameOf(first uint64) string {
	hex := strconv.FormatUint(first, 16)
	return prefix + strings.Repeat("0", digits-len(hex)) + hex
}

// firstOf tells the Index in a name, and whether it is a segment's.
func firstOf(name string) (uint64, bool) {
	first, err := strconv.ParseUint(strings.TrimPrefix(name, prefix), 16, 64)
	// Other texts are read as numbers, too: capitals, and too few or too many digits.
	if err != nil || first == 0 || name != nameOf(first) {
		return 0, false
	}
	return first, true
}

// readSegment takes entries as long as there are some.
func readSegment(name string, first uint64, data string) segment {
	s := segment{name: name, first: first}
	rest := data
frames:
	for rest != "" {
		payload, behind, why := pack.TakeFrame(rest)
		switch why {
		case api.OK:
			e, why := Decode(payload)
			if why != api.OK {
				break frames // a frame, but of no entry
			}
			s.entries = append(s.entries, e)
			s.starts = append(s.starts, s.size)
		default:
			break frames
		}
		rest = behind
		s.size = len(data) - len(rest)
	}
	s.torn = rest != ""
	return s
}

func (s segment) full() bool { return len(s.entries) >= api.SegmentSize }

func (s segment) last() api.Entry { return s.entries[len(s.entries)-1] }

// next is the Index of the entry that is to stand behind those that there are: 0, which no entry has, if there can be none.
func (s segment) next() uint64 {
	if len(s.entries) == 0 {
		return s.first
	}
	return s.last().Index + 1
}

// start tells where the frame of the entry of that Index begins, and whether there is one.
func (s segment) start(index uint64) (int, bool) {
	if index < s.first || index-s.first >= uint64(len(s.entries)) {
		return 0, false
	}
	return s.starts[index-s.first], true
}

// fault tells what is wrong with a segment by itself, whatever is ahead of it, but for the order of its entries.
func (s segment) fault(isLast bool) api.Errno {
	if !isLast && (s.torn || len(s.entries) == 0) || len(s.entries) > api.SegmentSize {
		return api.ErrForm
	}
	return api.OK
}

func (s segment) inOrder() bool {
	for i, e := range s.entries {
		if e.Index != s.first+uint64(i) {
			return false
		}
	}
	return true
}

func (s segment) put(d api.Disk) (api.Disk, api.Errno)  { return disk.Add(d, s.name, s.frame) }
func (s segment) cut(d api.Disk) (api.Disk, api.Errno)  { return disk.Cut(d, s.name, s.size) }
func (s segment) sync(d api.Disk) (api.Disk, api.Errno) { return disk.Sync(d, s.name) }
func (s segment) drop(d api.Disk) (api.Disk, api.Errno) { return disk.Drop(d, s.name) }
