package ledgertest

import (
	"slices"
	"strconv"

	"gaffer/api"
	"gaffer/booktest"
	"gaffer/memtest"
)

// Same takes nil and empty lists for alike.
func Same(a, b api.Ledger) bool {
	return booktest.Same(a.Book, b.Book) && slices.Equal(a.Clients, b.Clients)
}

func Clone(l api.Ledger) api.Ledger {
	return api.Ledger{Book: booktest.Clone(l.Book), Clients: slices.Clone(l.Clients)}
}

// Brief is few words on l, however much is there.
func Brief(l api.Ledger) string {
	s := booktest.Brief(l.Book) + ", " + strconv.Itoa(len(l.Clients)) + " clients"
	for _, c := range l.Clients[:min(len(l.Clients), api.MaxClients)] {
		s += " " + strconv.FormatUint(c.Id, 10) + ":" + strconv.FormatUint(c.Seq, 10) + ":" + strconv.Itoa(int(c.Told.Why)) + ":" + strconv.Quote(c.Told.Text)
	}
	return s
}

// Visit goes through all lists of l.
func Visit(v *memtest.Visitor, l *api.Ledger) {
	booktest.Visit(v, &l.Book)
	memtest.Plain(v, &l.Clients, func(n int) api.Client { return api.Client{Seq: uint64(n)} })
}
