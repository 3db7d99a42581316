package wire

import "tollgate/api"

const (
	more    = 0x80 // set in each byte of a number but the last one
	lowBits = 0x7f
	bitStep = 7
)

func within(n, least, most int) bool { return n >= least && n <= most }

// entryMayBe leaves the length of Data out: that is another error, named later.
func entryMayBe(e api.Entry) bool {
	return within(int(e.Kind), int(api.Noop), int(api.Turn)) &&
		within(e.Term, 1, api.MaxNum) &&
		within(e.Index, 1, api.MaxNum) &&
		(e.Kind != api.Noop || len(e.Data) == 0)
}

// msgMayBe looks at every entry, those past MaxBatch too: an error of theirs is named ahead of their being too many.
func msgMayBe(m api.Msg) bool {
	if !within(int(m.Kind), int(api.AskPre), int(api.Say)) || !within(m.From, 1, api.MaxNode) || !within(m.To, 1, api.MaxNode) {
		return false
	}
	for _, n := range msgNumbers(m) {
		if !within(n, 0, api.MaxNum) {
			return false
		}
	}
	for _, e := range m.Entries {
		if !entryMayBe(e) {
			return false
		}
	}
	return true
}

func msgFits(m api.Msg) bool {
	if len(m.Entries) > api.MaxBatch || len(m.Data) > api.MaxSnap {
		return false
	}
	for _, e := range m.Entries {
		if len(e.Data) > api.MaxData {
			return false
		}
	}
	return true
}

// msgNumbers are a message's numbers in the order of its bytes.
func msgNumbers(m api.Msg) [6]int {
	return [6]int{m.Term, m.Index, m.LogTerm, m.Commit, m.Hint, m.Round}
}

func addNumber(b []byte, n int) []byte {
	for n >= more {
		b = append(b, byte(n&lowBits|more))
		n >>= bitStep
	}
	return append(b, byte(n))
}

func addData(b, data []byte) []byte {
	return append(addNumber(b, len(data)), data...)
}

func addEntry(b []byte, e api.Entry) []byte {
	b = append(b, byte(e.Kind))
	b = addNumber(b, e.Term)
	b = addNumber(b, e.Index)
	return addData(b, e.Data)
}

func addMsg(b []byte, m api.Msg) []byte {
	b = append(b, byte(m.Kind), byte(m.From), byte(m.To), okByte(m.Ok))
	for _, n := range msgNumbers(m) {
		b = addNumber(b, n)
	}
	b = addNumber(b, len(m.Entries))
	for _, e := range m.Entries {
		b = addEntry(b, e)
	}
	return addData(b, m.Data)
}

func okByte(ok bool) byte {
	if ok {
		return 1
	}
	return 0
}
