package pdu

import (
	"halyard/api"
	"halyard/octet"
)

// maxRanges: what a least form of the numbers of all segments has at most.
const maxRanges = (api.MaxSegments + 1) / 2

// kind: what the units of a Kind have of their own, behind Epoch and Session.
type kind struct {
	number int
	good   func(u api.Unit) bool
	lay    func(out []byte, u api.Unit) []byte
	read   func(r *octet.Reader, u *api.Unit)
}

// kinds: all there are.
func kinds() []kind {
	return []kind{
		{api.Data, goodData, layData, readData},
		{api.Report, goodReport, layReport, readReport},
		{api.Cancel, goodCancel, layCancel, readCancel},
	}
}

// kindOf: the kind with that number, and whether there is one.
func kindOf(number int) (kind, bool) {
	for _, k := range kinds() {
		if k.number == number {
			return k, true
		}
	}
	return kind{}, false
}

func goodData(u api.Unit) bool {
	return goodPath(u.Path) && goodIndex(u.Index) && goodCount(u.Index, u.Count) && goodBytes(u.Data) && reportless(u)
}

func layData(out []byte, u api.Unit) []byte {
	return octet.AppendBytes(lay(out, uint64(u.Path), uint64(u.Index), uint64(u.Count)), u.Data)
}

func readData(r *octet.Reader, u *api.Unit) {
	u.Path = small(r)
	must(r, goodPath(u.Path))
	u.Index = small(r)
	must(r, goodIndex(u.Index))
	u.Count = small(r)
	must(r, goodCount(u.Index, u.Count))
	u.Data = r.Bytes(api.MaxBlock)
	must(r, goodBytes(u.Data))
}

func goodReport(u api.Unit) bool {
	return dataless(u) && goodCode(u.Code) && goodGot(u.Got) && (u.Code == 0 || len(u.Got) == 0)
}

func layReport(out []byte, u api.Unit) []byte {
	out = lay(out, uint64(u.Code))
	if u.Code != 0 {
		return out
	}
	out = lay(out, uint64(len(u.Got)))
	for i, x := range u.Got {
		out = lay(out, uint64(x.From-end(u.Got[:i])), uint64(x.To-x.From))
	}
	return out
}

func readReport(r *octet.Reader, u *api.Unit) {
	u.Code = small(r)
	must(r, goodCode(u.Code))
	if u.Code != 0 {
		return
	}
	count := small(r)
	must(r, count <= maxRanges)
	for len(u.Got) < count && r.Err() == api.OK {
		u.Got = append(u.Got, readRange(r, u.Got))
	}
}

func goodCancel(u api.Unit) bool { return dataless(u) && reportless(u) }

func layCancel(out []byte, u api.Unit) []byte { return out }

func readCancel(r *octet.Reader, u *api.Unit) {}

// dataless: has it nothing in what only Data has?
func dataless(u api.Unit) bool {
	return u.Path == 0 && u.Index == 0 && u.Count == 0 && len(u.Data) == 0
}

// reportless: has it nothing in what only a Report has?
func reportless(u api.Unit) bool { return u.Code == 0 && len(u.Got) == 0 }

func goodPath(path int) bool { return path == api.Express || path == api.Freight }

// goodIndex: may a segment have that Index, whatever its Count is?
func goodIndex(index int) bool { return index >= 0 && index < api.MaxSegments }

func goodCount(index, count int) bool { return count > index && count <= api.MaxSegments }

func goodBytes(data []byte) bool { return len(data) >= 1 && len(data) <= api.MaxBlock }

func goodCode(code int) bool { return code >= 0 && code <= api.Cancelled }

// goodGot: is it a least form of segments' numbers?
func goodGot(l []api.Range) bool {
	for i, x := range l {
		if !goodRange(l[:i], x) {
			return false
		}
	}
	return true
}

// goodRange: may that range of segments' numbers stand behind these?
func goodRange(ahead []api.Range, x api.Range) bool {
	free := 0
	if len(ahead) > 0 {
		free = end(ahead) + 1 // one number at least is between two neighbours
	}
	return x.From >= free && x.From < x.To && x.To <= api.MaxSegments
}

// readRange: the range at the Reader's place, behind these.
func readRange(r *octet.Reader, ahead []api.Range) (x api.Range) {
	distance := small(r)
	x.From = end(ahead) + distance
	size := small(r)
	x.To = x.From + size
	must(r, goodRange(ahead, x))
	return x
}

// end: where the last range ends; 0, if there is none.
func end(l []api.Range) int {
	if len(l) == 0 {
		return 0
	}
	return l[len(l)-1].To
}
