package disk

import "halyard/api"

// text: what stands in a sector.
type text [api.SectorSize]byte

// textOf: the text of these bytes.
func textOf(b []byte) text {
	var t text
	copy(t[:], b)
	return t
}

// sector: what a disk holds for good in one place. A torn one is unreadable, and its text is all zeros.
type sector struct {
	text text
	torn bool
}

// after: the sector, when of its versions the one of this number has reached the disk; 0: none has; a number of no version: something has that can't be read.
func (s sector) after(number int, versions []text) sector {
	switch {
	case number == 0:
		return s
	case number > 0 && number <= len(versions):
		return sector{text: versions[number-1]}
	}
	return sector{torn: true}
}
