package disk

import "halyard/api"

// rowSize: a sector's bytes in an image: a mark ahead of its text.
const rowSize = api.SectorSize + 1

// The marks of a sector in an image.
const (
	readable   = 0
	unreadable = 1
)

// Load: the disk that has these durable bytes.
func Load(image []byte) (*Disk, api.Errno) {
	if len(image)%rowSize != 0 {
		return nil, api.ErrArg
	}
	d, e := New(len(image) / rowSize)
	if e != api.OK {
		return nil, e
	}
	for i := range d.sectors {
		s, good := sectorOf(row(image, i))
		if !good {
			return nil, api.ErrArg
		}
		d.sectors[i] = s
	}
	return d, api.OK
}

// Image: the durable bytes: for each sector one byte (1: unreadable) and its bytes.
func (d *Disk) Image() []byte {
	image := make([]byte, d.Sectors()*rowSize)
	for i := range d.Sectors() {
		d.sectors[i].lay(row(image, i))
	}
	return image
}

// row: the bytes of sector i, and no room behind them.
func row(image []byte, i int) []byte {
	from, to := i*rowSize, (i+1)*rowSize
	return image[from:to:to]
}

// sectorOf: the sector that has this row; false, if none has.
func sectorOf(b []byte) (sector, bool) {
	s := sector{text: textOf(b[1:]), torn: b[0] == unreadable}
	return s, b[0] == readable || s.torn && s.text == text{}
}

// lay: writes the sector into its row, which has been zeros.
func (s sector) lay(b []byte) {
	if s.torn {
		b[0] = unreadable
	}
	copy(b[1:], s.text[:])
}
