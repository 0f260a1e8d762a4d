package inbox_test

import (
	"bytes"
	"math/rand"
	"testing"

	"halyard/api"
	"halyard/inbox"
)

// orders: each row of so many numbers out of n.
func orders(n, long int, see func(row []int)) {
	row := make([]int, long)
	var fill func(i int)
	fill = func(i int) {
		if i == long {
			see(row)
			return
		}
		for row[i] = 0; row[i] < n; row[i]++ {
			fill(i + 1)
		}
	}
	fill(0)
}

// follow: the units of a block come in that order: Partial till all have come, Whole with the block from then on.
func follow(t *testing.T, x *inbox.Inbox, l []api.Unit, row []int, block []byte, between func()) {
	t.Helper()
	come := map[int]bool{}
	for _, i := range row {
		come[i] = true
		between()
		a := x.Take(l[i])
		if all := len(come) == len(l); all != (a.State == inbox.Whole) || all && !bytes.Equal(a.Block, block) || !all && (a.State != inbox.Partial || len(a.Block) > 0) {
			t.Fatalf("P1307: %d units in the order %v: behind %d: %+v", len(l), row, i, a)
		}
	}
}

// TestAnyOrder: each row of six units out of those of a block of one to four segments.
func TestAnyOrder(t *testing.T) {
	for count := 1; count <= 4; count++ {
		block := []byte("abcdefgh")[:2*count-1]
		l := units(t, 1, 1, block, 2)
		orders(count, 6, func(row []int) {
			follow(t, fresh(t, 1, 1), l, row, block, func() {})
		})
	}
}

// TestSessionsInBetween: many sessions whose units come mixed, by any order and repeatedly, while others are decided and dropped: each block comes together as if it were alone.
func TestSessionsInBetween(t *testing.T) {
	for seed := range int64(200) {
		r := rand.New(rand.NewSource(seed))
		x := fresh(t, 8, 8)
		noise := func() {
			n := 2 + uint64(r.Intn(7))
			s := inbox.Session{Epoch: 3, Number: n}
			switch r.Intn(6) {
			case 0:
				x.Decide(s, 1+r.Intn(7))
			case 1:
				x.Drop(s)
			case 2:
				x.Take(data(2, 1, 0, 1, "z"))
			case 3:
				x.Take(data(3, 1, 0, 0, "z"))
			default:
				x.Take(data(3, n, r.Intn(3), 3, "zz"))
			}
		}
		block := make([]byte, 1+r.Intn(1024))
		r.Read(block)
		l := units(t, 3, 1, block, max(16, 1+r.Intn(len(block))))
		var row []int
		for len(row) < len(l)*4 {
			row = append(row, r.Intn(len(l)))
		}
		row = append(row, r.Perm(len(l))...)
		row = append(row, r.Intn(len(l)))
		follow(t, x, l, row, block, noise)
		decides(t, x, 3, 1, api.Stored, api.OK)
		for _, u := range l {
			takes(t, x, u, decided(api.Stored))
		}
	}
}

// TestDecidedOnce: behind a Decide with OK each unit is answered with its code, as long as its session is told among the decided ones.
func TestDecidedOnce(t *testing.T) {
	for seed := range int64(200) {
		r := rand.New(rand.NewSource(seed))
		x := fresh(t, 1+r.Intn(4), 1+r.Intn(6))
		codes := map[inbox.Session]int{}
		c := &chance{r, 1, 10}
		for range 300 {
			s, u := c.session(), c.unit()
			if code := r.Intn(8); r.Intn(5) == 0 && x.Decide(s, code) == api.OK {
				codes[s] = code
			}
			remembered := false
			of := inbox.Session{Epoch: u.Epoch, Number: u.Session}
			for _, d := range x.Decided() {
				remembered = remembered || d == of
			}
			a := x.Take(u)
			if good := u.Kind == api.Data && u.Count > 0 && u.Count <= 64 && u.Index >= 0 && u.Index < u.Count && len(u.Data) > 0 && len(u.Data) <= 1024; remembered && good && (a.State != inbox.Decided || a.Code != codes[of]) {
				t.Fatalf("P1308: %v was decided with %d: %+v", of, codes[of], a)
			}
			if !remembered && a.State == inbox.Decided {
				t.Fatalf("P1308: %v is not decided: %+v", of, a)
			}
		}
	}
}

// TestManySessions: far more of them than there is room for, one behind the other: the latest ones are there.
func TestManySessions(t *testing.T) {
	x := fresh(t, 64, 4096)
	const many = 20000
	for n := uint64(1); n <= many; n++ {
		takes(t, x, data(1, n, 0, 2, "a"), partial(0, 1))
		if n > 50 {
			decides(t, x, 1, n-50, 1+int(n%7), api.OK)
		}
	}
	if l := x.Open(); len(l) != 50 || l[0].Number != many-49 || l[49].Number != many {
		t.Errorf("P1309: Open %v", l)
	}
	if l := x.Decided(); len(l) != 4096 || l[0].Number != many-50-4095 || l[4095].Number != many-50 {
		t.Errorf("P1309: Decided has %d, from %v on", len(l), l[0])
	}
}
