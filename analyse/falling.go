package analyse

// falling is places, each once, of which the greatest is told first.
type falling struct {
	seen map[int]struct{} // those that were put and have not been told
	wait []int            // they as a tree, the two below i being 2i+1 and 2i+2, with no place above what is below it
}

func newFalling() *falling {
	return &falling{seen: map[int]struct{}{}}
}

func (f *falling) isEmpty() bool {
	return len(f.wait) == 0
}

func (f *falling) has(place int) bool {
	_, is := f.seen[place]
	return is
}

// greatest is the place that next would tell.
func (f *falling) greatest() int {
	return f.wait[0]
}

// put takes a place, if it does not wait already.
func (f *falling) put(place int) {
	if f.has(place) {
		return
	}
	f.seen[place] = struct{}{}
	f.wait = append(f.wait, place)
	for i := len(f.wait) - 1; i > 0 && f.wait[i] > f.wait[(i-1)/2]; i = (i - 1) / 2 {
		f.swap(i, (i-1)/2)
	}
}

// next tells the greatest place and forgets it.
func (f *falling) next() int {
	place, last := f.wait[0], len(f.wait)-1
	f.swap(0, last)
	f.wait = f.wait[:last]
	for i, down := 0, f.below(0); down != i; i, down = down, f.below(down) {
		f.swap(i, down)
	}
	delete(f.seen, place)
	return place
}

// below is where the greater of the two below i stands, or i, if neither is above what stands there.
func (f *falling) below(i int) int {
	out := i
	for down := 2*i + 1; down <= 2*i+2 && down < len(f.wait); down++ {
		if f.wait[down] > f.wait[out] {
			out = down
		}
	}
	return out
}

func (f *falling) swap(i, j int) {
	f.wait[i], f.wait[j] = f.wait[j], f.wait[i]
}
