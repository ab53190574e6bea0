package tests

import "loop.example/g00601/impl"

// plainStep is what the document says of a step of a right worker over a right store at a right now; it does not lean on the program.
func plainStep(x impl.Store, w impl.Worker, now int) (impl.Store, impl.Worker, int) {
	phases := [...]func(impl.Store, impl.Worker, int) (impl.Store, impl.Worker, int){
		plainIdle, plainAcquire, plainClaim, plainPlan, plainFetch, plainPutPhase, plainAppend, plainRelease,
	}
	y, v, code := phases[w.Phase](x, copiedWorker(w), now)
	switch code {
	case impl.OK:
		return y, v, code
	case impl.ErrIdle:
		return x, w, code
	}
	return x, impl.Worker{Id: w.Id}, code
}

func plainIdle(x impl.Store, w impl.Worker, now int) (impl.Store, impl.Worker, int) {
	s := plainState(x)
	_, _, due := plainDue(s)
	_, old := plainExpired(s, now)
	if !due && !old {
		return x, w, impl.ErrIdle
	}
	w.Phase = 1
	return x, w, impl.OK
}

func plainAcquire(x impl.Store, w impl.Worker, now int) (impl.Store, impl.Worker, int) {
	var l impl.Lease
	if text, there := objectOf(x, "lease"); there {
		read, ok := plainLeaseOf(text)
		if !ok {
			return x, w, impl.ErrDamaged
		}
		l = read
	}
	if l.Until != 0 && l.Until+6 >= now {
		return x, w, impl.ErrHeld
	}
	if l.Token == 999999 {
		return x, w, impl.ErrFull
	}
	w.Token, w.Phase = l.Token+1, 2
	y, code := plainPut(x, "lease", leaseWritten(impl.Lease{Token: w.Token, Owner: w.Id, Until: now + 20}))
	return y, w, code
}

func plainClaim(x impl.Store, w impl.Worker, _ int) (impl.Store, impl.Worker, int) {
	w.Phase = 3
	y, code := appended(x, claiming(w.Token))
	return y, w, code
}

func plainPlan(x impl.Store, w impl.Worker, now int) (impl.Store, impl.Worker, int) {
	s := plainState(x)
	if s.Fence != w.Token {
		return x, w, impl.ErrStale
	}
	if tier, window, due := plainDue(s); due {
		w.Job = publishing(w.Token, tier, window.from, window.to)
		w.Inputs, w.Got, w.Phase = plainSpanned(s, tier-1, window), impl.Agg{}, 4
	} else if e, old := plainExpired(s, now); old {
		w.Job, w.Phase = retiring(w.Token, e), 6
	} else {
		w.Phase = 7
	}
	return x, w, impl.OK
}

func plainFetch(x impl.Store, w impl.Worker, _ int) (impl.Store, impl.Worker, int) {
	if len(w.Inputs) > 0 {
		e := w.Inputs[0]
		data, there := objectOf(x, e.Key)
		if !there {
			return x, w, impl.ErrNone
		}
		a, ok := plainWindow(e.Tier, data, span{w.Job.From, w.Job.To})
		if !ok {
			return x, w, impl.ErrDamaged
		}
		w.Got = plainMerged(w.Got, a)
		if w.Got.Count > 1000 {
			return x, w, impl.ErrMany
		}
		w.Inputs = w.Inputs[1:]
	}
	if len(w.Inputs) == 0 {
		w.Phase = 5
	}
	return x, w, impl.OK
}

func plainPutPhase(x impl.Store, w impl.Worker, _ int) (impl.Store, impl.Worker, int) {
	w.Phase = 6
	if _, there := objectOf(x, w.Job.Key); there {
		return x, w, impl.OK
	}
	data := ""
	if w.Got.Count > 0 {
		data = bucketsWritten([]impl.Bucket{{From: w.Job.From, Agg: w.Got}})
	}
	y, code := plainPut(x, w.Job.Key, data)
	return y, w, code
}

func plainAppend(x impl.Store, w impl.Worker, _ int) (impl.Store, impl.Worker, int) {
	if plainState(x).Fence != w.Token {
		return x, w, impl.ErrStale
	}
	y, code := appended(x, w.Job)
	w.Job, w.Got, w.Phase = impl.Record{}, impl.Agg{}, 3
	return y, w, code
}

func plainRelease(x impl.Store, w impl.Worker, _ int) (impl.Store, impl.Worker, int) {
	text, there := objectOf(x, "lease")
	l, ok := plainLeaseOf(text)
	switch {
	case there && !ok:
		return x, w, impl.ErrDamaged
	case !there || l.Token != w.Token || l.Owner != w.Id || l.Until == 0:
		return x, w, impl.ErrStale
	}
	l.Until = 0
	y, code := plainPut(x, "lease", leaseWritten(l))
	return y, impl.Worker{Id: w.Id}, code
}
